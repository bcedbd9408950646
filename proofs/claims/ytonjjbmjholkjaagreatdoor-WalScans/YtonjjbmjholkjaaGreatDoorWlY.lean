/-
  What a law keeps of a wal, from call to call.
-/
import Derived.Test.YtonjjbmjholkjaaGreatDoorWlX
namespace Go.Proofs.YtonjjbmjholkjaaGreatDoor
open Go.RowKit Go.Shelf

/-- All blocks of a wal and of its disk. -/
def All (x : Wl) (h : Wh) (k : Nat) : Prop := k = x.Wb ∨ Fp x h k

theorem WalW.kept {w w' : World} {n₀ : Nat} {x : Wl} {h : Wh} {no nf : Nat} {d : Dk} (s : WalW w n₀ x h no nf d) (hk : ∀ k, All x h k → w'.heap[k]? = w.heap[k]?) : WalW w' n₀ x h no nf d :=
  ⟨by rw [hk _ (.inl rfl), s.wb], (hk _ (.inr (.inl (.inl rfl)))).trans s.lb, ⟨s.im.ob.kept (fun b e => hk b (.inr (.inl (.inr (.inl e.symm))))), row_kept s.im.st (fun b e => hk b (.inr (.inl (.inr (.inr e.symm))))), s.im.hg, s.im.lt, s.im.ll, s.im.len⟩,
    s.dk.kept (fun k e => hk k (.inr (.inr e))), s.hW, s.hL, s.hg, s.hs⟩

theorem WalW.lt {w : World} {n₀ : Nat} {x : Wl} {h : Wh} {no nf : Nat} {d : Dk} (s : WalW w n₀ x h no nf d) {k : Nat} (hk : All x h k) : k < w.heap.size := by
  rcases hk with rfl | (rfl | e | e) | e
  · exact bl_lt s.wb
  · exact bl_lt s.lb
  · exact (s.glt e.symm).1
  · exact (s.slt e.symm).1
  · exact s.dk.lt e

theorem WalW.later {w w' : World} {n₀ : Nat} {x : Wl} {h : Wh} {no nf : Nat} {d : Dk} (s : WalW w n₀ x h no nf d) (hb : Below w.heap.size w w') : WalW w' n₀ x h no nf d := s.kept (fun _ hk => hb.block _ (s.lt hk))

/-- What kinds of blocks these are. -/
def Wt (T : TypeId) : Prop := T = 54 ∨ T = 72 ∨ T = 5 ∨ T = 3 ∨ T = 51 ∨ T = 117 ∨ T = 104 ∨ T = 113

theorem cty {w : World} {a : Nat} {c c' : Array Value} {t t' : TypeId} {f f' : Nat × Nat} (h : w.heap[a]? = some (.cells c t f)) (h' : w.heap[a]? = some (.cells c' t' f')) : t = t' := by
  rw [h] at h'
  cases h'
  rfl

theorem WalW.typed {w : World} {n₀ : Nat} {x : Wl} {h : Wh} {no nf : Nat} {d : Dk} (s : WalW w n₀ x h no nf d) {k : Nat} (hk : All x h k) {c : Array Value} {T : TypeId} (hc : w.heap[k]? = some (.cells c T (0, 0))) : Wt T := by
  rcases hk with rfl | (rfl | e | e) | e | e | e | e | e | e | e
  · exact .inl (cty hc s.wb)
  · exact .inr (.inl (cty hc s.lb))
  · rcases s.im.ob with ⟨_, _, q⟩ | ⟨b', _, _, _, _, q2, q3, _⟩
    · rw [q] at e; cases e
    · rw [q2] at e; cases e; exact .inr (.inr (.inl (cty hc q3)))
  · obtain ⟨_, _, c2, hc2⟩ := row_own s.im.st e.symm
    exact .inr (.inr (.inr (.inl (cty hc hc2))))
  · subst e; exact .inr (.inr (.inr (.inr (.inl (cty hc s.dk.b)))))
  · subst e; exact .inr (.inr (.inr (.inr (.inr (.inl (cty hc s.dk.z))))))
  · subst e
    obtain ⟨cL, hL⟩ := s.dk.lcells
    exact .inr (.inr (.inr (.inr (.inr (.inr (.inl (cty hc hL)))))))
  · subst e; exact .inr (.inr (.inr (.inr (.inr (.inr (.inr (cty hc s.dk.p.b)))))))
  · exact absurd e.symm (s.dk.p.o.ne hc)
  · exact absurd e.symm (s.dk.p.f.ne hc)
  · obtain ⟨c2, hc2⟩ := s.dk.gcells e
    exact .inr (.inr (.inl (cty hc hc2)))

/-- A wal as a law holds it: the records that are sure, and those that may be. -/
structure WS (w0 W : World) (x : Wl) (h : Wh) (d : Dk) (S M : List (List UInt8)) : Prop where
  b : Below w0.heap.size w0 W
  wal : WalW W w0.heap.size x h 0 0 d
  ge : ∀ k, h.has k → w0.heap.size ≤ k
  bytes : d.lo.bytes = cat S ++ cat M
  sure : d.lo.sure = (cat S).length
  base : d.lo.base = 0
  fresh : d.fresh = none'
  fs : Fit S
  fm : Fit M

theorem WS.all {w0 W : World} {x : Wl} {h : Wh} {d : Dk} {S M : List (List UInt8)} (s : WS w0 W x h d S M) {k : Nat} (hk : All x h k) : w0.heap.size ≤ k := by
  rcases hk with rfl | (rfl | e | e) | e
  · exact s.wal.hW
  · exact s.wal.hL
  · exact s.wal.im.hg _ e.symm
  · exact (row_own s.wal.im.st e.symm).1
  · exact s.ge _ e

theorem WS.later {w0 W W' : World} {x : Wl} {h : Wh} {d : Dk} {S M : List (List UInt8)} (s : WS w0 W x h d S M) (hb : Below W.heap.size W W') : WS w0 W' x h d S M :=
  ⟨s.b.trans (hb.mono s.b.size), s.wal.later hb, s.ge, s.bytes, s.sure, s.base, s.fresh, s.fs, s.fm⟩

/-- The law has written into a block of another kind. -/
theorem WS.law {w0 W W' : World} {x : Wl} {h : Wh} {d : Dk} {S M : List (List UInt8)} (s : WS w0 W x h d S M) {P : Nat → Prop} (hC : Chg P W W') (hP : ∀ k, P k → w0.heap.size ≤ k ∧ ∃ c T, W.heap[k]? = some (.cells c T (0, 0)) ∧ ¬ Wt T) : WS w0 W' x h d S M :=
  ⟨s.b.trans (hC.below s.b.size (fun k hk => (hP k hk).1)), s.wal.kept (fun k hk => hC.block k (s.wal.lt hk) (fun hp => by
    obtain ⟨_, c, T, hc, hn⟩ := hP k hp
    exact hn (s.wal.typed hk hc))), s.ge, s.bytes, s.sure, s.base, s.fresh, s.fs, s.fm⟩

theorem WS.tab {w0 W : World} {x : Wl} {h : Wh} {d : Dk} {S M : List (List UInt8)} (s : WS w0 W x h d S M) (hT : Tab w0) : Tab W := hT.later s.b hT.pos

theorem WS.zero {w0 W : World} {x : Wl} {h : Wh} {d : Dk} {S M : List (List UInt8)} (s : WS w0 W x h d S M) (hT : Tab w0) : ¬ h.has 0 := fun hk => by have := s.ge 0 hk; have := hT.pos; omega

theorem ge_mf {n : Nat} {h : Wh} (hge : ∀ k, h.has k → n ≤ k) {m : Nat} (hm : m = h.mf ∨ n ≤ m) : ∀ k, Wh.has { h with mf := m } k → n ≤ k := fun k hk => by
  rcases hk with e | e | e | e | e | e | e
  · exact hge k (.inl e)
  · exact hge k (.inr (.inl e))
  · exact hge k (.inr (.inr (.inl e)))
  · exact hge k (.inr (.inr (.inr (.inl e))))
  · exact hge k (.inr (.inr (.inr (.inr (.inl e)))))
  · dsimp only at e
    rcases hm with q | q
    · exact hge k (.inr (.inr (.inr (.inr (.inr (.inl (by rw [e, q])))))))
    · omega
  · exact hge k (.inr (.inr (.inr (.inr (.inr (.inr e))))))

theorem ge_g {n : Nat} {h : Wh} (hge : ∀ k, h.has k → n ≤ k) {g : Option Nat} (hg : g = h.g ∨ ∃ b, g = some b ∧ n ≤ b) : ∀ k, Wh.has { h with g := g } k → n ≤ k := fun k hk => by
  rcases hk with e | e | e | e | e | e | e
  · exact hge k (.inl e)
  · exact hge k (.inr (.inl e))
  · exact hge k (.inr (.inr (.inl e)))
  · exact hge k (.inr (.inr (.inr (.inl e))))
  · exact hge k (.inr (.inr (.inr (.inr (.inl e)))))
  · exact hge k (.inr (.inr (.inr (.inr (.inr (.inl e))))))
  · dsimp only at e
    rcases hg with q | ⟨b, q, q2⟩
    · exact hge k (.inr (.inr (.inr (.inr (.inr (.inr (by rw [e, q])))))))
    · rw [q] at e; cases e; exact q2

theorem Fit.app {a b : List (List UInt8)} (ha : Fit a) (hb : Fit b) : Fit (a ++ b) := fun x hx => (List.mem_append.1 hx).elim (ha x) (hb x)

theorem Fit.take {a : List (List UInt8)} (ha : Fit a) (k : Nat) : Fit (a.take k) := fun x hx => ha x (List.mem_of_mem_take hx)

theorem ws_open {w0 W : World} (hT : Tab w0) (hb : Below w0.heap.size w0 W) {h : Wh} {lo : Lo} {c : Int} {old : Pf} (hd : DkW W h 0 0 (dk lo c old)) (hge : ∀ k, h.has k → w0.heap.size ≤ k) (hbase : lo.base = 0) (l : List (List UInt8)) (t : List UInt8) (hl : lo.bytes = cat l ++ t) (ht : (takeR t).2.2 ≠ 0) (hf : Fit l) :
    Calls Tryz.prog 11 #[.pointer (some ⟨h.B, 0, none⟩)] W fun e w' => ∃ x h' d xs v, e = .returned (.tuple #[.pointer (some ⟨x.Wb, 0, none⟩), v, .int .i64 0]) ∧ h'.B = h.B ∧ WS w0 w' x h' d l [] ∧ d.off = false ∧ d.left = -1 ∧ d.lo.most = lo.most ∧
      xs.map Itv.it = its 0 l ∧ w'.ownsRow W.heap.size 59 2 v xs.length (ecs 0 xs) ∧ Inn w' W.heap.size xs ∧ Chg h.has W w' := by
  have h0 : ¬ h.has 0 := fun hk => by have := hge 0 hk; have := hT.pos; omega
  refine (Open_any h 0 0 lo c old W (hT.later hb hT.pos) hd hbase (by decide) h0).mono ?_
  rintro e w' ⟨x, mf', no', nf', xs, v, rfl, hW, hC, hmf, hnn, hm, hrow, hin⟩
  obtain rfl : no' = 0 := by omega
  obtain rfl : nf' = 0 := by omega
  have hr : rcs 0 lo.bytes = its 0 l := by rw [hl]; exact rcs_cat l hf t ht 0
  have he : endL 0 (rcs 0 lo.bytes) = (cat l).length := by rw [hr, endL_its]; omega
  have hk : lo.bytes.take (endL 0 (rcs 0 lo.bytes)) = cat l := by rw [he, hl, List.take_left]
  rw [hk, he] at hW
  rw [hk] at hm
  have hr2 : rcs 0 (cat l) = its 0 l := by have := rcs_cat l hf [] takeR_nil 0; rwa [List.append_nil] at this
  rw [hr2] at hm
  have hsz := hb.size
  have hW0 : WalW w' w0.heap.size x { h with mf := mf' } 0 0 (dk { lo with bytes := cat l, sure := (cat l).length } c (over none' old)) :=
    ⟨hW.wb, hW.lb, hW.im.more hsz, hW.dk, Nat.le_trans hsz hW.hW, Nat.le_trans hsz hW.hL, hW.hg, hW.hs⟩
  exact ⟨x, { h with mf := mf' }, _, xs, v, rfl, rfl, ⟨hb.trans (hC.below hsz hge), hW0, ge_mf hge (hmf.imp id (fun q => Nat.le_trans hsz q)), by simp [dk, cat_nil], rfl, hbase, rfl, hf, fun x hx => by simp at hx⟩, rfl, rfl, rfl, hm, hrow, hin, hC⟩

theorem app_dk (d : Dk) (r : List UInt8) : (d.app r).2.2.fresh = d.fresh ∧ (d.app r).2.2.lo.sure = d.lo.sure ∧ (d.app r).2.2.lo.base = d.lo.base ∧ (d.app r).2.2.lo.most = d.lo.most ∧ (d.off = false → d.left = -1 → (d.app r).2.2.off = false ∧ (d.app r).2.2.left = -1) := by
  have hb : d.off = false → d.left = -1 → d.burnt.off = false ∧ d.burnt.left = -1 := fun h1 h2 => by
    unfold Dk.burnt burnOff burnLeft
    rw [h1, h2]
    exact ⟨rfl, rfl⟩
  unfold Dk.app
  split
  · exact ⟨rfl, rfl, rfl, rfl, fun h1 h2 => ⟨h1, h2⟩⟩
  · split
    · exact ⟨rfl, rfl, rfl, rfl, fun h1 h2 => ⟨h1, h2⟩⟩
    · split
      · exact ⟨rfl, rfl, rfl, rfl, hb⟩
      · exact ⟨rfl, rfl, rfl, rfl, hb⟩

theorem app_room (d : Dk) (r : List UInt8) (h : (d.lo.bytes.length : Int) + r.length ≤ d.lo.most) : (d.app r).2.1 = 0 ∨ (d.app r).2.1 = 9 := by
  unfold Dk.app
  split
  · exact .inr rfl
  · split
    · exact .inr rfl
    · exact .inl rfl

theorem app_on (d : Dk) (r : List UInt8) (h : (d.lo.bytes.length : Int) + r.length ≤ d.lo.most) (h1 : d.off = false) (h2 : d.left = -1) : (d.app r).2.1 = 0 := by
  unfold Dk.app
  have h' : ¬ ¬ ((d.lo.bytes.length : Int) + r.length ≤ d.lo.most) := fun q => q h
  rw [if_neg (by simp [h1]), if_neg h', if_neg (by omega)]

theorem ws_append {w0 W : World} (hT : Tab w0) {x : Wl} {h : Wh} {d : Dk} {S M : List (List UInt8)} (s : WS w0 W x h d S M) (ao : Option Addr) (m cap : Nat) (b : List UInt8) (hr : Rd W ao m cap b) (hm : m ≤ 1048576) (hroom : ((cat S ++ cat M).length : Int) + (recBytes b).length ≤ d.lo.most) :
    Calls Tryz.prog 12 #[.pointer (some ⟨x.Wb, 0, none⟩), .slice ao m cap] W fun e w' => ∃ (at_ : Nat) (f : Int) (x' : Wl) (h' : Wh) (d' : Dk), e = .returned (.tuple #[.int .i64 (at_ : Int), .int .i64 f]) ∧ x'.Wb = x.Wb ∧ h'.B = h.B ∧
      ((f = 0 ∧ at_ = (cat S ++ cat M).length ∧ WS w0 w' x' h' d' S (M ++ [b])) ∨ (f = 9 ∧ at_ = 0 ∧ WS w0 w' x' h' d' S M)) ∧ d'.lo.most = d.lo.most ∧ (d.off = false → d.left = -1 → f = 0 ∧ d'.off = false ∧ d'.left = -1) ∧ Chg (Fp x h) W w' := by
  have hbl : b.length ≤ 1048576 := by rw [hr.1]; exact hm
  refine (wappend_any w0.heap.size x h 0 0 d ao m cap b W hT.pos (s.tab hT) (s.zero hT) s.wal s.base hr hm).mono ?_
  rintro e w' ⟨rfl, x', g', e1, e2, hW, hC, hg, hgb, hvs⟩
  have hsz := s.b.size
  have hbw : Below w0.heap.size w0 w' := s.b.trans (hC.below hsz (fun k hk => s.all (.inr hk)))
  have hge := ge_g s.ge (hg.imp id (fun ⟨k, q, hk⟩ => ⟨k, q, Nat.le_trans hsz hk⟩))
  have hrm : (d.lo.bytes.length : Int) + (recBytes b).length ≤ d.lo.most := by rw [s.bytes]; exact hroom
  obtain ⟨q1, q2, q3, q4, q5⟩ := app_dk d (recBytes b)
  have on := fun h1 h2 => app_on d (recBytes b) hrm h1 h2
  rcases app_room d (recBytes b) hrm with hz | hz
  · obtain ⟨p1, p2, p3⟩ := app_good d _ hz
    have hfin : d.lo.fin = ((cat S ++ cat M).length : Int) := by
      have := s.wal.im.len
      unfold Lo.fin
      rw [IntKind.wrap_i64, s.base, ← s.bytes]
      omega
    rw [hfin] at p1
    refine ⟨(cat S ++ cat M).length, 0, x', { h with g := g' }, (d.app (recBytes b)).2.2, by rw [p1, hz], e1, rfl, .inl ⟨rfl, rfl, hbw, hW, hge, ?_, ?_, ?_, ?_, s.fs, s.fm.app (fun y hy => by rw [List.mem_singleton] at hy; rw [hy]; exact hbl)⟩, q4, fun h1 h2 => ⟨rfl, q5 h1 h2⟩, hC⟩
    · rw [p2, cat_append, cat_one, ← List.append_assoc, ← s.bytes]
    · rw [q2, s.sure]
    · rw [q3, s.base]
    · rw [q1, s.fresh]
  · obtain ⟨p1, p2⟩ := app_bad d (recBytes b) (by rw [hz]; decide)
    refine ⟨0, 9, x', { h with g := g' }, (d.app (recBytes b)).2.2, by rw [p1, hz]; rfl, e1, rfl, .inr ⟨rfl, rfl, hbw, hW, hge, ?_, ?_, ?_, ?_, s.fs, s.fm⟩, q4, fun h1 h2 => (by rw [on h1 h2] at hz; cases hz), hC⟩
    · rw [p2, s.bytes]
    · rw [q2, s.sure]
    · rw [q3, s.base]
    · rw [q1, s.fresh]

theorem ws_sync {w0 W : World} {x : Wl} {h : Wh} {d : Dk} {S M : List (List UInt8)} (s : WS w0 W x h d S M) :
    Calls Tryz.prog 15 #[.pointer (some ⟨x.Wb, 0, none⟩)] W fun e w' => ∃ (f : Int) (x' : Wl) (h' : Wh) (d' : Dk), e = .returned (.int .i64 f) ∧ x'.Wb = x.Wb ∧ h'.B = h.B ∧ ((f = 0 ∧ WS w0 w' x' h' d' (S ++ M) []) ∨ (f = 9 ∧ WS w0 w' x' h' d' S M)) ∧ d'.lo.most = d.lo.most ∧
      (d.off = false → d.left = -1 → f = 0 ∧ d'.off = false ∧ d'.left = -1) ∧ Chg (Fp x h) W w' := by
  refine (wsync_any w0.heap.size x h 0 0 d W s.wal (by decide)).mono ?_
  rintro e w' ⟨rfl, mf', no', nf', s', hW, hC, hmf, hnn⟩
  obtain rfl : no' = 0 := by omega
  obtain rfl : nf' = 0 := by omega
  have hsz := s.b.size
  have hbw : Below w0.heap.size w0 w' := s.b.trans (hC.below hsz (fun k hk => s.all (.inr hk)))
  have hge := ge_mf s.ge (hmf.imp id (fun q => Nat.le_trans hsz q))
  obtain ⟨q1, q2, q3⟩ := sync_bytes d
  rcases sync_two d with hz | hz
  · have hd : d.sync.2.lo.sure = d.lo.bytes.length ∧ d.sync.2.fresh = none' ∧ (d.off = false → d.left = -1 → d.sync.2.off = false ∧ d.sync.2.left = -1) := by
      unfold Dk.sync at hz ⊢
      split at hz
      · cases hz
      · rename_i h1
        rw [if_neg h1]
        split at hz
        · cases hz
        · rename_i h2
          rw [if_neg h2]
          refine ⟨rfl, rfl, fun h3 h4 => ?_⟩
          unfold Dk.burnt burnOff burnLeft
          rw [h3, h4]
          exact ⟨rfl, rfl⟩
    refine ⟨0, { x with s := s' }, { h with mf := mf' }, d.sync.2, by rw [hz], rfl, rfl, .inl ⟨rfl, hbw, hW, hge, ?_, ?_, ?_, hd.2.1, s.fs.app s.fm, fun y hy => by simp at hy⟩, q3, fun h1 h2 => ⟨rfl, hd.2.2 h1 h2⟩, hC⟩
    · rw [q1, s.bytes, cat_append, cat_nil, List.append_nil]
    · rw [hd.1, s.bytes, cat_append]
    · rw [q2, s.base]
  · have hd : d.sync.2.lo = d.lo ∧ d.sync.2.fresh = d.fresh ∧ ¬ (d.off = false ∧ d.left = -1) := by
      unfold Dk.sync at hz ⊢
      split at hz
      · rename_i h1; rw [if_pos h1]; exact ⟨rfl, rfl, fun q => by rw [q.1] at h1; cases h1⟩
      · rename_i h1
        rw [if_neg h1]
        split at hz
        · rename_i h2; rw [if_pos h2]; exact ⟨rfl, rfl, fun q => by rw [q.2] at h2; cases h2⟩
        · cases hz
    refine ⟨9, { x with s := s' }, { h with mf := mf' }, d.sync.2, by rw [hz], rfl, rfl, .inr ⟨rfl, hbw, hW, hge, ?_, ?_, ?_, ?_, s.fs, s.fm⟩, q3, fun h1 h2 => absurd ⟨h1, h2⟩ hd.2.2, hC⟩
    · rw [hd.1, s.bytes]
    · rw [hd.1, s.sure]
    · rw [hd.1, s.base]
    · rw [hd.2.1, s.fresh]

/-- Behind a crash of the disk. -/
theorem ws_crash {w0 W : World} {x : Wl} {h : Wh} {d : Dk} {S M : List (List UInt8)} (s : WS w0 W x h d S M) (keep : Int) (torn : Bool) (fs : Value) :
    Calls Tryz.prog 20 #[.pointer (some ⟨h.B, 0, none⟩), .int .i64 keep, .bool torn, fs] W fun e w' => (∃ v, e = .returned v) ∧ ∃ (h' : Wh) (lo : Lo) (k : Nat) (t : List UInt8), h'.B = h.B ∧ DkW w' h' 0 0 (dk lo d.count d.old) ∧ (∀ k, h'.has k → w0.heap.size ≤ k) ∧ Below w0.heap.size w0 w' ∧ lo.base = 0 ∧ lo.most = d.lo.most ∧
      k ≤ M.length ∧ lo.bytes = cat (S ++ M.take k) ++ t ∧ (takeR t).2.2 ≠ 0 ∧ Fit (S ++ M.take k) ∧ lo.bytes = d.lo.left keep torn ∧ Chg h.has W w' := by
  refine (dcrash_none h 0 0 d keep torn fs W s.wal.dk s.fresh (by decide)).mono ?_
  rintro e w' ⟨hv, mf', hd, hC, hmf⟩
  obtain ⟨k, t, hk, he, ht⟩ := crash_cat d.lo S M s.bytes s.sure s.fm keep torn
  have hsz := s.b.size
  exact ⟨hv, { h with mf := mf' }, d.lo.crash keep torn, k, t, rfl, hd, ge_mf s.ge (.inr (Nat.le_trans hsz hmf)), s.b.trans (hC.below hsz s.ge), s.base, rfl, hk, he, ht, s.fs.app (s.fm.take k), rfl, hC⟩
end Go.Proofs.YtonjjbmjholkjaaGreatDoor
