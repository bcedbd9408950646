/-
  Rows of texts of a law's own, beside a wal; what WalLasts keeps.
-/
import Derived.Test.YtonjjbmjholkjaaDoorWlK
namespace Go.Proofs.YtonjjbmjholkjaaDoor
open Go.RowKit Go.Shelf

section
variable {P : Program} {w : World}

theorem run_append_from_at (base : Nat) (t tx ty e : TypeId) (i : TypeInfo) (z : Value) (size bytes : Nat) (ht : P.underlying t = some (.slice e)) (hi : P.info? e = some i) (hz : i.zero = some z)
    (hsize : i.size = size) (hby : i.bytes = bytes) (hzs : z.cells.size = size)
    (v : Value) (n : Nat) (xs : List Value) (hown : w.ownsRow base e size v n xs) (x : Value) (m : Nat) (news : List Value) (hs : Src P size tx x m news w)
    (h63 : n + m ≤ maxLen) (hbytes : (n + m) * bytes ≤ 140737488355328) (hbase : base ≤ w.heap.size) :
    ∃ v' w', (Builtin.append_ #[t, tx] ty #[v, x]).run P w = .ok v' w' ∧ w'.ownsRow base e size v' (n + m) (xs ++ news) ∧ w.grownBy w' v.ownBlock ∧ (v'.ownBlock = v.ownBlock ∨ v'.ownBlock = some w.heap.size) := by
  subst hsize
  subst hby
  have hl := hs.newsLen
  have hsmall : n + m ≤ 9223372036854775807 := by simp only [maxLen] at h63; omega
  have hlen : (xs ++ news).length = (n + m) * i.size := by rw [List.length_append, hown.1, hl, Nat.add_mul]
  have grown : ∀ (old : Nat), old < n + m → ∀ (row : Option Nat),
      (w.drew.alloc (.cells ((xs ++ news).toArray ++ Builtin.zeroCells z.cells (grownCap w (n + m) old e - (n + m))) e)).ownsRow base e i.size
        (.slice (some ⟨w.heap.size, 0, none⟩) (n + m) (grownCap w (n + m) old e)) (n + m) (xs ++ news) ∧
      w.grownBy (w.drew.alloc (.cells ((xs ++ news).toArray ++ Builtin.zeroCells z.cells (grownCap w (n + m) old e - (n + m))) e)) row := by
    intro old ho row
    have hge := grownCap_ge w (n + m) old e
    have hcm : grownCap w (n + m) old e ≤ maxLen := grownCap_le_maxLen w (n + m) old e h63
    refine ⟨⟨hlen, .inr ⟨w.heap.size, _, _, rfl, hbase, heap_alloc_new w.drew _, hge, hcm, ?_, ?_⟩⟩, ⟨rfl, rfl, rfl, by simp, fun k hk _ => Below.heap_alloc w.drew _ k hk⟩⟩
    · simp only [Array.size_append, List.size_toArray, size_zeroCells, hzs, hlen, ← Nat.add_mul]
      congr 1
      omega
    · simp only [Array.toList_append]
      rw [← hlen]
      exact List.take_left
  rcases hown.2 with ⟨rfl, rfl⟩ | ⟨g, cap, cur, rfl, hbg, hg, hnc, hcm, hcs, htake⟩
  · have hx : xs = [] := List.eq_nil_of_length_eq_zero (by simpa using hown.1)
    subst hx
    by_cases hm : m = 0
    · subst hm
      have hn : news = [] := List.eq_nil_of_length_eq_zero (by simpa using hl)
      subst hn
      have hcl := hs.cells
      refine ⟨.slice none 0 0, w, ?_, World.ownsRow_nil w base e i.size, ⟨rfl, rfl, rfl, Nat.le_refl _, fun _ _ _ => rfl⟩, .inl rfl⟩
      rcases hs.kind with ⟨e', hk⟩ | hk <;> simp [Builtin.append_, run_underlying ht, run_underlying hk, sizeOf, typeInfo, hi, hs.len, hcl]
    · have hr := run_append_grow_src (P := P) w t tx ty e i z ht hi hz none 0 0 [] (run_firstCells_none w.drew i.size 0 0 0) x m news hs (by omega) (by omega) (growslice_fits (by omega) hbytes)
      have hgr := grown 0 (by omega) (Value.ownBlock (.slice none 0 0))
      exact ⟨_, _, hr, hgr.1, hgr.2, .inr rfl⟩
  · by_cases hroom : n + m ≤ cap
    · have hfit : n * i.size + news.length ≤ cur.size := by rw [hl, hcs, ← Nat.add_mul]; exact Nat.mul_le_mul_right _ hroom
      have hr := run_append_room_from (P := P) t tx ty e i ht hi g n cap cur hg x m news hs hroom hfit
      refine ⟨_, _, hr, ⟨hlen, .inr ⟨g, cap, _, rfl, hbg, setRow_heap w g cur _ e _ hg, hroom, hcm, ?_, ?_⟩⟩, ⟨rfl, rfl, rfl, by simp, fun k _ hk => setRow_other w g k _ (fun e => hk (by simp [Value.ownBlock, e]))⟩, .inl rfl⟩
      · simp only [List.size_toArray, List.length_append, List.length_take, List.length_drop, Array.length_toList]
        omega
      · rw [htake, ← hlen]
        exact List.take_left
    · have holds : ∀ j u, xs[j]? = some u → w.drew.cell? ((⟨g, 0, none⟩ : Addr).add j) = some u := hown.cells (g := g) rfl
      have hr := run_append_grow_src (P := P) w t tx ty e i z ht hi hz (some ⟨g, 0, none⟩) n cap xs (run_firstCells_some w.drew i.size n ⟨g, 0, none⟩ n cap xs hown.1 holds) x m news hs (by omega) (by omega) (growslice_fits (by omega) hbytes)
      have hgr := grown cap (by omega) (Value.ownBlock (.slice (some ⟨g, 0, none⟩) n cap))
      exact ⟨_, _, hr, hgr.1, hgr.2, .inr rfl⟩
end

/-- A row of texts lies behind an address. -/
def Sl (w : World) (ao : Option Addr) (l : List (List UInt8)) : Prop :=
  0 < l.length → ∃ b off, ao = some ⟨b, off, none⟩ ∧ ∀ i (h : i < l.length), w.cell? ⟨b, off + i, none⟩ = some (.string ⟨l[i].toArray⟩)

/-- Texts as cells. -/
def svT (ts : List (List UInt8)) : List Value := ts.map fun t => .string ⟨t.toArray⟩
theorem svT_len (ts : List (List UInt8)) : (svT ts).length = ts.length * 1 := by simp [svT]
theorem svT_one (ts : List (List UInt8)) : ∀ u ∈ svT ts, u.oneCell' = true := by
  intro u hu
  simp only [svT, List.mem_map] at hu
  obtain ⟨t, _, rfl⟩ := hu
  rfl
theorem src_of_sl {w : World} {ao : Option Addr} {cap : Nat} {l : List (List UInt8)} (h : Sl w ao l) (h0 : ao = none → l = []) : Src Tryd.prog 1 32 (.slice ao l.length cap) l.length (svT l) w := by
  cases ao with
  | none =>
    have := h0 rfl
    subst this
    exact Src.ofNil w Tryd.underlying32 cap
  | some a =>
    refine Src.ofSlice w Tryd.underlying32 a l.length cap (svT l) (svT_len l) (fun j u hu => ?_) (svT_one l)
    have hj : j < (svT l).length := (List.getElem?_eq_some_iff.1 hu).1
    rw [svT_len] at hj
    obtain ⟨b, off, e, hc⟩ := h (by omega)
    cases e
    rw [Addr.add_lit, hc j (by omega), ← hu]
    simp [svT, show j < l.length by omega]
theorem sl_of_own {w : World} {base : Nat} {v : Value} {l : List (List UInt8)} (h : w.ownsRow base 9 1 v l.length (svT l)) : ∃ ao cap, v = .slice ao l.length cap ∧ Sl w ao l := by
  obtain ⟨h1, h2⟩ := h
  rcases h2 with ⟨rfl, hn⟩ | ⟨g, cap, cur, rfl, hb, hg, hnc, hcm, hcs, htake⟩
  · have : l = [] := List.eq_nil_of_length_eq_zero hn
    subst this
    exact ⟨none, 0, rfl, fun h => by simp at h⟩
  · refine ⟨some ⟨g, 0, none⟩, cap, rfl, fun _ => ⟨g, 0, rfl, fun i hi => ?_⟩⟩
    rw [Nat.zero_add, cell_of_row w g i cur 9 (0, 0) hg]
    have h3 : cur[i]? = (cur.toList.take (l.length * 1))[i]? := by
      rw [List.getElem?_take, if_pos (by omega)]; simp
    rw [h3, htake]
    simp [svT, hi]
theorem Tryd.info9 : (Tryd.prog.info? 9).map (fun i => (i.zero, i.size, i.bytes)) = some (some (.string ⟨#[]⟩), 1, 16) := by kernel_rfl

/-- append onto a row of texts of one's own. -/
theorem srow_append {W : World} {n₀ : Nat} {vd : Value} {A : List (List UInt8)} (hA : W.ownsRow n₀ 9 1 vd A.length (svT A)) (xv : Value) (B : List (List UInt8)) (hs : Src Tryd.prog 1 32 xv B.length (svT B) W) (hb : n₀ ≤ W.heap.size) (hl : A.length + B.length ≤ 100000) :
    ∃ v' w', (Builtin.append_ #[32, 32] 32 #[vd, xv]).run Tryd.prog W = .ok v' w' ∧ w'.ownsRow n₀ 9 1 v' (A ++ B).length (svT (A ++ B)) ∧ W.grownBy w' vd.ownBlock ∧ (v'.ownBlock = vd.ownBlock ∨ v'.ownBlock = some W.heap.size) := by
  obtain ⟨i0, hi, hz0, hz1, hz2⟩ := info_parts Tryd.info9
  obtain ⟨v', w', h1, h2, h3, h4⟩ := run_append_from_at (P := Tryd.prog) (ty := 32) n₀ 32 32 9 i0 (.string ⟨#[]⟩) 1 16 Tryd.underlying32 hi hz0 hz1 hz2 rfl vd A.length (svT A) hA xv B.length (svT B) hs (by unfold maxLen; omega) (by omega) hb
  exact ⟨v', w', h1, by rw [List.length_append]; simpa [svT] using h2, h3, h4⟩

/-- An empty row of texts, laid just now. -/
theorem srow_new (W : World) (n₀ : Nat) (hb : n₀ ≤ W.heap.size) : (W.alloc (.cells #[] 9)).ownsRow n₀ 9 1 (.slice (some ⟨W.heap.size, 0, none⟩) 0 0) ([] : List (List UInt8)).length (svT []) :=
  ⟨rfl, .inr ⟨W.heap.size, 0, #[], rfl, hb, heap_alloc_new W _, Nat.le_refl _, Nat.zero_le _, rfl, rfl⟩⟩

/-- A row of one text, laid just now, as a source. -/
theorem src_new (W : World) (b : List UInt8) : Src Tryd.prog 1 32 (.slice (some ⟨W.heap.size, 0, none⟩) 1 1) ([b] : List (List UInt8)).length (svT [b]) (W.alloc (.cells #[.string ⟨b.toArray⟩] 9)) := by
  refine Src.ofSlice _ Tryd.underlying32 ⟨W.heap.size, 0, none⟩ 1 1 (svT [b]) rfl (fun j u hu => ?_) (svT_one _)
  match j, hu with
  | 0, hu =>
    simp [svT] at hu
    subst hu
    rw [Addr.add_lit]
    exact bl_cell (heap_alloc_new W _) 0 _ rfl
  | j + 1, hu => simp [svT] at hu

/-- A row of texts of one's own as a source. -/
theorem src_row {W : World} {n₀ : Nat} {v : Value} {A : List (List UInt8)} (h : W.ownsRow n₀ 9 1 v A.length (svT A)) : Src Tryd.prog 1 32 v A.length (svT A) W := by
  obtain ⟨ao, cap, rfl, hs⟩ := sl_of_own h
  refine src_of_sl hs (fun e => ?_)
  subst e
  have := (h.2.resolve_right (fun ⟨g, cap, cur, e, _⟩ => by cases e)).2
  exact List.eq_nil_of_length_eq_zero this

/-- Its first ones. -/
theorem src_hi {W : World} {n₀ : Nat} {v : Value} {A : List (List UInt8)} (h : W.ownsRow n₀ 9 1 v A.length (svT A)) (n : Nat) (hn : n ≤ A.length) :
    ∃ a c, v = .slice a A.length c ∧ (∀ V, (Instr.slice 32 v none (some (.int .i64 (n : Int))) none).run Tryd.prog V = .ok (.slice a n c) V) ∧ ∀ V : World, V.ownsRow n₀ 9 1 v A.length (svT A) → Src Tryd.prog 1 32 (.slice a n c) (A.take n).length (svT (A.take n)) V := by
  have hl : (A.take n).length = n := by simp; omega
  obtain ⟨h1, h2⟩ := h
  rcases h2 with ⟨rfl, h0⟩ | ⟨g, cap, cur, rfl, hb, hg, hnc, hcm, hcs, htake⟩
  · obtain rfl : n = 0 := by omega
    have : A = [] := List.eq_nil_of_length_eq_zero h0
    subst this
    refine ⟨none, 0, rfl, fun V => ?_, fun V _ => Src.ofNil V Tryd.underlying32 0⟩
    simp [Instr.slice, Instr.sliceBounds, Instr.sliceBound, asIntOf, run_underlying Tryd.underlying32]
  · refine ⟨_, cap, rfl, fun V => ?_, fun V hV => ?_⟩
    · have hnc2 : n ≤ cap := by omega
      simp [Instr.slice, Instr.sliceBounds, Instr.sliceBound, asIntOf, run_underlying Tryd.underlying32, hnc2]
      intro _; simp [Addr.add]
    · rw [hl]
      refine Src.ofSlice V Tryd.underlying32 ⟨g, 0, none⟩ n cap (svT (A.take n)) (by rw [svT_len, hl]) (fun j u hu => ?_) (svT_one _)
      have hj : j < (svT (A.take n)).length := (List.getElem?_eq_some_iff.1 hu).1
      rw [svT_len, hl] at hj
      refine World.ownsRow.cells hV (g := g) rfl j u ?_
      rw [← hu]
      simp [svT, show j < A.length by omega, show j < n by omega]

/-- A row of texts lies still where a wal works. -/
theorem WS.row {w0 W W' : World} {x : Wl} {h : Wh} {d : Dk} {S M : List (List UInt8)} (s : WS w0 W x h d S M) {n₀ n : Nat} {v : Value} {xs : List Value} (hr : W.ownsRow n₀ 9 1 v n xs) {P : Nat → Prop} (hC : Chg P W W') (hP : ∀ k, P k → All x h k) : W'.ownsRow n₀ 9 1 v n xs :=
  row_kept hr (fun b e => by
    obtain ⟨_, h2, c, hc⟩ := row_own hr e
    exact hC.block b h2 (fun hp => absurd (s.wal.typed (hP b hp) hc) (by unfold Wt; decide)))

theorem cat_len : ∀ (l : List (List UInt8)), (∀ y ∈ l, y.length ≤ 1000) → (cat l).length ≤ 1012 * l.length := by
  intro l
  induction l with
  | nil => intro _; simp [cat]
  | cons y l ih =>
    intro h
    have h1 := ih (fun z hz => h z (by simp [hz]))
    have h2 := h y (by simp)
    have h3 := numBytes_short y.length (by omega)
    rw [cat_cons, List.length_append, rec_len, List.length_cons]
    omega

/-- What holds at the head of WalLasts' loop. -/
structure LI (w W : World) (hB i : Nat) (x : Wl) (h : Wh) (d : Dk) (S M : List (List UInt8)) (vS vM : Value) : Prop where
  ws : WS w W x h d S M
  hB : h.B = hB
  most : d.lo.most = 1048576
  rS : W.ownsRow w.heap.size 9 1 vS S.length (svT S)
  rM : W.ownsRow w.heap.size 9 1 vM M.length (svT M)
  ap : ∀ b, vS.ownBlock = some b → vM.ownBlock ≠ some b
  cnt : S.length + M.length ≤ i
  short : ∀ y ∈ S ++ M, y.length ≤ 1000

theorem LI.later {w W W' : World} {hB i : Nat} {x : Wl} {h : Wh} {d : Dk} {S M : List (List UInt8)} {vS vM : Value} (s : LI w W hB i x h d S M vS vM) (hb : Below W.heap.size W W') : LI w W' hB i x h d S M vS vM :=
  ⟨s.ws.later hb, s.hB, s.most, own_later s.rS hb, own_later s.rM hb, s.ap, s.cnt, s.short⟩

theorem LI.more {w W : World} {hB i : Nat} {x : Wl} {h : Wh} {d : Dk} {S M : List (List UInt8)} {vS vM : Value} (s : LI w W hB i x h d S M vS vM) : LI w W hB (i + 1) x h d S M vS vM :=
  ⟨s.ws, s.hB, s.most, s.rS, s.rM, s.ap, Nat.le_succ_of_le s.cnt, s.short⟩

/-- Room for one record more. -/
theorem LI.room {w W : World} {hB i : Nat} {x : Wl} {h : Wh} {d : Dk} {S M : List (List UInt8)} {vS vM : Value} (s : LI w W hB i x h d S M vS vM) (hi : i ≤ 120) (b : List UInt8) (hb : b.length ≤ 1000) : ((cat S ++ cat M).length : Int) + (recBytes b).length ≤ d.lo.most := by
  have h1 := cat_len (S ++ M) s.short
  rw [cat_append] at h1
  simp only [List.length_append] at h1 ⊢
  have h2 := numBytes_short b.length (by omega)
  have h3 := s.cnt
  rw [s.most, rec_len]
  omega

/-- Behind a call of the wal or of its disk. -/
theorem LI.call {w W W' : World} {hB i : Nat} {x x' : Wl} {h h' : Wh} {d d' : Dk} {S M S' M' : List (List UInt8)} {vS vM : Value} (s : LI w W hB i x h d S M vS vM) {P : Nat → Prop} (hC : Chg P W W') (hP : ∀ k, P k → All x h k) (ws : WS w W' x' h' d' S' M') (eB : h'.B = h.B) (em : d'.lo.most = d.lo.most) :
    W'.ownsRow w.heap.size 9 1 vS S.length (svT S) ∧ W'.ownsRow w.heap.size 9 1 vM M.length (svT M) ∧ h'.B = hB ∧ d'.lo.most = 1048576 ∧ WS w W' x' h' d' S' M' :=
  ⟨s.ws.row s.rS hC hP, s.ws.row s.rM hC hP, eB.trans s.hB, em.trans s.most, ws⟩

/-- Behind an append onto a row of the law's own. -/
theorem WS.grown {w0 W W' : World} {x : Wl} {h : Wh} {d : Dk} {S M : List (List UInt8)} (s : WS w0 W x h d S M) {n : Nat} {v : Value} {xs : List Value} (hr : W.ownsRow w0.heap.size 9 1 v n xs) (hg : W.grownBy W' v.ownBlock) : WS w0 W' x h d S M :=
  s.law (chg_of_grown hg) (fun k e => by
    obtain ⟨h1, h2, c, hc⟩ := row_own hr e.symm
    exact ⟨h1, c, _, hc, by unfold Wt; decide⟩)
end Go.Proofs.YtonjjbmjholkjaaDoor
