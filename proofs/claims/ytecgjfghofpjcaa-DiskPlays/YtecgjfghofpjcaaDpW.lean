/-
  A disk of the program and one of the document that tell the same.
-/
import Derived.Test.YtecgjfghofpjcaaDpV
import Derived.Test.YtecgjfghofpjcaaDkBk
import Derived.Test.YtecgjfghofpjcaaDkS1
namespace Go.Proofs.Ytecgjfghofpjcaa
open Go.RowKit Go.Maps

def Sf (h : Wh) (r : Rf) (k : Nat) : Prop := h.has k ∨ r.has k

/-- Its count, and where the written pages lie. -/
structure Dc (d : Dk) : Prop where
  c0 : 0 ≤ d.count
  c1 : d.count ≤ 65536
  fk : ∀ x, (d.fresh x).isSome = true → 0 ≤ x ∧ x < d.count

theorem Dc.same {d d' : Dk} (h : Dc d) (e1 : d'.count = d.count) (e2 : d'.fresh = d.fresh) : Dc d' := ⟨by rw [e1]; exact h.c0, by rw [e1]; exact h.c1, fun x hx => by rw [e1]; rw [e2] at hx; exact h.fk x hx⟩
theorem Dc.none {d d' : Dk} (h : Dc d) (e1 : d'.count = d.count) (e2 : d'.fresh = none') : Dc d' := ⟨by rw [e1]; exact h.c0, by rw [e1]; exact h.c1, fun x hx => by rw [e2] at hx; cases hx⟩

theorem Dc.app {d : Dk} (h : Dc d) (xs : List UInt8) : Dc (d.app xs).2.2 := by
  unfold Dk.app
  split
  · exact h
  · split
    · exact h
    · split
      · exact h.same rfl rfl
      · exact h.same rfl rfl
theorem Dc.cut {d : Dk} (h : Dc d) (a : Int) : Dc (d.cut a).2 := by
  unfold Dk.cut
  split
  · exact h
  · split
    · exact h
    · split
      · exact h.same rfl rfl
      · exact h.same rfl rfl
theorem Dc.retire {d : Dk} (h : Dc d) (a : Int) : Dc (d.retire a).2 := by
  unfold Dk.retire
  split
  · exact h
  · split
    · exact h
    · split
      · exact h.same rfl rfl
      · exact h.same rfl rfl
theorem Dc.sync {d : Dk} (h : Dc d) : Dc d.sync.2 := by
  unfold Dk.sync
  split
  · exact h
  · split
    · exact h.same rfl rfl
    · exact h.none rfl rfl
theorem Dc.write {d : Dk} (h : Dc d) (page : Int) (b : List UInt8) : Dc (d.write page b).2 := by
  unfold Dk.write
  split
  · exact h
  · split
    · exact h
    · rename_i hb
      split
      · exact h.same rfl rfl
      · refine ⟨h.c0, h.c1, fun x hx => ?_⟩
        have hx : (put d.fresh page b x).isSome = true := hx
        unfold put at hx
        by_cases e : x = page
        · subst e
          have hb1 : d.hasP x = true := by
            have := (not_or.1 hb).1
            simpa using this
          unfold Dk.hasP at hb1
          simp only [Bool.and_eq_true, decide_eq_true_eq] at hb1
          exact hb1
        · rw [if_neg e] at hx
          exact h.fk x hx

/-- Both tell d; n acts were done. -/
structure Pr (w : World) (h : Wh) (r : Rf) (no nf no' nf' n : Nat) (d : Dk) : Prop where
  a : DkW w h no nf d
  b : RkW w r no' nf' d
  c : Dc d
  ap : ∀ k, h.has k → ¬ r.has k
  n1 : no + nf ≤ n
  n2 : no' ≤ 65536 * n
  n3 : nf' ≤ n

theorem Pr.dok {w : World} {h : Wh} {r : Rf} {no nf no' nf' n : Nat} {d : Dk} (p : Pr w h r no nf no' nf' n d) : Dok d := ⟨p.a.l.1, p.c.c0, p.c.c1, p.a.lf, p.c.fk⟩
theorem Pr.lt {w : World} {h : Wh} {r : Rf} {no nf no' nf' n : Nat} {d : Dk} (p : Pr w h r no nf no' nf' n d) {k : Nat} (hk : Sf h r k) : k < w.heap.size := hk.elim (fun e => p.a.lt e) (fun e => p.b.lt e)
theorem Pr.later {w w' : World} {h : Wh} {r : Rf} {no nf no' nf' n : Nat} {d : Dk} (p : Pr w h r no nf no' nf' n d) (hb : Below w.heap.size w w') : Pr w' h r no nf no' nf' n d := ⟨p.a.later hb, p.b.later hb, p.c, p.ap, p.n1, p.n2, p.n3⟩
theorem DkW.apart {S : Nat → Prop} {w w' : World} {h : Wh} {no nf : Nat} {d : Dk} (hd : DkW w h no nf d) (hC : Chg S w w') (hS : ∀ k, h.has k → ¬ S k) : DkW w' h no nf d := hd.kept (fun k hk => hC.block k (hd.lt hk) (hS k hk))
theorem Pr.apart {S : Nat → Prop} {w w' : World} {h : Wh} {r : Rf} {no nf no' nf' n : Nat} {d : Dk} (p : Pr w h r no nf no' nf' n d) (hC : Chg S w w') (hS : ∀ k, Sf h r k → ¬ S k) : Pr w' h r no nf no' nf' n d := ⟨p.a.apart hC (fun k e => hS k (.inl e)), p.b.apart hC (fun k e => hS k (.inr e)), p.c, p.ap, p.n1, p.n2, p.n3⟩

/-- What a step leaves. -/
def Sp (h0 : Wh) (r0 : Rf) (n : Nat) (w0 w : World) : Prop := ∃ h r no nf no' nf' d, Pr w h r no nf no' nf' n d ∧ h.B = h0.B ∧ r.R = r0.R ∧ Chg (Sf h0 r0) w0 w ∧ ∀ k, Sf h r k → Sf h0 r0 k ∨ w0.heap.size ≤ k

/-- The program's call, then the document's. -/
theorem Sp.both {w w1 w1' w2 : World} {h h1 : Wh} {r r1 : Rf} {no nf no' nf' n no1 nf1 no1' nf1' : Nat} {d d' : Dk} (p : Pr w h r no nf no' nf' n d)
    (a1 : DkW w1 h1 no1 nf1 d') (aC : Chg h.has w w1) (aE : ∀ k, h1.has k → h.has k ∨ w.heap.size ≤ k) (aB : h1.B = h.B) (hb : Below w1.heap.size w1 w1')
    (b1 : RkW w2 r1 no1' nf1' d') (bC : Chg r.has w1' w2) (bE : ∀ k, r1.has k → r.has k ∨ w1'.heap.size ≤ k) (bB : r1.R = r.R) (hc : Dc d') (m1 : no1 + nf1 ≤ n + 1) (m2 : no1' ≤ 65536 * (n + 1)) (m3 : nf1' ≤ n + 1) : Sp h r (n + 1) w w2 := by
  have hap1 : ∀ k, h1.has k → ¬ r.has k := fun k hk hr => by
    rcases aE k hk with e | e
    · exact p.ap k e hr
    · have := p.b.lt hr; omega
  have hap2 : ∀ k, h1.has k → ¬ r1.has k := fun k hk hr => by
    rcases bE k hr with e | e
    · exact hap1 k hk e
    · have h1 := a1.lt hk; have h2 := hb.size; omega
  refine ⟨h1, r1, no1, nf1, no1', nf1', d', ⟨(a1.later hb).apart bC hap1, b1, hc, hap2, m1, m2, m3⟩, aB, bB, (aC.trans (chg_of_below (S := fun _ => False) hb) (fun _ _ e => .inl e) (fun _ _ e => e.elim)).trans bC (fun _ _ e => e) (fun _ _ e => .inr e), fun k hk => ?_⟩
  rcases hk with e | e
  · exact (aE k e).elim (fun e => .inl (.inl e)) .inr
  · exact (bE k e).elim (fun e => .inl (.inr e)) (fun e => .inr (by have h1 := aC.size; have h2 := hb.size; omega))

theorem Sp.none {w w' : World} {h : Wh} {r : Rf} {no nf no' nf' n : Nat} {d : Dk} (p : Pr w h r no nf no' nf' n d) (hb : Below w.heap.size w w') : Sp h r (n + 1) w w' :=
  ⟨h, r, no, nf, no', nf', d, (let q := p.later hb; ⟨q.a, q.b, q.c, q.ap, Nat.le_succ_of_le q.n1, by have := q.n2; omega, Nat.le_succ_of_le q.n3⟩), rfl, rfl, chg_of_below hb, fun k e => .inl e⟩

theorem Sp.later {h0 : Wh} {r0 : Rf} {n : Nat} {w0 w w' : World} (s : Sp h0 r0 n w0 w) (hb : Below w.heap.size w w') : Sp h0 r0 n w0 w' := by
  obtain ⟨h, r, no, nf, no', nf', d, p, e1, e2, hC, hE⟩ := s
  exact ⟨h, r, no, nf, no', nf', d, p.later hb, e1, e2, hC.trans (chg_of_below (S := fun _ => False) hb) (fun _ _ e => e) (fun _ _ e => e.elim), hE⟩

theorem Sp.since {h0 : Wh} {r0 : Rf} {n : Nat} {w0 w1 w : World} (s : Sp h0 r0 n w1 w) (hb : Below w0.heap.size w0 w1) : Sp h0 r0 n w0 w := by
  obtain ⟨h, r, no, nf, no', nf', d, p, e1, e2, hC, hE⟩ := s
  exact ⟨h, r, no, nf, no', nf', d, p, e1, e2, (chg_of_below (S := fun _ => False) hb).trans hC (fun _ _ e => e.elim) (fun _ _ e => e), fun k hk => (hE k hk).elim .inl (fun e => .inr (Nat.le_trans hb.size e))⟩

/-- What was made ahead of the step is changed behind it. -/
theorem Sp.other {h0 : Wh} {r0 : Rf} {n : Nat} {w0 w1 w w' : World} {S : Nat → Prop} (hb : Below w0.heap.size w0 w1) (s : Sp h0 r0 n w1 w) (hC : Chg S w w') (hS : ∀ k, S k → w0.heap.size ≤ k ∧ k < w1.heap.size) (hlt : ∀ k, Sf h0 r0 k → k < w0.heap.size) : Sp h0 r0 n w0 w' := by
  obtain ⟨h, r, no, nf, no', nf', d, p, e1, e2, hC0, hE⟩ := s
  refine ⟨h, r, no, nf, no', nf', d, p.apart hC (fun k hk hs => ?_), e1, e2, ((chg_of_below (S := fun _ => False) hb).trans hC0 (fun _ _ e => e.elim) (fun _ _ e => e)).trans hC (fun _ _ e => e) (fun k hk e => by have := hS k e; omega), fun k hk => (hE k hk).elim .inl (fun e => .inr (Nat.le_trans hb.size e))⟩
  have h1 := hS k hs
  rcases hE k hk with e | e
  · have := hlt k e; omega
  · omega

theorem Wh.has_g {h : Wh} {g' : Option Nat} {k : Nat} (hk : Wh.has { h with g := g' } k) {m : Nat} (hg : g' = h.g ∨ ∃ b, g' = some b ∧ m ≤ b) : h.has k ∨ m ≤ k := by
  rcases hk with e | e | e | e | e | e | e
  · exact .inl (.inl e)
  · exact .inl (.inr (.inl e))
  · exact .inl (.inr (.inr (.inl e)))
  · exact .inl (.inr (.inr (.inr (.inl e))))
  · exact .inl (.inr (.inr (.inr (.inr (.inl e)))))
  · exact .inl (.inr (.inr (.inr (.inr (.inr (.inl e))))))
  · dsimp only at e
    rcases hg with q | ⟨b, q, hb⟩
    · rw [q] at e; exact .inl (.inr (.inr (.inr (.inr (.inr (.inr e))))))
    · rw [q] at e; cases e; exact .inr hb
theorem Wh.has_mf {h : Wh} {mf' : Nat} {k : Nat} (hk : Wh.has { h with mf := mf' } k) {m : Nat} (hg : mf' = h.mf ∨ m ≤ mf') : h.has k ∨ m ≤ k := by
  rcases hk with e | e | e | e | e | e | e
  · exact .inl (.inl e)
  · exact .inl (.inr (.inl e))
  · exact .inl (.inr (.inr (.inl e)))
  · exact .inl (.inr (.inr (.inr (.inl e))))
  · exact .inl (.inr (.inr (.inr (.inr (.inl e)))))
  · dsimp only at e
    rcases hg with q | q
    · rw [q] at e; exact .inl (.inr (.inr (.inr (.inr (.inr (.inl e))))))
    · exact .inr (by omega)
  · exact .inl (.inr (.inr (.inr (.inr (.inr (.inr e))))))
theorem Rf.has_a {r : Rf} {a' : Option Addr} {c' : Nat} {k : Nat} (hk : Rf.has { r with ao := a', cap := c' } k) {m : Nat} (ha : ∀ b off, a' = some ⟨b, off, none⟩ → (∃ off', r.ao = some ⟨b, off', none⟩) ∨ m ≤ b) : r.has k ∨ m ≤ k := by
  rcases hk with e | e | e | ⟨off, e⟩
  · exact .inl (.inl e)
  · exact .inl (.inr (.inl e))
  · exact .inl (.inr (.inr (.inl e)))
  · exact (ha k off e).elim (fun q => .inl (.inr (.inr (.inr q)))) .inr

/-- What append takes out of a slice of numbers. -/
theorem src_of_fs {w : World} {fa : Option Addr} {n cap : Nat} {fs : List Int} (h : Fs w fa n fs) : (n = 0 ∨ ∃ b off, fa = some ⟨b, off, none⟩) → (fa = none → n = 0) → Src Try.prog 1 33 (.slice fa n cap) n (fs.map (Value.int .i64)) w := by
  intro h0 hz
  cases fa with
  | none =>
    obtain rfl := hz rfl
    obtain rfl : fs = [] := List.eq_nil_of_length_eq_zero h.1
    exact Src.ofNil w Try.underlying33 cap
  | some a =>
    refine Src.ofSlice w Try.underlying33 a n cap _ (by simp [h.1]) (fun j u hu => ?_) (fun u hu => by obtain ⟨_, _, rfl⟩ := List.mem_map.1 hu; rfl)
    have hj : j < fs.length := by
      have := (List.getElem?_eq_some_iff.1 hu).1
      simpa using this
    obtain ⟨b, off, e, hc⟩ := h.2 (by have := h.1; omega)
    cases e
    rw [Addr.add_lit, hc j hj]
    simpa [hj] using hu

/-- append([]int{}, x...): new numbers that read as x. -/
theorem copied_ints (W : World) (fa : Option Addr) (m cap : Nat) (fs : List Int) (hf : Fs W fa m fs) (hm : m * 8 ≤ 140737488355328) :
    ∃ a' c' W', (Builtin.append_ #[33, 33] 33 #[.slice (some ⟨W.heap.size, 0, none⟩) 0 0, .slice fa m cap]).run Try.prog (W.alloc (.cells #[] 3)) = .ok (.slice a' m c') W' ∧ Fs W' a' m fs ∧ m ≤ c' ∧ Below W.heap.size W W' ∧ (∀ b off, a' = some ⟨b, off, none⟩ → W.heap.size ≤ b ∧ b < W'.heap.size) := by
  obtain ⟨i0, hi, hz0, hz1, hz2⟩ := info_parts (show (Try.prog.info? 3).map (fun i => (i.zero, i.size, i.bytes)) = some (some (.int .i64 0), 1, 8) by kernel_rfl)
  have b1 : Below W.heap.size W (W.alloc (.cells #[] 3)) := (Below.refl _ _).alloc (Nat.le_refl _) _
  have s1 : (W.alloc (.cells #[] 3)).heap.size = W.heap.size + 1 := by simp
  by_cases h0 : m = 0
  · subst h0
    obtain rfl : fs = [] := List.eq_nil_of_length_eq_zero hf.1
    refine ⟨some ⟨W.heap.size, 0, none⟩, 0, W.alloc (.cells #[] 3), ?_, ⟨rfl, fun h => by omega⟩, Nat.le_refl _, b1, fun b off e => by cases e; omega⟩
    cases fa <;> simp [Builtin.append_, run_underlying Try.underlying33, sizeOf, typeInfo, hi, Builtin.lenOf, Builtin.firstCells, loadCells, loadCellsFrom, storeCells]
  · obtain ⟨b, off, rfl, hc⟩ := hf.2 (by omega)
    have hf1 : Fs (W.alloc (.cells #[] 3)) (some ⟨b, off, none⟩) m fs := hf.chg (chg_of_below (S := fun _ => False) b1) (fun _ _ _ _ e => e)
    have hs := src_of_fs (cap := cap) hf1 (.inr ⟨b, off, rfl⟩) (fun e => by cases e)
    have hs' : Src Try.prog i0.size 33 (.slice (some ⟨b, off, none⟩) m cap) m (fs.map (Value.int .i64)) (W.alloc (.cells #[] 3)) := by rw [hz1]; exact hs
    have hr := run_append_grow_src (P := Try.prog) (W.alloc (.cells #[] 3)) 33 33 33 3 i0 _ Try.underlying33 hi hz0 (some ⟨W.heap.size, 0, none⟩) 0 0 [] (run_firstCells_some _ i0.size 0 ⟨W.heap.size, 0, none⟩ 0 0 [] (by simp) (fun j u hu => by simp at hu)) (.slice (some ⟨b, off, none⟩) m cap) m _ hs' (by omega) (by omega) (growslice_fits (by omega) (by rw [hz2]; omega))
    simp only [Nat.zero_add, List.nil_append] at hr
    refine ⟨_, _, _, hr, ⟨hf.1, fun _ => ⟨_, 0, rfl, fun j hj => ?_⟩⟩, grownCap_ge _ _ _ _, ?_, fun b2 off2 e => ?_⟩
    · refine cell_block (heap_alloc_new (World.drew _) _) (0 + j) _ ?_
      rw [Nat.zero_add, Array.getElem?_append_left (by simp; exact hj)]
      simp [hj]
    · exact b1.trans ((Below.refl _ (W.alloc (.cells #[] 3))).drew.alloc (Nat.le_refl _) _ |>.mono b1.size)
    · cases e
      refine ⟨by rw [s1]; omega, ?_⟩
      show _ < (World.alloc (World.drew _) _).heap.size
      simp
end Go.Proofs.Ytecgjfghofpjcaa
