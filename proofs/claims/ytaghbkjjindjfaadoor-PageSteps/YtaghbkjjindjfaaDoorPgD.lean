/-
  What page.slots yields as contents; how page.read gathers them: the loop.
-/
import Derived.Test.YtaghbkjjindjfaaDoorPgS
import Derived.Deep.RegionHeld3
namespace Go.Proofs.YtaghbkjjindjfaaDoor
open Go.RowKit Go.Shelf

attribute [local go_sem] Oper.semAt_some

theorem Tryd.info49 : (Tryd.prog.info? 49).map (fun i => (i.zero, i.size, i.bytes)) = some (some (.agg #[.bool false, .slice none 0 0]), 2, 32) := by kernel_rfl

/-- The cells of contents, one behind the other. -/
def ccs (cs : List Cn) : List Value := cs.flatMap cnc
theorem ccs_snoc (cs : List Cn) (c : Cn) : ccs (cs ++ [c]) = ccs cs ++ cnc c := by simp [ccs]
theorem ccs_len (cs : List Cn) : (ccs cs).length = cs.length * 2 := by
  induction cs with
  | nil => rfl
  | cons c cs ih => simp only [ccs, List.flatMap_cons, List.length_append, List.length_cons] at *; rw [ih]; simp [cnc]; omega
theorem ccs_at (cs : List Cn) : ∀ (i : Nat) (h : i < cs.length), (ccs cs)[i * 2]? = some (.bool cs[i].t) ∧ (ccs cs)[i * 2 + 1]? = some (.slice cs[i].ao cs[i].n cs[i].cap) := by
  induction cs with
  | nil => intro i h; simp at h
  | cons c cs ih =>
    intro i h
    cases i with
    | zero => exact ⟨rfl, rfl⟩
    | succ i =>
      have := ih i (by simpa using h)
      have e : ccs (c :: cs) = .bool c.t :: .slice c.ao c.n c.cap :: ccs cs := rfl
      rw [e, show (i + 1) * 2 = i * 2 + 1 + 1 by omega, show i * 2 + 1 + 1 + 1 = (i * 2 + 1) + 1 + 1 by omega]
      simpa using this
/-- A row of contents of one's own. -/
def Cow (w : World) (base : Nat) (v : Value) (cs : List Cn) : Prop := w.ownsRow base 49 2 v cs.length (ccs cs)
theorem Cow.cw {w : World} {base : Nat} {v : Value} {cs : List Cn} (h : Cow w base v cs) : ∃ ao cap, v = .slice ao cs.length cap ∧ cs.length ≤ cap ∧ cap ≤ maxLen ∧ Cw w ao cs := by
  obtain ⟨h1, h2⟩ := h
  rcases h2 with ⟨rfl, hn⟩ | ⟨g, cap, cur, rfl, hb, hg, hnc, hcm, hcs, htake⟩
  · rw [hn]
    exact ⟨none, 0, rfl, Nat.le_refl _, Nat.zero_le _, fun hp => by omega⟩
  · refine ⟨some ⟨g, 0, none⟩, cap, rfl, hnc, hcm, fun _ => ⟨g, 0, rfl, fun i hi => ?_⟩⟩
    have hcell : ∀ j u, (ccs cs)[j]? = some u → w.cell? ⟨g, j, none⟩ = some u := by
      intro j u hj
      rw [cell_of_row w g j cur 49 (0, 0) hg]
      rw [← htake, List.getElem?_take] at hj
      split at hj
      · simpa using hj
      · cases hj
    have := ccs_at cs i hi
    rw [Nat.zero_add]
    exact ⟨hcell _ _ this.1, hcell _ _ this.2⟩
theorem Cow.later {w w' : World} {base : Nat} {v : Value} {cs : List Cn} (h : Cow w base v cs) (hb : Below w.heap.size w w') : Cow w' base v cs := by
  obtain ⟨h1, h2⟩ := h
  refine ⟨h1, ?_⟩
  rcases h2 with hn | ⟨g, cap, cur, hv, hbg, hg, rest⟩
  · exact .inl hn
  · refine .inr ⟨g, cap, cur, hv, hbg, ?_, rest⟩
    rw [hb.block g (Array.getElem?_eq_some_iff.1 hg).1]
    exact hg

/-- A content in a block of its own. -/
def Cx (W : World) (B : Nat) (c : Cn) : Prop := W.heap[B]? = some (.cells #[.bool c.t, .slice c.ao c.n c.cap] 49 (0, 0))
theorem Cx.own (B : Nat) (c : Cn) : Go.Own (fun (_ : Unit) W => Cx W B c) := fun s X Y row hs hg hrow =>
  (hg.block B (Array.getElem?_eq_some_iff.1 hs).1 (fun e' => by obtain ⟨o, ho, hc⟩ := hrow B e'.symm; rw [show X.heap[B]? = _ from hs] at ho; cases ho; cases hc)).trans hs
theorem Cx.c0 {W : World} {B : Nat} {c : Cn} (h : Cx W B c) : W.cell? ⟨B, 0, none⟩ = some (.bool c.t) := by simp [World.cell?, show W.heap[B]? = _ from h]
theorem Cx.c1 {W : World} {B : Nat} {c : Cn} (h : Cx W B c) : W.cell? ⟨B, 1, none⟩ = some (.slice c.ao c.n c.cap) := by simp [World.cell?, show W.heap[B]? = _ from h]
theorem two_new (W : World) (x y : Value) (t : TypeId) : ∀ j u, [x, y][j]? = some u → (W.alloc (.cells #[x, y] t)).cell? ((⟨W.heap.size, 0, none⟩ : Addr).add j) = some u := by
  intro j u hj
  match j, hj with
  | 0, hj => simp at hj; subst hj; simp [Addr.add]
  | 1, hj => simp at hj; subst hj; simp [Addr.add]
def cns (xs : List (Nat × Cn)) : List Cn := xs.map Prod.snd
theorem cns_snoc (xs : List (Nat × Cn)) (x : Nat × Cn) : cns (xs ++ [x]) = cns xs ++ [x.2] := by simp [cns]
theorem cns_len (xs : List (Nat × Cn)) : (cns xs).length = xs.length := by simp [cns]

/-- What is told lies in the page's bytes. -/
theorem upto_rel {w : World} {b off cap : Nat} {bs : List UInt8} (h : Rd w (some ⟨b, off, none⟩) 512 cap bs) : CsR w (cns (upto b off bs (rdS bs).length)) (rdS bs) := by
  refine ⟨by simp [cns, upto], fun i h1 h2 => ?_⟩
  have e : (cns (upto b off bs (rdS bs).length))[i] = cnAt b off bs i := by simp [cns, upto]
  rw [e]
  have hs := rdS_at bs i h2
  obtain ⟨b', off', e', hc⟩ := h.2.2.2.2 (by omega)
  cases e'
  have hl := h.1
  unfold slotAt at hs
  split at hs
  · cases hs
  · rename_i hov
    have hs' := Option.some.inj hs
    unfold cnAt
    by_cases ha : fld bs (2 + 4 * i) = 0
    · rw [if_pos ha] at hs' ⊢
      rw [← hs']
      rfl
    · rw [if_neg ha] at hs' ⊢
      rw [← hs']
      refine ⟨rfl, ?_⟩
      generalize fld bs (2 + 4 * i) = a at *
      generalize fld bs (4 + 4 * i) = m at *
      refine ⟨by simp; omega, Nat.le_refl _, by show m ≤ _; unfold maxLen; omega, (fun e => by cases e), fun hp => ?_⟩
      have h0 : ¬ m = 0 := by have : 0 < m := hp; omega
      refine ⟨b, off + a, by simp only [if_neg h0], fun j hj => ?_⟩
      simp at hj
      have := hc (a + j) (by omega)
      rw [← Nat.add_assoc] at this
      rw [this]
      simp
theorem upto_used (b off : Nat) (bs : List UInt8) : ∀ k, usedN (cns (upto b off bs k)) ≤ k * 65536 := by
  intro k
  induction k with
  | zero => simp [upto, cns, usedN]
  | succ k ih =>
    rw [upto_succ, cns_snoc, usedN_append]
    have : (cnAt b off bs k).n < 65536 := by
      unfold cnAt
      split
      · simp
      · exact fld_lt bs _
    simp only [usedN]
    omega
end Go.Proofs.YtaghbkjjindjfaaDoor
