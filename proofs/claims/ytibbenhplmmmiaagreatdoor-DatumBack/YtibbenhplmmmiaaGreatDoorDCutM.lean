/-
  A text parted at its first point, as a list of bytes. Nothing of the program is in it.
-/
import Derived.Laws.Externs
namespace Go.Proofs.YtibbenhplmmmiaaGreatDoor

/-- A text parted at its first point. -/
def cutPt : List UInt8 → List UInt8 × List UInt8 × Bool
  | [] => ([], [], false)
  | c :: l => if c = 46 then ([], l, true) else (c :: (cutPt l).1, (cutPt l).2.1, (cutPt l).2.2)
theorem cutPt_back (l : List UInt8) : l = (cutPt l).1 ++ (if (cutPt l).2.2 then 46 :: (cutPt l).2.1 else []) ∧ ((cutPt l).2.2 = false → (cutPt l).2.1 = []) := by
  induction l with
  | nil => exact ⟨rfl, fun _ => rfl⟩
  | cons c l ih =>
    unfold cutPt
    by_cases h : c = 46
    · rw [if_pos h]; subst h; exact ⟨rfl, by simp⟩
    · rw [if_neg h]
      refine ⟨?_, ih.2⟩
      show c :: l = (c :: (cutPt l).1) ++ _
      rw [List.cons_append, ← ih.1]
theorem cutPt_none (l : List UInt8) (h : ∀ c ∈ l, c ≠ 46) : cutPt l = (l, [], false) := by
  induction l with
  | nil => rfl
  | cons c l ih =>
    unfold cutPt
    rw [if_neg (h c (by simp)), ih (fun d hd => h d (by simp [hd]))]
theorem cutPt_some (l r : List UInt8) (h : ∀ c ∈ l, c ≠ 46) : cutPt (l ++ 46 :: r) = (l, r, true) := by
  induction l with
  | nil => unfold cutPt; simp
  | cons c l ih =>
    show cutPt (c :: (l ++ 46 :: r)) = _
    unfold cutPt
    rw [if_neg (h c (by simp)), ih (fun d hd => h d (by simp [hd]))]

def rightW (l : List UInt8) : Bool := !l.isEmpty && (l == [48] || !(l.head? == some 48))
def rightP (l : List UInt8) : Bool := !l.isEmpty && decide (l.length ≤ 6)
theorem ba_get (l : List UInt8) (i : Nat) (h : i < l.length) : (ByteArray.mk l.toArray)[i]! = l[i] := by
  rw [getElem!_pos _ i (show i < (ByteArray.mk l.toArray).size from h)]
  rfl
/-- Where a byte is first met, and how a text is parted there. -/
theorem first_cut (l : List UInt8) : (firstIdx ⟨l.toArray⟩ 46 = -1 ∧ cutPt l = (l, [], false)) ∨ (∃ i : Nat, firstIdx ⟨l.toArray⟩ 46 = (i : Int) ∧ i < l.length ∧ cutPt l = (l.take i, l.drop (i + 1), true)) := by
  unfold firstIdx
  have hs : (ByteArray.mk l.toArray).size = l.length := rfl
  rw [hs]
  cases h : (List.range l.length).find? (fun i => (ByteArray.mk l.toArray)[i]! == 46) with
  | none =>
    left
    refine ⟨rfl, cutPt_none l ?_⟩
    rw [List.find?_range_eq_none] at h
    intro c hc e
    obtain ⟨i, hi, rfl⟩ := List.getElem_of_mem hc
    have := h i hi
    rw [ba_get l i hi, e] at this
    simp at this
  | some i =>
    right
    rw [List.find?_range_eq_some] at h
    obtain ⟨h1, h2, h3⟩ := h
    have hi : i < l.length := by simpa using h2
    refine ⟨i, rfl, hi, ?_⟩
    rw [ba_get l i hi] at h1
    have e : l[i] = 46 := eq_of_beq h1
    have hsplit : l = l.take i ++ 46 :: l.drop (i + 1) := by
      rw [← e, ← List.drop_eq_getElem_cons hi, List.take_append_drop]
    conv => lhs; rw [hsplit]
    refine cutPt_some _ _ ?_
    intro c hc e2
    obtain ⟨j, hj, rfl⟩ := List.getElem_of_mem hc
    have hj' : j < i := by rw [List.length_take] at hj; omega
    have := h3 j hj'
    rw [ba_get l j (by omega)] at this
    rw [List.getElem_take] at e2
    rw [e2] at this
    simp at this
end Go.Proofs.YtibbenhplmmmiaaGreatDoor
