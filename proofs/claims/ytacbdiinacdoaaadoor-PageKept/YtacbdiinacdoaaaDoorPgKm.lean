/-
  Slots that are filled, changed and emptied: what is got of each. Nothing of the program's code is in it.
-/
import Derived.Test.YtacbdiinacdoaaaDoorPgMp
namespace Go.Proofs.YtacbdiinacdoaaaDoor
open Go.RowKit

theorem feS_le (l : List Slt) : feS l ≤ l.length := List.findIdx_le_length
theorem feS_none (l : List Slt) (h : feS l < l.length) : l[feS l] = none := by
  have := List.findIdx_getElem (p := fun s : Slt => s.isNone) (xs := l) (w := h)
  unfold feS
  simpa using this
theorem getS_nil (x : Int) : getS (some []) x = none := by unfold getS; split <;> rfl
theorem getS_of (l : List Slt) (x : Int) (h : 0 ≤ x) : getS (some l) x = (l[x.toNat]?).getD none := by unfold getS; rw [if_pos h]; rfl
theorem getS_neg (o : Option (List Slt)) (x : Int) (h : ¬ 0 ≤ x) : getS o x = none := by unfold getS; rw [if_neg h]
theorem getS_fe (l : List Slt) : getS (some l) (feS l : Int) = none := by
  rw [getS_of _ _ (by omega), Int.toNat_natCast]
  rcases Nat.lt_or_ge (feS l) l.length with h | h
  · rw [List.getElem?_eq_getElem h, feS_none l h]; rfl
  · rw [List.getElem?_eq_none h]; rfl
theorem getS_set (l : List Slt) (k : Nat) (s : Slt) (hk : k < l.length) (x : Int) : getS (some (l.set k s)) x = if x = (k : Int) then s else getS (some l) x := by
  by_cases h : 0 ≤ x
  · rw [getS_of _ _ h, getS_of _ _ h, List.getElem?_set]
    by_cases e : x = (k : Int)
    · subst e
      rw [if_pos rfl, Int.toNat_natCast, if_pos rfl, if_pos hk]; rfl
    · rw [if_neg e, if_neg (by omega)]
  · rw [getS_neg _ _ h, getS_neg _ _ h, if_neg (by omega)]
theorem getS_ins (l : List Slt) (r : List UInt8) (x : Int) : getS (some (insL l r)) x = if x = (feS l : Int) then some r else getS (some l) x := by
  unfold insL
  split
  · rename_i he
    by_cases h : 0 ≤ x
    · rw [getS_of _ _ h, getS_of _ _ h, he]
      by_cases e : x = (l.length : Int)
      · subst e
        rw [if_pos rfl, Int.toNat_natCast, List.getElem?_append_right (Nat.le_refl _)]; simp
      · rw [if_neg e]
        rcases Nat.lt_or_ge x.toNat l.length with h2 | h2
        · rw [List.getElem?_append_left h2]
        · rw [List.getElem?_eq_none (by simp; omega), List.getElem?_eq_none h2]
    · rw [getS_neg _ _ h, getS_neg _ _ h, if_neg (by omega)]
  · rename_i he
    have := feS_le l
    exact getS_set l (feS l) (some r) (by omega) x
theorem getS_strip {l l2 : List Slt} {k : Nat} (hk : k < l.length) (h : Strips (l.set k none) l2) (x : Int) : getS (some l2) x = if x = (k : Int) then none else getS (some l) x := by
  rw [← getS_set l k none hk x]
  obtain ⟨j, hj, rfl, hn, -⟩ := h
  by_cases h : 0 ≤ x
  · rw [getS_of _ _ h, getS_of _ _ h, List.getElem?_take]
    split
    · rfl
    · rename_i hx
      rcases Nat.lt_or_ge x.toNat (l.set k none).length with h2 | h2
      · rw [List.getElem?_eq_getElem h2, hn _ h2 (by omega)]; rfl
      · rw [List.getElem?_eq_none h2]
  · rw [getS_neg _ _ h, getS_neg _ _ h]
theorem lastOk_snoc (l : List Slt) (r : List UInt8) : lastOk (l ++ [some r]) := by unfold lastOk; simp
theorem lastOk_set (l : List Slt) (k : Nat) (r : List UInt8) (h : lastOk l) : lastOk (l.set k (some r)) := by
  unfold lastOk at *
  rw [List.getLast?_eq_getElem?] at *
  rw [List.length_set, List.getElem?_set]
  split
  · split
    · simp
    · simp
  · exact h
theorem lastOk_ins (l : List Slt) (r : List UInt8) (h : lastOk l) : lastOk (insL l r) := by
  unfold insL
  split
  · exact lastOk_snoc l r
  · exact lastOk_set l _ r h
theorem used_step (l : List Slt) (q : Nat) : used (l.take (q + 1)) = used (l.take q) + (sb (getS (some l) (q : Int))).length := by
  rcases Nat.lt_or_ge q l.length with h | h
  · rw [used_take l q h, getS_at l q h]
  · rw [List.take_of_length_le (by omega), List.take_of_length_le h, getS_of _ _ (by omega), Int.toNat_natCast, List.getElem?_eq_none h]; rfl
theorem MW.new (w : World) : MW (w.alloc (.map #[] 0)) w.heap.size 0 (getS (some [])) :=
  ⟨.map [], World.ownsMap_made _ _ _ _, Maps.isMap_empty, fun x _ => by rw [getS_nil]; exact ⟨rfl, rfl⟩⟩
theorem MW.more {W : World} {b n n' : Nat} {f : Int → Option (List UInt8)} (h : MW W b n f) (hn : n ≤ n') : MW W b n' f := by
  obtain ⟨D, h1, h2, h3⟩ := h
  exact ⟨D, h1.mono hn, h2, h3⟩
/-- A page that a step left, behind a turn of the map. -/
theorem Pb.turn {w w' : World} {g b : Nat} {xs : List UInt8} (h : Pb w g xs) (hg : w.grownBy w' (some b)) (hne : g ≠ b) : Pb w' g xs := by
  unfold Pb; rw [hg.block g h.lt (fun e => hne (by cases e; rfl))]; exact h
theorem map_not_cells {w : World} {g b n : Nat} {xs : List UInt8} {D : DataW Unit} (h : Pb w g xs) (hm : w.ownsMap Tryd.prog 3 (plainElem Tryd.prog 9) b n D) (e : g = b) : False := by
  subst e
  obtain ⟨es, clock, hb, _⟩ := hm
  rw [show w.heap[g]? = _ from h] at hb
  cases hb
end Go.Proofs.YtacbdiinacdoaaaDoor
