/-
  The contracts of the lexer's small functions: byteAt, isLetter, isDigit, fitsName, the library's IndexByte, pastBlanks.
-/
import Derived.Test.YtibbenhplmmmiaaGreatDoorChecked
import Derived.Test.YtibbenhplmmmiaaGreatDoorMbLJumps
import Derived.Test.YtibbenhplmmmiaaGreatDoorMiDWide3
import Derived.WalkKit
import Derived.WalkMore
import Derived.WalkSpells
import Derived.WalkLawsBesides
import Derived.Below
import Derived.Laws.IdiomStrings
namespace Go.Proofs.YtibbenhplmmmiaaGreatDoor
open Go.RowKit

/-- The byte at a place; 0 past the end. -/
def bat (l : List UInt8) (i : Nat) : UInt8 := l.getD i 0

theorem byteAt_any (l : List UInt8) (i : Nat) (w : World) : Calls Tryz.prog 321 #[.string ⟨l.toArray⟩, .int .i64 (i : Int)] w fun e w' => e = .returned (.int .u8 ((bat l i).toNat : Int)) ∧ w = w' := by
  have hs : (ByteArray.mk l.toArray).size = l.length := rfl
  by_cases h : i < l.length
  · have h1 : (i : Int) < (l.length : Int) := by omega
    have h2 : (0 : Int) ≤ (i : Int) := by omega
    have hg : ∀ h, (ByteArray.mk l.toArray)[i]'h = bat l i := fun h' => by
      show l[i] = _
      unfold bat
      simp [List.getD, h]
    generalize bat l i = c at *
    generalize ByteArray.mk l.toArray = B at *
    go_enter Tryz.func321, Tryz.ntmps321
    go_wp2
    go_ret
    exact ⟨rfl, rfl⟩
  · have h1 : ¬ (i : Int) < (l.length : Int) := by omega
    have hg : bat l i = 0 := by
      unfold bat
      rw [List.getD_eq_getElem?_getD, List.getElem?_eq_none (by omega)]
      rfl
    rw [hg]
    generalize ByteArray.mk l.toArray = B at *
    go_enter Tryz.func321, Tryz.ntmps321
    go_wp2
    go_ret
    exact ⟨rfl, rfl⟩

theorem isDigit_any (c : UInt8) (w : World) : Calls Tryz.prog 323 #[.int .u8 (c.toNat : Int)] w fun e w' => e = .returned (.bool (isD c)) ∧ w = w' := by
  have e : isD c = (decide ((48 : Int) ≤ (c.toNat : Int)) && decide ((c.toNat : Int) ≤ 57)) := by
    unfold isD
    have e1 : decide (48 ≤ c.toNat) = decide ((48 : Int) ≤ (c.toNat : Int)) := by simp; omega
    have e2 : decide (c.toNat ≤ 57) = decide ((c.toNat : Int) ≤ 57) := by simp; omega
    rw [e1, e2]
  rw [e]
  generalize (c.toNat : Int) = n
  by_cases h1 : (48 : Int) ≤ n
  · rw [decide_eq_true h1]
    go_enter Tryz.func323, Tryz.ntmps323
    go_wp2
    go_ret
    exact ⟨rfl, rfl⟩
  · rw [decide_eq_false h1]
    go_enter Tryz.func323, Tryz.ntmps323
    go_wp2
    go_ret
    exact ⟨rfl, rfl⟩

theorem isLetter_any (c : UInt8) (w : World) : Calls Tryz.prog 322 #[.int .u8 (c.toNat : Int)] w fun e w' => e = .returned (.bool (isL c)) ∧ w = w' := by
  have e : isL c = ((decide ((97 : Int) ≤ (c.toNat : Int)) && decide ((c.toNat : Int) ≤ 122)) || ((c.toNat : Int) == 95)) := by
    unfold isL
    have e1 : decide (97 ≤ c.toNat) = decide ((97 : Int) ≤ (c.toNat : Int)) := by simp; omega
    have e2 : decide (c.toNat ≤ 122) = decide ((c.toNat : Int) ≤ 122) := by simp; omega
    have e3 : decide (c.toNat = 95) = ((c.toNat : Int) == 95) := by
      by_cases h : c.toNat = 95
      · rw [h]; rfl
      · rw [decide_eq_false h]; symm; rw [beq_eq_false_iff_ne]; omega
    rw [e1, e2, e3]
  rw [e]
  generalize (c.toNat : Int) = n
  by_cases h1 : (97 : Int) ≤ n
  · rw [decide_eq_true h1]
    by_cases h2 : n ≤ 122
    · rw [decide_eq_true h2]
      go_enter Tryz.func322, Tryz.ntmps322
      go_wp2
      go_ret
      exact ⟨rfl, rfl⟩
    · rw [decide_eq_false h2]
      go_enter Tryz.func322, Tryz.ntmps322
      go_wp2
      go_ret
      exact ⟨rfl, rfl⟩
  · rw [decide_eq_false h1]
    go_enter Tryz.func322, Tryz.ntmps322
    go_wp2
    go_ret
    exact ⟨rfl, rfl⟩

theorem ixb_at (B : ByteArray) (c : UInt8) (r : Int) (h : firstIdx B c = r) (w : World) : (callFunc 306 #[.string B, .int .u8 (c.toNat : Int)]).run Tryz.prog w = .ok (.value (.int .i64 r)) w := by
  rw [run_callFunc_extern Tryz.func306 (by kernel_rfl) (by kernel_rfl) (by kernel_rfl) (e := Extern.BytealgIndexByte.indexByte) (by kernel_rfl), run_indexByte_string]
  rw [show ((c.toNat : Int).toNat.toUInt8) = c by simp, h]
  rfl

theorem ixbLite_any (B : ByteArray) (c : UInt8) (w : World) : Calls Tryz.prog 285 #[.string B, .int .u8 (c.toNat : Int)] w fun e w' => e = .returned (.int .i64 (firstIdx B c)) ∧ w = w' := by
  have F := fun w => ixb_at B c _ rfl w
  generalize firstIdx B c = r at *
  generalize (c.toNat : Int) = n at *
  go_enter Tryz.func285, Tryz.ntmps285
  go_wp2
  go_ret
  exact ⟨rfl, rfl⟩

theorem indexByte_any (B : ByteArray) (c : UInt8) (w : World) : Calls Tryz.prog 308 #[.string B, .int .u8 (c.toNat : Int)] w fun e w' => e = .returned (.int .i64 (firstIdx B c)) ∧ w = w' := by
  have F := fun w => ixbLite_any B c w
  generalize firstIdx B c = r at *
  generalize (c.toNat : Int) = n at *
  go_enter Tryz.func308, Tryz.ntmps308
  go_wp2_with (go_at_call 285; refine (F _).mono ?_; rintro e w' ⟨rfl, rfl⟩)
  go_ret
  exact ⟨rfl, rfl⟩

theorem signs_idx (c : UInt8) : decide ((0 : Int) ≤ firstIdx ⟨#[40, 41, 44, 46, 59, 42, 43, 45, 47, 37, 61]⟩ c) = isS c := by
  have h : ∀ n : Nat, n < 256 → decide ((0 : Int) ≤ firstIdx ⟨#[40, 41, 44, 46, 59, 42, 43, 45, 47, 37, 61]⟩ n.toUInt8) = isS n.toUInt8 := by decide +kernel
  have := h c.toNat c.toNat_lt
  simpa using this

theorem bat_drop (l : List UInt8) (i : Nat) (h : i < l.length) : l.drop i = bat l i :: l.drop (i + 1) := by
  rw [List.drop_eq_getElem_cons h]
  unfold bat
  simp [List.getD, h]
theorem bat_out (l : List UInt8) (i : Nat) (h : l.length ≤ i) : bat l i = 0 := by
  unfold bat
  rw [List.getD_eq_getElem?_getD, List.getElem?_eq_none (by omega)]
  rfl

end Go.Proofs.YtibbenhplmmmiaaGreatDoor
