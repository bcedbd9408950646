/-
  A text parted at its first point, as a list of bytes. Nothing of the program is in it.
  The library's CutPrefix and Cut at texts of one sign, and rightWhole and rightPart of package decimal: for every text.
  The document's Digits: the digits of a number.
  The document's Print: the text of any decimal.
  What the program's Print writes, from the last digit on, is the text.
  A scope that is entered ahead of its one label and jumps back to it a few times: its passes, one behind the other. Nothing of the program is in it.
  Toward the program's Print: passes by induction, the room.
  The program's tellDigits: the number of the digits that a text begins with, and how many they are.
  Texts of decimals there and back, as lists of bytes: what is printed is read as it was, what is read is printed as it was. Nothing of the program is in it.
  The contract of decimal.Parse: for every text.
-/
import Derived.Laws.Externs
import Derived.Test.YtafmchgncahafaaGreatDoorChecked
import Derived.Test.YtafmchgncahafaaGreatDoorMqDWide3
import Derived.WalkKit
import Derived.WalkSpells
import Derived.WalkLawsBesides
import Derived.Laws.IdiomStrings
import Derived.Deep.RegionWith
import Derived.Test.YtafmchgncahafaaGreatDoorDArith
import Derived.Test.YtafmchgncahafaaGreatDoorDPower
import Derived.Deep.RegionHeld2
import Derived.ScopeJumps
import Derived.Tactics
namespace Go.Proofs.YtafmchgncahafaaGreatDoor

end Go.Proofs.YtafmchgncahafaaGreatDoor

namespace Go.Proofs.YtafmchgncahafaaGreatDoor
open Go.RowKit

end Go.Proofs.YtafmchgncahafaaGreatDoor

namespace Go.Proofs.YtafmchgncahafaaGreatDoor
open Go.RowKit
attribute [local go_sem] cell?_more frozen?_more setCell_more more_lt more_more more_drew more_drewN setCell_drewN alloc_drewN

end Go.Proofs.YtafmchgncahafaaGreatDoor

namespace Go.Proofs.YtafmchgncahafaaGreatDoor
open Go.RowKit
attribute [local go_sem] cell?_more frozen?_more setCell_more more_lt more_more more_drew more_drewN setCell_drewN alloc_drewN

end Go.Proofs.YtafmchgncahafaaGreatDoor

namespace Go.Proofs.YtafmchgncahafaaGreatDoor

/-- One digit more ahead of what is written; a point ahead of it where the scale is reached. -/
def told (s k x : Nat) (t : List UInt8) : List UInt8 := UInt8.ofNat (48 + x % 10) :: (if 0 < k ∧ k = s then 46 :: t else t)
/-- What is written in the end: x is left, k digits are told. -/
def written (s : Nat) : Nat → Nat → Nat → List UInt8 → List UInt8
  | 0, _, _, t => t
  | f + 1, k, x, t => if 0 < x / 10 ∨ k + 1 ≤ s then written s f (k + 1) (x / 10) (told s k x t) else told s k x t

end Go.Proofs.YtafmchgncahafaaGreatDoor

namespace Go.Proofs.YtafmchgncahafaaGreatDoor

end Go.Proofs.YtafmchgncahafaaGreatDoor

namespace Go.Proofs.YtafmchgncahafaaGreatDoor
open Go.RowKit

/-- The room: what is written lies at its end. -/
def Room (C : Array Value) (t : List UInt8) (j : Nat) : Prop :=
  C.size = 21 ∧ j + t.length = 21 ∧ (∀ i, i < 21 → ∃ y : UInt8, C[i]? = some (.int .u8 (y.toNat : Int))) ∧ ∀ i (h : i < t.length), C[j + i]? = some (.int .u8 (t[i].toNat : Int))
theorem Room.cons {C : Array Value} {t : List UInt8} {j : Nat} (h : Room C t (j + 1)) (y : UInt8) : Room (C.setIfInBounds j (.int .u8 (y.toNat : Int))) (y :: t) j := by
  obtain ⟨h1, h2, h3, h4⟩ := h
  refine ⟨by simpa using h1, by rw [List.length_cons]; omega, fun i hi => ?_, fun i hi => ?_⟩
  · by_cases e : i = j
    · subst e; exact ⟨y, by rw [Array.getElem?_setIfInBounds_self, if_pos (by omega)]⟩
    · obtain ⟨z, hz⟩ := h3 i hi
      exact ⟨z, by rw [Array.getElem?_setIfInBounds_ne (by omega)]; exact hz⟩
  · cases i with
    | zero => rw [Nat.add_zero, Array.getElem?_setIfInBounds_self, if_pos (by omega)]; rfl
    | succ i =>
      rw [Array.getElem?_setIfInBounds_ne (by omega)]
      have := h4 i (by simpa using hi)
      rw [show j + 1 + i = j + (i + 1) by omega] at this
      exact this

end Go.Proofs.YtafmchgncahafaaGreatDoor

namespace Go.Proofs.YtafmchgncahafaaGreatDoor
open Go.RowKit

end Go.Proofs.YtafmchgncahafaaGreatDoor

namespace Go.Proofs.YtafmchgncahafaaGreatDoor

end Go.Proofs.YtafmchgncahafaaGreatDoor

namespace Go.Proofs.YtafmchgncahafaaGreatDoor
open Go.RowKit
attribute [local go_sem] cell?_more frozen?_more setCell_more more_lt more_more more_drew more_drewN setCell_drewN alloc_drewN


end Go.Proofs.YtafmchgncahafaaGreatDoor
