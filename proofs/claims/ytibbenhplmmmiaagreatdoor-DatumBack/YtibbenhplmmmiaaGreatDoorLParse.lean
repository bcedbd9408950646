/-
  The contract of datum.Parse at the texts of literals.
-/
import Derived.Test.YtibbenhplmmmiaaGreatDoorLNum
namespace Go.Proofs.YtibbenhplmmmiaaGreatDoor
open Go.RowKit Go.Shelf
attribute [local go_sem] cell?_more frozen?_more setCell_more more_lt more_more more_drew more_drewN setCell_drewN alloc_drewN

/-- What Parse answers. -/
def dpR : Option Va → Value
  | none => .tuple #[va 0 0 0 ⟨#[]⟩, .int .i64 21]
  | some v => .tuple #[vv v, .int .i64 0]

theorem ba_beq (a b : List UInt8) : ((ByteArray.mk a.toArray).toList == (ByteArray.mk b.toArray).toList) = decide (a = b) := by
  rw [ByteArray.toList_eq, ByteArray.toList_eq]
  show (a == b) = _
  by_cases h : a = b
  · subst h; simp
  · rw [decide_eq_false h, beq_eq_false_iff_ne]; exact h

end Go.Proofs.YtibbenhplmmmiaaGreatDoor
