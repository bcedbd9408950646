/-
  The contract of codec.takeText: what the call tells of any bytes.
-/
import Derived.Test.YtonjjbmjholkjaaGreatDoorReads
namespace Go.Proofs.YtonjjbmjholkjaaGreatDoor
open Go.RowKit

/-- The text that bytes begin with, how many bytes it has with its length, which error. -/
def takeT (bs : List UInt8) : List UInt8 × Nat × Nat :=
  if (takeL bs).2.2 ≠ 0 then ([], 0, (takeL bs).2.2)
  else if bs.length - (takeL bs).2.1 < (takeL bs).1 then ([], 0, 20)
  else ((bs.drop (takeL bs).2.1).take (takeL bs).1, (takeL bs).2.1 + (takeL bs).1, 0)

theorem Rd.cut {w : World} {b off n cap : Nat} {bs : List UInt8} (h : Rd w (some ⟨b, off, none⟩) n cap bs) (l m : Nat) (hlm : l + m ≤ n) : Rd w (some ⟨b, off + l, none⟩) m (cap - l) ((bs.drop l).take m) := by
  obtain ⟨h1, h2, h3, h4, h5⟩ := h
  refine ⟨by simp; omega, by omega, by omega, (fun h => by cases h), fun hm => ?_⟩
  obtain ⟨b', off', hao, hc⟩ := h5 (by omega)
  cases hao
  refine ⟨b, off + l, rfl, fun i hi => ?_⟩
  have hi' : i < m := by simp at hi; omega
  have := hc (l + i) (by omega)
  rw [Nat.add_assoc, this]
  simp

end Go.Proofs.YtonjjbmjholkjaaGreatDoor
