/-
  Values and rows as plain data: which may be, their order, their keys; keys stand byte by byte as their rows do.
-/
import GoSem.Op.String
namespace Go.Proofs.YtibbenhplmmmiaaGreatDoor

/-- A value. -/
structure Va where
  k : Int
  n : Int
  m : Int
  b : List UInt8

/-- May it be? (g: is its text good UTF-8?) -/
def vok (g : List UInt8 → Bool) (v : Va) : Prop :=
  (v.k = 0 ∧ v.n = 0 ∧ v.m = 0 ∧ v.b = []) ∨ (v.k = 1 ∧ v.m = 0 ∧ v.b = []) ∨ (v.k = 2 ∧ 0 ≤ v.m ∧ v.m ≤ 6 ∧ v.b = []) ∨
  (v.k = 3 ∧ v.n = 0 ∧ v.m = 0 ∧ v.b.length ≤ 256 ∧ g v.b = true) ∨ (v.k = 4 ∧ (v.n = 0 ∨ v.n = 1) ∧ v.m = 0 ∧ v.b = []) ∨
  (v.k = 5 ∧ -1048576 ≤ v.n ∧ v.n ≤ 1048576 ∧ -1048576 ≤ v.m ∧ v.m ≤ 1048576 ∧ v.b = [])

/-- Is it a number? -/
def isn (v : Va) : Prop := v.k = 1 ∨ v.k = 2
instance (v : Va) : Decidable (isn v) := inferInstanceAs (Decidable (_ ∨ _))

end Go.Proofs.YtibbenhplmmmiaaGreatDoor
