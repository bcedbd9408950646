/-
  Contracts of package gauss: Norm, Conj, Turn: for every point.
-/
import Derived.Test.YtibbenhplmmmiaaDoorGArith
namespace Go.Proofs.YtibbenhplmmmiaaDoor
open Go.RowKit
attribute [local go_sem] cell?_more frozen?_more setCell_more more_lt more_more more_drew more_drewN setCell_drewN alloc_drewN
attribute [local go_sem high] cellMA frozenMA setMA cellMAM frozenMAM setMAM cellMAA frozenMAA setMAA cellMAAM frozenMAAM setMAAM cellMAMA frozenMAMA setMAMA cellMAMAM frozenMAMAM setMAMAM cellMAMAMA frozenMAMAMA setMAMAMA cellMAMAMAM frozenMAMAMAM setMAMAMAM

/-- Times i. -/
theorem FI_zero : FI 0 0 := ⟨by decide, false, 0, -1074, by decide, by unfold worth; exact Rat.zero_mul _⟩
theorem FI_one : FI 4607182418800017408 1 := by
  have h : floatOfInt .f64 1 = 4607182418800017408 := by decide +kernel
  rw [← h]; exact FI_nearest 1 (by decide)
theorem turn_names {a b : Nat} {x y : Int} (ha : FI a x) (hb : FI b y) (x1 : -2097152 ≤ x) (x2 : x ≤ 2097152) (y1 : -2097152 ≤ y) (y2 : y ≤ 2097152) :
    ∃ re im, cMulBits a b 0 4607182418800017408 = some (re, im) ∧ FI re (-y) ∧ FI im x := by
  obtain ⟨re, im, h1, h2, h3⟩ := cmul_names 2097152 1 (by decide) (by decide) ha hb FI_zero FI_one x1 x2 y1 y2 (by decide) (by decide) (by decide) (by decide)
  refine ⟨re, im, h1, ?_, ?_⟩
  · have : -y = x * 0 - y * 1 := by omega
    rw [this]; exact h2
  · have : x = x * 1 + y * 0 := by omega
    rw [this]; exact h3

end Go.Proofs.YtibbenhplmmmiaaDoor
