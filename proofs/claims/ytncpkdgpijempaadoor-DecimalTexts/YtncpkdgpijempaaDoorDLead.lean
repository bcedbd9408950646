/-
  math/bits.LeadingZeros64 by the library's contract, laid at this program; what is known of the number of bits.
-/
import Derived.Test.YtncpkdgpijempaaDoorDBits
import Derived.Shelf.Small.Bits
namespace Go.Proofs.YtncpkdgpijempaaDoor
open Go.RowKit Go.Shelf

def ren : Ren := ⟨fun | 129 => 48 | 134 => 45 | n => n, fun | 3 => 3 | 4 => 4 | 5 => 5 | 9 => 9 | 46 => 74 | 53 => 41 | n => n, fun n => n⟩

theorem lays134 : Lays.n134 Tryd.prog ren := {
  mixed := by kernel_rfl
  f129 := by kernel_rfl
  f134 := by kernel_rfl
  t3 := by kernel_rfl
  a3 := fun _ => by kernel_rfl
  z3 := fun _ => by kernel_rfl
  v3 := fun _ => by kernel_rfl
  t4 := by kernel_rfl
  a4 := fun _ => by kernel_rfl
  z4 := fun _ => by kernel_rfl
  v4 := fun _ => by kernel_rfl
  t5 := by kernel_rfl
  a5 := fun _ => by kernel_rfl
  z5 := fun _ => by kernel_rfl
  v5 := fun _ => by kernel_rfl
  t9 := by kernel_rfl
  a9 := fun _ => by kernel_rfl
  z9 := fun _ => by kernel_rfl
  v9 := fun _ => by kernel_rfl
  t46 := by kernel_rfl
  a46 := fun _ => by kernel_rfl
  z46 := fun _ => by kernel_rfl
  v46 := fun _ => by kernel_rfl
  t53 := by kernel_rfl
  a53 := fun _ => by kernel_rfl
  z53 := fun _ => by kernel_rfl
  v53 := fun _ => by kernel_rfl }

theorem bitLen_bounds : ∀ (k x : Nat), x ≤ k → 0 < x → x < 2 ^ 64 → 0 < Lib.bitLen x ∧ 2 ^ (Lib.bitLen x - 1) ≤ x ∧ x < 2 ^ Lib.bitLen x := by
  intro k
  induction k with
  | zero => intro x h h0 _; omega
  | succ k ih =>
    intro x h h0 h64
    rw [Lib.bitLen_half x (by omega) h64]
    by_cases h1 : x = 1
    · subst h1
      decide
    · obtain ⟨a, b, c⟩ := ih (x / 2) (by omega) (by omega) (by omega)
      generalize Lib.bitLen (x / 2) = m at *
      obtain ⟨j, rfl⟩ : ∃ j, m = j + 1 := ⟨m - 1, by omega⟩
      refine ⟨by omega, ?_, ?_⟩
      · rw [show 1 + (j + 1) - 1 = j + 1 by omega, Nat.pow_succ]
        rw [show j + 1 - 1 = j by omega] at b
        omega
      · rw [show 1 + (j + 1) = (j + 1) + 1 by omega, Nat.pow_succ]
        omega

/-- How far a word may be moved up: what is known of it. -/
theorem lead_any (y : Nat) (w : World) (h0 : 0 < y) (h1 : y < 18446744073709551616) :
    Calls Tryd.prog 45 #[.int .u64 (y : Int)] w fun e w' => ∃ s : Nat, e = .returned (.int .i64 (s : Int)) ∧ s < 64 ∧ 9223372036854775808 ≤ y * 2 ^ s ∧ y * 2 ^ s < 18446744073709551616 ∧ w = w' := by
  refine (Any.bits_LeadingZeros64 lays134 (y : Int) w (by omega) (by omega)).mono ?_
  rintro e w' ⟨rfl, rfl⟩
  rw [Int.toNat_natCast]
  obtain ⟨a, b, c⟩ := bitLen_bounds y y (Nat.le_refl _) h0 h1
  have l := Lib.bitLen_le y 64 (by decide) h1
  generalize Lib.bitLen y = m at *
  refine ⟨64 - m, by congr 2; omega, by omega, ?_, ?_, rfl⟩
  · have e : 2 ^ (m - 1) * 2 ^ (64 - m) = 9223372036854775808 := by rw [← Nat.pow_add, show m - 1 + (64 - m) = 63 by omega]
    rw [← e]
    exact Nat.mul_le_mul_right _ b
  · have e : 2 ^ m * 2 ^ (64 - m) = 18446744073709551616 := by rw [← Nat.pow_add, show m + (64 - m) = 64 by omega]
    rw [← e]
    exact Nat.mul_lt_mul_of_pos_right c (Nat.pow_pos (by decide))
end Go.Proofs.YtncpkdgpijempaaDoor
