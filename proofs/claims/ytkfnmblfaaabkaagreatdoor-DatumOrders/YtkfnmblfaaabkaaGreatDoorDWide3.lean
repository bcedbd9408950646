/-
  The contracts of package decimal's wide numbers, gone on: difference, sign, narrowed.
-/
import Derived.Test.YtkfnmblfaaabkaaGreatDoorDWide2
namespace Go.Proofs.YtkfnmblfaaabkaaGreatDoor
open Go.RowKit
attribute [local go_sem] cell?_more frozen?_more setCell_more more_lt more_drew more_drewN setCell_drewN alloc_drewN

set_option maxHeartbeats 1000000 in
theorem sign_any (b : Bool) (h l : Nat) (w : World) :
    Calls Tryz.prog 128 #[wd b h l] w fun e w' => e = .returned (.int .i64 (sval b (h * 18446744073709551616 + l)).sign) ∧ Grew w w' := by
  have key : (h = 0 ∧ l = 0) ∨ (h = 0 ∧ l ≠ 0) ∨ (h ≠ 0) := by omega
  rcases key with ⟨rfl, rfl⟩ | ⟨rfl, hl⟩ | hh
  · go_enter Tryz.func128, Tryz.ntmps128
    go_wp2
    go_ret
    refine ⟨ret_int ?_, (Grew.refl _).alloc _⟩
    cases b <;> rfl
  · have e0 : ((l : Int) == 0) = false := by simp; omega
    go_enter Tryz.func128, Tryz.ntmps128
    cases b
    all_goals go_wp2
    all_goals go_ret
    all_goals refine ⟨ret_int ?_, (Grew.refl _).alloc _⟩
    · rw [sval_false, Int.sign_eq_one_of_pos (by omega)]
    · rw [sval_true, Int.sign_eq_neg_one_of_neg (by omega)]
  · have e0 : ((h : Int) == 0) = false := by simp; omega
    go_enter Tryz.func128, Tryz.ntmps128
    cases b
    all_goals go_wp2
    all_goals go_ret
    all_goals refine ⟨ret_int ?_, (Grew.refl _).alloc _⟩
    · rw [sval_false, Int.sign_eq_one_of_pos (by omega)]
    · rw [sval_true, Int.sign_eq_neg_one_of_neg (by omega)]

set_option maxHeartbeats 1000000 in
theorem difference_any (b1 b2 : Bool) (h1 l1 h2 l2 : Nat) (w : World) (k1 : l1 < 18446744073709551616) (k2 : l2 < 18446744073709551616) (k3 : h1 < 9223372036854775808) (k4 : h2 < 9223372036854775808) :
    Calls Tryz.prog 129 #[wd b1 h1 l1, wd b2 h2 l2] w fun e w' => ∃ (b : Bool) (h l : Nat), e = .returned (wd b h l) ∧
      sval b (h * 18446744073709551616 + l) = sval b1 (h1 * 18446744073709551616 + l1) - sval b2 (h2 * 18446744073709551616 + l2) ∧ l < 18446744073709551616 ∧ h < 18446744073709551616 ∧ Grew w w' := by
  have es : sval (!b2) (h2 * 18446744073709551616 + l2) = - sval b2 (h2 * 18446744073709551616 + l2) := by cases b2 <;> simp [sval]
  have S := fun W => sum_any b1 (!b2) h1 l1 h2 l2 W k1 k2 k3 k4
  rw [es] at S
  clear es k1 k2 k3 k4
  go_enter Tryz.func129, Tryz.ntmps129
  go_wp2_with (go_at_call 151; refine (S _).mono ?_; rintro e w' ⟨b, h, l, rfl, hs, hl, hh, os, n, rfl⟩)
  refine bodyPost_ret_by (v := wd b h l) ?_ rfl ⟨b, h, l, rfl, by omega, hl, hh, ((((((Grew.refl _).alloc _).alloc _).alloc _).more _).drewN _)⟩
  simp [results, Tryz.results129, go_sem]

theorem ret_two {j k : IntKind} {a b c d : Int} (h : a = b) (h' : c = d) : Ending.returned (.tuple #[.int j a, .int k c]) = .returned (.tuple #[.int j b, .int k d]) := by rw [h, h']
theorem nz_in {z : Int} (h0 : -9223372036854775808 ≤ z) (h1 : z ≤ 9223372036854775807) : nz z = z ∧ nErr z = 0 := by
  have : fits z = true := (fits_iff z).2 ⟨h0, h1⟩
  simp [nz, nErr, this]
theorem nz_out {z : Int} (h : z < -9223372036854775808 ∨ 9223372036854775807 < z) : nz z = 0 ∧ nErr z = 32 := by
  have : fits z = false := by
    cases hf : fits z
    · rfl
    · have := (fits_iff z).1 hf; omega
  simp [nz, nErr, this]

set_option maxHeartbeats 1000000 in
theorem narrowed_any (b : Bool) (h l : Nat) (w : World) (hl : l < 18446744073709551616) :
    Calls Tryz.prog 186 #[wd b h l] w fun e w' => e = .returned (.tuple #[.int .i64 (nz (sval b (h * 18446744073709551616 + l))), .int .i64 (nErr (sval b (h * 18446744073709551616 + l)))]) ∧ Grew w w' := by
  go_enter Tryz.func186, Tryz.ntmps186
  cases b
  · rw [sval_false]
    go_wp2
    all_goals go_ret2
    all_goals refine ⟨?_, (Grew.refl _).alloc _⟩
    · have := nz_out (z := ((h * 18446744073709551616 + l : Nat) : Int)) (by omega)
      exact ret_two this.1.symm this.2.symm
    · have := nz_in (z := ((h * 18446744073709551616 + l : Nat) : Int)) (by omega) (by omega)
      exact ret_two (by rw [this.1]; omega) this.2.symm
    · have := nz_out (z := ((h * 18446744073709551616 + l : Nat) : Int)) (by omega)
      exact ret_two this.1.symm this.2.symm
  · rw [sval_true]
    go_wp2
    all_goals go_ret2
    all_goals refine ⟨?_, (Grew.refl _).alloc _⟩
    · have := nz_out (z := -((h * 18446744073709551616 + l : Nat) : Int)) (by omega)
      exact ret_two this.1.symm this.2.symm
    · have := nz_in (z := -((h * 18446744073709551616 + l : Nat) : Int)) (by omega) (by omega)
      refine ret_two (by rw [this.1]; simp only [wrap64, IntKind.wrap_u64]; omega) this.2.symm
    · have := nz_out (z := -((h * 18446744073709551616 + l : Nat) : Int)) (by omega)
      exact ret_two this.1.symm this.2.symm
end Go.Proofs.YtkfnmblfaaabkaaGreatDoor
