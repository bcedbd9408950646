/-
  AddInt and MulInt of the program: the exact sum or product, if that is an int.
-/
import Derived.Test.YtclhmmgdhagloaaGreatDoorDArith
namespace Go.Proofs.YtclhmmgdhagloaaGreatDoor
open Go.RowKit
attribute [local go_sem] cell?_more frozen?_more setCell_more more_lt more_more more_drew more_drewN setCell_drewN alloc_drewN

/-- What is answered of a number: itself, if that is an int. -/
abbrev ires (z : Int) : Value := .tuple #[.int .i64 (nz z), .int .i64 (nErr z)]

set_option maxHeartbeats 1000000 in
theorem addInt_any (a b : Int) (w : World) (a0 : -9223372036854775808 ≤ a) (a1 : a ≤ 9223372036854775807) (b0 : -9223372036854775808 ≤ b) (b1 : b ≤ 9223372036854775807) :
    Calls Tryz.prog 143 #[.int .i64 a, .int .i64 b] w fun e w' => e = .returned (ires (a + b)) ∧ Grew w w' := by
  have S := fun W => sum_any (decide (a < 0)) (decide (b < 0)) 0 a.natAbs 0 b.natAbs W (by omega) (by omega) (by omega) (by omega)
  rw [Nat.zero_mul, Nat.zero_add, Nat.zero_add, sval_of, sval_of] at S
  generalize a + b = z at *
  go_enter Tryz.func143, Tryz.ntmps143
  go_wp2_with fail
  refine (widened_any a _ a0 a1).mono ?_
  rintro e w1 ⟨rfl, os1, n1, rfl⟩
  go_wp2_with fail
  refine (widened_any b _ b0 b1).mono ?_
  rintro e w2 ⟨rfl, os2, n2, rfl⟩
  clear a0 a1 b0 b1
  go_wp2_with fail
  refine (S _).mono ?_
  rintro e w3 ⟨s, h, l, rfl, hv, hl, hh, os3, n3, rfl⟩
  have N := fun W => narrowed_any s h l W hl
  rw [hv] at N
  clear S hv hl hh
  go_wp2_with fail
  refine (N _).mono ?_
  rintro e w4 ⟨rfl, os4, n4, rfl⟩
  go_wp2
  refine bodyPost_ret_by (v := ires z) ?_ (by rfl) ⟨rfl, by repeat (first | exact Grew.refl _ | apply Grew.drew | apply Grew.drewN | apply Grew.alloc | apply Grew.more)⟩
  simp [results, Tryz.results143, go_sem]

set_option maxHeartbeats 1000000 in
theorem mulInt_any (a b : Int) (w : World) (a0 : -9223372036854775808 ≤ a) (a1 : a ≤ 9223372036854775807) (b0 : -9223372036854775808 ≤ b) (b1 : b ≤ 9223372036854775807) :
    Calls Tryz.prog 145 #[.int .i64 a, .int .i64 b] w fun e w' => e = .returned (ires (a * b)) ∧ Grew w w' := by
  have S := fun W => product_ex a b W a0 a1 b0 b1
  generalize a * b = z at *
  clear a0 a1 b0 b1
  go_enter Tryz.func145, Tryz.ntmps145
  go_wp2_with fail
  refine (S _).mono ?_
  rintro e w3 ⟨s, h, l, rfl, hv, hl, hh, os3, n3, rfl⟩
  have N := fun W => narrowed_any s h l W hl
  rw [hv] at N
  clear S hv hl hh
  go_wp2_with fail
  refine (N _).mono ?_
  rintro e w4 ⟨rfl, os4, n4, rfl⟩
  go_wp2
  refine bodyPost_ret_by (v := ires z) ?_ (by rfl) ⟨rfl, by repeat (first | exact Grew.refl _ | apply Grew.drew | apply Grew.drewN | apply Grew.alloc | apply Grew.more)⟩
  simp [results, Tryz.results145, go_sem]

end Go.Proofs.YtclhmmgdhagloaaGreatDoor
