/-
  The contract of gauss.Turn: for every point and every count.
-/
import Derived.Test.YtibbenhplmmmiaaDoorGNorm
namespace Go.Proofs.YtibbenhplmmmiaaDoor
open Go.RowKit
attribute [local go_sem] cell?_more frozen?_more setCell_more more_lt more_more more_drew more_drewN setCell_drewN alloc_drewN
attribute [local go_sem high] cellMA frozenMA setMA cellMAM frozenMAM setMAM cellMAA frozenMAA setMAA cellMAAM frozenMAAM setMAAM cellMAMA frozenMAMA setMAMA cellMAMAM frozenMAMAM setMAMAM cellMAMAMA frozenMAMAMA setMAMAMA cellMAMAMAM frozenMAMAMAM setMAMAMAM

theorem and_three (n : Int) : bits .and .i64 n 3 = n % 4 := by
  have h : IntKind.i64.wrap (((BitVec.ofInt 64 n &&& BitVec.ofInt 64 3).toNat : Nat) : Int) = n % 4 := by
    rw [IntKind.wrap_i64, BitVec.toNat_and, BitVec.toNat_ofInt, BitVec.toNat_ofInt]
    have h3 : ((3 : Int) % ((2 ^ 64 : Nat) : Int)).toNat = 2 ^ 2 - 1 := by decide
    rw [h3, Nat.and_two_pow_sub_one_eq_mod]
    omega
  exact h

set_option maxHeartbeats 1000000 in
theorem turn_good0 (x y n : Int) (w : World) (h : ok2 x y = true) (hk : n % 4 = 0) : Calls Tryd.prog 21 #[pv x y, .int .i64 n] w fun e w' => e = .returned (pv (x) (y)) ∧ Grew w w' := by
  have R := fun W => right_any x y W
  rw [h] at R
  rw [ok2_iff] at h
  have Nn := fun W => number_any x y W
  have A3 := and_three n
  rw [hk] at A3
  have P := fun W => point_any (floatOfInt .f64 x) (floatOfInt .f64 y) (x) (y) W (FI_nearest x (by omega)) (FI_nearest y (by omega)) (by omega) (by omega)
  generalize floatOfInt .f64 x = a at *
  generalize floatOfInt .f64 y = b at *
  generalize hX : (x : Int) = X at *
  generalize hY : (y : Int) = Y at *
  clear h hk 
  go_enter Tryd.func21, Tryd.ntmps21
  go_wp2_with (first
    | (go_at_call 17; refine (R _).mono ?_; rintro e w' ⟨rfl, os, n, rfl⟩)
    | (go_at_call 34; refine (Nn _).mono ?_; rintro e w' ⟨rfl, os2, n2, rfl⟩))
  refine wp_loop_rounds 1 ?_
  rw [rounds_succ]
  go_wp2_with (go_at_call 35; refine (P _).mono ?_; rintro e w' ⟨rfl, os3, n3, rfl⟩)
  refine bodyPost_ret_by (v := pv X Y) ?_ rfl ⟨rfl, ?_⟩
  · simp [results, Tryd.results21, go_sem]
  · repeat (first | exact Grew.refl _ | apply Grew.drew | apply Grew.drewN | apply Grew.alloc | apply Grew.more)

set_option maxHeartbeats 1000000 in
theorem turn_good1 (x y n : Int) (w : World) (h : ok2 x y = true) (hk : n % 4 = 1) : Calls Tryd.prog 21 #[pv x y, .int .i64 n] w fun e w' => e = .returned (pv (-y) (x)) ∧ Grew w w' := by
  have R := fun W => right_any x y W
  rw [h] at R
  rw [ok2_iff] at h
  have Nn := fun W => number_any x y W
  have A3 := and_three n
  rw [hk] at A3
  obtain ⟨r0, i0, m0, f0, g0⟩ := turn_names (FI_nearest x (by omega)) (FI_nearest y (by omega)) (by omega) (by omega) (by omega) (by omega)
  have h0 := fun t w => run_complex_mul (P := Tryd.prog) w t _ _ _ _ r0 i0 m0
  have P := fun W => point_any (r0) (i0) (-y) (x) W f0 g0 (by omega) (by omega)
  generalize floatOfInt .f64 x = a at *
  generalize floatOfInt .f64 y = b at *
  generalize hX : (-y : Int) = X at *
  generalize hY : (x : Int) = Y at *
  clear h hk m0 f0 g0 hX hY
  go_enter Tryd.func21, Tryd.ntmps21
  go_wp2_with (first
    | (go_at_call 17; refine (R _).mono ?_; rintro e w' ⟨rfl, os, n, rfl⟩)
    | (go_at_call 34; refine (Nn _).mono ?_; rintro e w' ⟨rfl, os2, n2, rfl⟩))
  refine wp_loop_rounds 2 ?_
  rw [rounds_succ]
  go_wp2_with fail
  rw [rounds_succ]
  go_wp2_with (go_at_call 35; refine (P _).mono ?_; rintro e w' ⟨rfl, os3, n3, rfl⟩)
  refine bodyPost_ret_by (v := pv X Y) ?_ rfl ⟨rfl, ?_⟩
  · simp [results, Tryd.results21, go_sem]
  · repeat (first | exact Grew.refl _ | apply Grew.drew | apply Grew.drewN | apply Grew.alloc | apply Grew.more)

set_option maxHeartbeats 1000000 in
theorem turn_good2 (x y n : Int) (w : World) (h : ok2 x y = true) (hk : n % 4 = 2) : Calls Tryd.prog 21 #[pv x y, .int .i64 n] w fun e w' => e = .returned (pv (-x) (-y)) ∧ Grew w w' := by
  have R := fun W => right_any x y W
  rw [h] at R
  rw [ok2_iff] at h
  have Nn := fun W => number_any x y W
  have A3 := and_three n
  rw [hk] at A3
  obtain ⟨r0, i0, m0, f0, g0⟩ := turn_names (FI_nearest x (by omega)) (FI_nearest y (by omega)) (by omega) (by omega) (by omega) (by omega)
  obtain ⟨r1, i1, m1, f1, g1⟩ := turn_names f0 g0 (by omega) (by omega) (by omega) (by omega)
  have h0 := fun t w => run_complex_mul (P := Tryd.prog) w t _ _ _ _ r0 i0 m0
  have h1 := fun t w => run_complex_mul (P := Tryd.prog) w t _ _ _ _ r1 i1 m1
  have P := fun W => point_any (r1) (i1) (-x) (-y) W f1 g1 (by omega) (by omega)
  generalize floatOfInt .f64 x = a at *
  generalize floatOfInt .f64 y = b at *
  generalize hX : (-x : Int) = X at *
  generalize hY : (-y : Int) = Y at *
  clear h hk m0 f0 g0 m1 f1 g1 hX hY
  go_enter Tryd.func21, Tryd.ntmps21
  go_wp2_with (first
    | (go_at_call 17; refine (R _).mono ?_; rintro e w' ⟨rfl, os, n, rfl⟩)
    | (go_at_call 34; refine (Nn _).mono ?_; rintro e w' ⟨rfl, os2, n2, rfl⟩))
  refine wp_loop_rounds 3 ?_
  rw [rounds_succ]
  go_wp2_with fail
  rw [rounds_succ]
  go_wp2_with fail
  rw [rounds_succ]
  go_wp2_with (go_at_call 35; refine (P _).mono ?_; rintro e w' ⟨rfl, os3, n3, rfl⟩)
  refine bodyPost_ret_by (v := pv X Y) ?_ rfl ⟨rfl, ?_⟩
  · simp [results, Tryd.results21, go_sem]
  · repeat (first | exact Grew.refl _ | apply Grew.drew | apply Grew.drewN | apply Grew.alloc | apply Grew.more)

set_option maxHeartbeats 1000000 in
theorem turn_good3 (x y n : Int) (w : World) (h : ok2 x y = true) (hk : n % 4 = 3) : Calls Tryd.prog 21 #[pv x y, .int .i64 n] w fun e w' => e = .returned (pv (-(-y)) (-x)) ∧ Grew w w' := by
  have R := fun W => right_any x y W
  rw [h] at R
  rw [ok2_iff] at h
  have Nn := fun W => number_any x y W
  have A3 := and_three n
  rw [hk] at A3
  obtain ⟨r0, i0, m0, f0, g0⟩ := turn_names (FI_nearest x (by omega)) (FI_nearest y (by omega)) (by omega) (by omega) (by omega) (by omega)
  obtain ⟨r1, i1, m1, f1, g1⟩ := turn_names f0 g0 (by omega) (by omega) (by omega) (by omega)
  obtain ⟨r2, i2, m2, f2, g2⟩ := turn_names f1 g1 (by omega) (by omega) (by omega) (by omega)
  have h0 := fun t w => run_complex_mul (P := Tryd.prog) w t _ _ _ _ r0 i0 m0
  have h1 := fun t w => run_complex_mul (P := Tryd.prog) w t _ _ _ _ r1 i1 m1
  have h2 := fun t w => run_complex_mul (P := Tryd.prog) w t _ _ _ _ r2 i2 m2
  have P := fun W => point_any (r2) (i2) (-(-y)) (-x) W f2 g2 (by omega) (by omega)
  generalize floatOfInt .f64 x = a at *
  generalize floatOfInt .f64 y = b at *
  generalize hX : (-(-y) : Int) = X at *
  generalize hY : (-x : Int) = Y at *
  clear h hk m0 f0 g0 m1 f1 g1 m2 f2 g2 hX hY
  go_enter Tryd.func21, Tryd.ntmps21
  go_wp2_with (first
    | (go_at_call 17; refine (R _).mono ?_; rintro e w' ⟨rfl, os, n, rfl⟩)
    | (go_at_call 34; refine (Nn _).mono ?_; rintro e w' ⟨rfl, os2, n2, rfl⟩))
  refine wp_loop_rounds 4 ?_
  rw [rounds_succ]
  go_wp2_with fail
  rw [rounds_succ]
  go_wp2_with fail
  rw [rounds_succ]
  go_wp2_with fail
  rw [rounds_succ]
  go_wp2_with (go_at_call 35; refine (P _).mono ?_; rintro e w' ⟨rfl, os3, n3, rfl⟩)
  refine bodyPost_ret_by (v := pv X Y) ?_ rfl ⟨rfl, ?_⟩
  · simp [results, Tryd.results21, go_sem]
  · repeat (first | exact Grew.refl _ | apply Grew.drew | apply Grew.drewN | apply Grew.alloc | apply Grew.more)

/-- A point, turned n times. -/
def turnX (x y n : Int) : Int := if n % 4 = 0 then x else if n % 4 = 1 then -y else if n % 4 = 2 then -x else y
def turnY (x y n : Int) : Int := if n % 4 = 0 then y else if n % 4 = 1 then x else if n % 4 = 2 then -y else -x
theorem turn_good (x y n : Int) (w : World) (h : ok2 x y = true) : Calls Tryd.prog 21 #[pv x y, .int .i64 n] w fun e w' => e = .returned (pv (turnX x y n) (turnY x y n)) ∧ Grew w w' := by
  have hc : n % 4 = 0 ∨ n % 4 = 1 ∨ n % 4 = 2 ∨ n % 4 = 3 := by omega
  rcases hc with hk | hk | hk | hk
  · simpa [turnX, turnY, hk] using turn_good0 x y n w h hk
  · simpa [turnX, turnY, hk] using turn_good1 x y n w h hk
  · simpa [turnX, turnY, hk] using turn_good2 x y n w h hk
  · simpa [turnX, turnY, hk] using turn_good3 x y n w h hk
end Go.Proofs.YtibbenhplmmmiaaDoor
