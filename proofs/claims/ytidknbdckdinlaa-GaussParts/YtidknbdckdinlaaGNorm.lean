/-
  Contracts of package gauss: Norm, Conj, Turn: for every point.
-/
import Derived.Test.YtidknbdckdinlaaGArith
namespace Go.Proofs.Ytidknbdckdinlaa
open Go.RowKit
attribute [local go_sem] cell?_more frozen?_more setCell_more more_lt more_more more_drew more_drewN setCell_drewN alloc_drewN
attribute [local go_sem high] cellMA frozenMA setMA cellMAM frozenMAM setMAM cellMAA frozenMAA setMAA cellMAAM frozenMAAM setMAAM cellMAMA frozenMAMA setMAMA cellMAMAM frozenMAMAM setMAMAM cellMAMAMA frozenMAMAMA setMAMAMA cellMAMAMAM frozenMAMAMAM setMAMAMAM

def nrm (x y : Int) : Int := if ok2 x y then x * x + y * y else 0

theorem norm_any (x y : Int) (w : World) : Calls Try.prog 26 #[pv x y] w fun e w' => e = .returned (.int .i64 (nrm x y)) ∧ Grew w w' := by
  have R := fun W => right_any x y W
  by_cases h : ok2 x y = true
  · rw [h] at R
    have e1 : nrm x y = x * x + y * y := by simp [nrm, h]
    rw [e1]
    rw [ok2_iff] at h
    have N := fun W => number_any x y W
    obtain ⟨r, fr, S⟩ := square_names (FI_nearest x (by omega)) (FI_nearest y (by omega)) (by omega) (by omega) (by omega) (by omega)
    have m1 := mul_bd (A := 1048576) (B := 1048576) (by decide) h.1 h.2.1 h.1 h.2.1
    have m2 := mul_bd (A := 1048576) (B := 1048576) (by decide) h.2.2.1 h.2.2.2 h.2.2.1 h.2.2.2
    have c1 : ∀ w, (convert 61 3 (.float .f64 r)).run Try.prog w = .ok (.int .i64 (x * x + y * y)) w := fun w => run_convert_float_int w _ _ .f64 .i64 r _ (by rw [Try.underlying61]; rfl) Try.underlying3 (fr.toInt (by omega))
    generalize x * x + y * y = nn at *
    generalize floatOfInt .f64 x = a at *
    generalize floatOfInt .f64 y = b at *
    clear fr m1 m2 h e1
    go_enter Try.func26, Try.ntmps26
    go_wp2_with (first
      | (go_at_call 15; refine (R _).mono ?_; rintro e w' ⟨rfl, os, n, rfl⟩)
      | (go_at_call 31; refine (N _).mono ?_; rintro e w' ⟨rfl, os2, n2, rfl⟩)
      | (go_at_call 39; refine (S _).mono ?_; rintro e w' ⟨rfl, os3, n3, rfl⟩))
    all_goals go_ret
    all_goals exact ⟨rfl, by repeat (first | exact Grew.refl _ | apply Grew.drew | apply Grew.drewN | apply Grew.alloc | apply Grew.more)⟩
  · have h' : ok2 x y = false := by simpa using h
    have e1 : nrm x y = 0 := by simp [nrm, h']
    rw [e1]
    rw [h'] at R
    clear h h' e1
    go_enter Try.func26, Try.ntmps26
    go_wp2_with (go_at_call 15; refine (R _).mono ?_; rintro e w' ⟨rfl, os, n, rfl⟩)
    all_goals go_ret
    all_goals exact ⟨rfl, by repeat (first | exact Grew.refl _ | apply Grew.drew | apply Grew.drewN | apply Grew.alloc | apply Grew.more)⟩

theorem conj_good (x y : Int) (w : World) (h : ok2 x y = true) : Calls Try.prog 24 #[pv x y] w fun e w' => e = .returned (pv x (-y)) ∧ Grew w w' := by
  have R := fun W => right_any x y W
  rw [h] at R
  rw [ok2_iff] at h
  have N := fun W => number_any x y W
  have M := fun W => mirrored_any (floatOfInt .f64 x) (floatOfInt .f64 y) W
  have P := fun W => point_any (floatOfInt .f64 x) (Op.negFloat .f64 (floatOfInt .f64 y)) x (-y) W (FI_nearest x (by omega)) (FI_nearest y (by omega)).neg (by omega) (by omega)
  generalize Op.negFloat .f64 (floatOfInt .f64 y) = c at *
  generalize floatOfInt .f64 x = a at *
  generalize floatOfInt .f64 y = b at *
  generalize -y = z at *
  clear h
  go_enter Try.func24, Try.ntmps24
  go_wp2_with (first
    | (go_at_call 15; refine (R _).mono ?_; rintro e w' ⟨rfl, os, n, rfl⟩)
    | (go_at_call 31; refine (N _).mono ?_; rintro e w' ⟨rfl, os2, n2, rfl⟩)
    | (go_at_call 38; refine (M _).mono ?_; rintro e w' ⟨rfl, os3, n3, rfl⟩)
    | (go_at_call 35; refine (P _).mono ?_; rintro e w' ⟨rfl, os4, n4, rfl⟩))
  refine bodyPost_ret_by (v := pv x z) ?_ rfl ⟨rfl, ?_⟩
  · simp [results, Try.results24, go_sem]
  · repeat (first | exact Grew.refl _ | apply Grew.drew | apply Grew.drewN | apply Grew.alloc | apply Grew.more)

theorem conj_bad (x y : Int) (w : World) (h : ok2 x y = false) : Calls Try.prog 24 #[pv x y] w fun e w' => e = .returned (pv 0 0) ∧ Grew w w' := by
  have R := fun W => right_any x y W
  rw [h] at R
  clear h
  go_enter Try.func24, Try.ntmps24
  go_wp2_with (go_at_call 15; refine (R _).mono ?_; rintro e w' ⟨rfl, os, n, rfl⟩)
  refine bodyPost_ret_by (v := pv 0 0) ?_ rfl ⟨rfl, ?_⟩
  · simp [results, Try.results24, go_sem]
  · repeat (first | exact Grew.refl _ | apply Grew.drew | apply Grew.drewN | apply Grew.alloc | apply Grew.more)

/-- Times i. -/
theorem FI_zero : FI 0 0 := ⟨by decide, false, 0, -1074, by decide, by unfold worth; exact Rat.zero_mul _⟩
theorem FI_one : FI 4607182418800017408 1 := by
  have h : floatOfInt .f64 1 = 4607182418800017408 := by decide +kernel
  rw [← h]; exact FI_nearest 1 (by decide)
theorem turn_names {a b : Nat} {x y : Int} (ha : FI a x) (hb : FI b y) (x1 : -2097152 ≤ x) (x2 : x ≤ 2097152) (y1 : -2097152 ≤ y) (y2 : y ≤ 2097152) :
    ∃ re im, cMulBits a b 0 4607182418800017408 = some (re, im) ∧ FI re (-y) ∧ FI im x := by
  obtain ⟨re, im, h1, h2, h3⟩ := cmul_names 2097152 1 (by decide) (by decide) ha hb FI_zero FI_one x1 x2 y1 y2 (by decide) (by decide) (by decide) (by decide)
  refine ⟨re, im, h1, ?_, ?_⟩
  · have : -y = x * 0 - y * 1 := by omega
    rw [this]; exact h2
  · have : x = x * 1 + y * 0 := by omega
    rw [this]; exact h3

end Go.Proofs.Ytidknbdckdinlaa
