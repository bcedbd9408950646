/-
  Contracts of package gauss: Norm, Conj, Turn: for every point.
  The quotient of two points and the rest: contracts of math.Floor, nearest, parted and Div of package gauss: for every two points.
-/
import Derived.Test.YtnpdecbgakgbgaaGreatDoorMyQJump
import Derived.Test.YtnpdecbgakgbgaaGreatDoorMpHPlain
import Derived.Laws.Externs
namespace Go.Proofs.YtnpdecbgakgbgaaGreatDoor.Ga
open Go.RowKit
attribute [local go_sem] cell?_more frozen?_more setCell_more more_lt more_more more_drew more_drewN setCell_drewN alloc_drewN
attribute [local go_sem high] cellMA frozenMA setMA cellMAM frozenMAM setMAM cellMAA frozenMAA setMAA cellMAAM frozenMAAM setMAAM cellMAMA frozenMAMA setMAMA cellMAMAM frozenMAMAM setMAMAM cellMAMAMA frozenMAMAMA setMAMAMA cellMAMAMAM frozenMAMAMAM setMAMAMAM

def nrm (x y : Int) : Int := if ok2 x y then x * x + y * y else 0

theorem norm_any (x y : Int) (w : World) : Calls Tryz.prog 133 #[pv x y] w fun e w' => e = .returned (.int .i64 (nrm x y)) ∧ Grew w w' := by
  have R := fun W => right_any x y W
  by_cases h : ok2 x y = true
  · rw [h] at R
    have e1 : nrm x y = x * x + y * y := by simp [nrm, h]
    rw [e1]
    rw [ok2_iff] at h
    have N := fun W => number_any x y W
    obtain ⟨r, fr, S⟩ := square_names (FI_nearest x (by omega)) (FI_nearest y (by omega)) (by omega) (by omega) (by omega) (by omega)
    have m1 := mul_bd (A := 1048576) (B := 1048576) (by decide) h.1 h.2.1 h.1 h.2.1
    have m2 := mul_bd (A := 1048576) (B := 1048576) (by decide) h.2.2.1 h.2.2.2 h.2.2.1 h.2.2.2
    have c1 : ∀ w, (convert 201 3 (.float .f64 r)).run Tryz.prog w = .ok (.int .i64 (x * x + y * y)) w := fun w => run_convert_float_int w _ _ .f64 .i64 r _ (by rw [Tryz.underlying201]; rfl) Tryz.underlying3 (fr.toInt (by omega))
    generalize x * x + y * y = nn at *
    generalize floatOfInt .f64 x = a at *
    generalize floatOfInt .f64 y = b at *
    clear fr m1 m2 h e1
    go_enter Tryz.func133, Tryz.ntmps133
    go_wp2_with (first
      | (go_at_call 158; refine (R _).mono ?_; rintro e w' ⟨rfl, os, n, rfl⟩)
      | (go_at_call 159; refine (N _).mono ?_; rintro e w' ⟨rfl, os2, n2, rfl⟩)
      | (go_at_call 189; refine (S _).mono ?_; rintro e w' ⟨rfl, os3, n3, rfl⟩))
    all_goals go_ret
    all_goals exact ⟨rfl, by repeat (first | exact Grew.refl _ | apply Grew.drew | apply Grew.drewN | apply Grew.alloc | apply Grew.more)⟩
  · have h' : ok2 x y = false := by simpa using h
    have e1 : nrm x y = 0 := by simp [nrm, h']
    rw [e1]
    rw [h'] at R
    clear h h' e1
    go_enter Tryz.func133, Tryz.ntmps133
    go_wp2_with (go_at_call 158; refine (R _).mono ?_; rintro e w' ⟨rfl, os, n, rfl⟩)
    all_goals go_ret
    all_goals exact ⟨rfl, by repeat (first | exact Grew.refl _ | apply Grew.drew | apply Grew.drewN | apply Grew.alloc | apply Grew.more)⟩

/-- Times i. -/
theorem FI_zero : FI 0 0 := ⟨by decide, false, 0, -1074, by decide, by unfold worth; exact Rat.zero_mul _⟩
theorem FI_one : FI 4607182418800017408 1 := by
  have h : floatOfInt .f64 1 = 4607182418800017408 := by decide +kernel
  rw [← h]; exact FI_nearest 1 (by decide)
theorem turn_names {a b : Nat} {x y : Int} (ha : FI a x) (hb : FI b y) (x1 : -2097152 ≤ x) (x2 : x ≤ 2097152) (y1 : -2097152 ≤ y) (y2 : y ≤ 2097152) :
    ∃ re im, cMulBits a b 0 4607182418800017408 = some (re, im) ∧ FI re (-y) ∧ FI im x := by
  obtain ⟨re, im, h1, h2, h3⟩ := cmul_names 2097152 1 (by decide) (by decide) ha hb FI_zero FI_one x1 x2 y1 y2 (by decide) (by decide) (by decide) (by decide)
  refine ⟨re, im, h1, ?_, ?_⟩
  · have : -y = x * 0 - y * 1 := by omega
    rw [this]; exact h2
  · have : x = x * 1 + y * 0 := by omega
    rw [this]; exact h3

end Go.Proofs.YtnpdecbgakgbgaaGreatDoor.Ga

namespace Go.Proofs.YtnpdecbgakgbgaaGreatDoor.Ga
open Go.RowKit
attribute [local go_sem] cell?_more frozen?_more setCell_more more_lt more_more more_drew more_drewN setCell_drewN alloc_drewN
attribute [local go_sem high] cellMA frozenMA setMA cellMAM frozenMAM setMAM cellMAA frozenMAA setMAA cellMAAM frozenMAAM setMAAM cellMAMA frozenMAMA setMAMA cellMAMAM frozenMAMAM setMAMAM cellMAMAMA frozenMAMAMA setMAMAMA cellMAMAMAM frozenMAMAMAM setMAMAMAM

theorem FI_two : FI 4611686018427387904 2 := by
  have h : floatOfInt .f64 2 = 4611686018427387904 := by decide +kernel
  rw [← h]; exact FI_nearest 2 (by decide)

theorem floor_num (r : Nat) (s : Bool) (m : Nat) (i : Int) (h : FloatKind.f64.decode r = .number s m i) :
    Extern.MathFloor.toIntegral "math.archFloor" .down #[.float .f64 r] = pure (.float .f64 (FloatKind.f64.encode ((FloatKind.f64.decode r).integral .down))) := by
  delta Extern.MathFloor.toIntegral
  conv => lhs; whnf
  generalize FloatKind.f64.decode r = d at *
  subst h
  rfl

theorem arch_floor (r : Nat) (s : Bool) (m : Nat) (i : Int) (h : Ieee.double.read r = .number s m i) (w : World) :
    (callFunc 244 #[.float .f64 r]).run Tryz.prog w = .ok (.value (.float .f64 (Ieee.double.write ((Ieee.double.read r).integral .down)))) w := by
  rw [run_callFunc_extern Tryz.func244 (by kernel_rfl) (by kernel_rfl) (by kernel_rfl) (e := Extern.MathFloor.toIntegral "math.archFloor" .down) (by kernel_rfl)]
  rw [floor_num r s m i h]
  rfl

theorem floor_any (r : Nat) (s : Bool) (m : Nat) (i : Int) (h : Ieee.double.read r = .number s m i) (w : World) :
    Calls Tryz.prog 229 #[.float .f64 r] w fun e w' => e = .returned (.float .f64 (Ieee.double.write ((Ieee.double.read r).integral .down))) ∧ Grew w w' := by
  have F := fun w => arch_floor r s m i h w
  clear h
  generalize Ieee.double.write ((Ieee.double.read r).integral .down) = q at *
  go_enter Tryz.func229, Tryz.ntmps229
  go_wp2
  all_goals go_ret
  all_goals exact ⟨rfl, by repeat (first | exact Grew.refl _ | apply Grew.drew | apply Grew.drewN | apply Grew.alloc | apply Grew.more)⟩

/-- The nearest whole number as a float. -/
theorem nearest_names {a b : Nat} {o u : Int} (ha : FI a o) (hb : FI b u) (hu : 0 < u) (hu2 : u < 281474976710656) (ho : -281474976710656 < o ∧ o < 281474976710656) :
    ∃ q, FI q (nst o u) ∧ ∀ w, Calls Tryz.prog 214 #[.float .f64 a, .float .f64 b] w fun e w' => e = .returned (.float .f64 q) ∧ Grew w w' := by
  obtain ⟨r1, e1, f1⟩ := FI_two.mul ha (by omega)
  obtain ⟨r2, e2, f2⟩ := f1.add hb (by omega)
  obtain ⟨r3, e3, f3⟩ := FI_two.mul hb (by omega)
  obtain ⟨r4, e4, f4, s, m, i, hr⟩ := f2.part f3 (by omega) (by omega) (by omega)
  refine ⟨_, f4, fun w => ?_⟩
  have F := fun W => floor_any r4 s m i hr W
  have h1 : ∀ t w, (binOp .mul t (.float .f64 4611686018427387904) (.float .f64 a)).run Tryz.prog w = .ok (.float .f64 r1) w := fun t w => run_float_arith w .mul t .f64 _ _ _ e1
  have h2 : ∀ t w, (binOp .add t (.float .f64 r1) (.float .f64 b)).run Tryz.prog w = .ok (.float .f64 r2) w := fun t w => run_float_arith w .add t .f64 _ _ _ e2
  have h3 : ∀ t w, (binOp .mul t (.float .f64 4611686018427387904) (.float .f64 b)).run Tryz.prog w = .ok (.float .f64 r3) w := fun t w => run_float_arith w .mul t .f64 _ _ _ e3
  have h4 : ∀ t w, (binOp .quo t (.float .f64 r2) (.float .f64 r3)).run Tryz.prog w = .ok (.float .f64 r4) w := fun t w => run_float_arith w .quo t .f64 _ _ _ e4
  generalize Ieee.double.write ((Ieee.double.read r4).integral .down) = q at *
  clear ha hb hu hu2 ho e1 e2 e3 e4 f1 f2 f3 f4 hr
  go_enter Tryz.func214, Tryz.ntmps214
  go_wp2_with (go_at_call 229; refine (F _).mono ?_; rintro e w' ⟨rfl, os, n, rfl⟩)
  all_goals go_ret
  all_goals exact ⟨rfl, by repeat (first | exact Grew.refl _ | apply Grew.drew | apply Grew.drewN | apply Grew.alloc | apply Grew.more)⟩

/-- The quotient of two complex numbers whose parts are whole, and the rest. -/
theorem parted_names {a b c d : Nat} {x y u v : Int} (ha : FI a x) (hb : FI b y) (hc : FI c u) (hd : FI d v) (hx : -1048576 ≤ x ∧ x ≤ 1048576) (hy : -1048576 ≤ y ∧ y ≤ 1048576)
    (hu : -1048576 ≤ u ∧ u ≤ 1048576) (hv : -1048576 ≤ v ∧ v ≤ 1048576) (hn : 0 < u * u + v * v) :
    ∃ qa qb ra rb, FI qa (qX x y u v) ∧ FI qb (qY x y u v) ∧ FI ra (rX x y u v) ∧ FI rb (rY x y u v) ∧
      ∀ w, Calls Tryz.prog 173 #[cv a b, cv c d] w fun e w' => e = .returned (.tuple #[cv qa qb, cv ra rb]) ∧ Grew w w' := by
  obtain ⟨o1, o2, em, f1, f2⟩ := cmul_names 1048576 1048576 (by decide) (by decide) ha hb hc hd.neg hx.1 hx.2 hy.1 hy.2 hu.1 hu.2 (by omega) (by omega)
  have g1 : x * u - y * -v = x * u + y * v := by rw [Int.mul_neg]; omega
  have g2 : x * -v + y * u = y * u - x * v := by rw [Int.mul_neg]; omega
  rw [g1] at f1
  rw [g2] at f2
  obtain ⟨nn, fn, Sq⟩ := square_names hc hd (by omega) (by omega) (by omega) (by omega)
  have mu := mul_bd (A := 1048576) (B := 1048576) (by decide) hu.1 hu.2 hu.1 hu.2
  have mv := mul_bd (A := 1048576) (B := 1048576) (by decide) hv.1 hv.2 hv.1 hv.2
  have m1 := mul_bd (A := 1048576) (B := 1048576) (by decide) hx.1 hx.2 hu.1 hu.2
  have m2 := mul_bd (A := 1048576) (B := 1048576) (by decide) hy.1 hy.2 hv.1 hv.2
  have m3 := mul_bd (A := 1048576) (B := 1048576) (by decide) hy.1 hy.2 hu.1 hu.2
  have m4 := mul_bd (A := 1048576) (B := 1048576) (by decide) hx.1 hx.2 hv.1 hv.2
  obtain ⟨qa, k1, N1⟩ := nearest_names f1 fn hn (by omega) (by omega)
  obtain ⟨qb, k2, N2⟩ := nearest_names f2 fn hn (by omega) (by omega)
  have k1' : FI qa (qX x y u v) := k1
  have k2' : FI qb (qY x y u v) := k2
  have hq := quo_ok x y u v hx hy hn
  obtain ⟨p1, p2, ep, l1, l2⟩ := cmul_names 1048576 1048576 (by decide) (by decide) hc hd k1' k2' hu.1 hu.2 hv.1 hv.2 hq.1.1 hq.1.2 hq.2.1 hq.2.2
  have hr := rest_ok x y u v hu hv hn
  have hr1 : x - (u * qX x y u v - v * qY x y u v) = rX x y u v := rfl
  have hr2 : y - (u * qY x y u v + v * qX x y u v) = rY x y u v := rfl
  obtain ⟨ra, rb, er, z1, z2⟩ := csub_names ha hb l1 l2 (by rw [hr1]; omega) (by rw [hr2]; omega)
  refine ⟨qa, qb, ra, rb, k1', k2', z1, z2, fun w => ?_⟩
  have M := fun W => mirrored_any c d W
  have h1 := fun t w => run_complex_mul (P := Tryz.prog) w t _ _ _ _ o1 o2 em
  have h2 := fun t w => run_complex_mul (P := Tryz.prog) w t _ _ _ _ p1 p2 ep
  have h3 := fun t w => run_complex_sum (P := Tryz.prog) w .sub (Or.inr rfl) t .f64 _ _ _ _ ra rb er
  generalize Op.negFloat .f64 d = e at *
  clear ha hb hc hd hx hy hu hv hn em f1 f2 g1 g2 fn mu mv m1 m2 m3 m4 k1 k2 k1' k2' hq ep l1 l2 hr hr1 hr2 er z1 z2
  go_enter Tryz.func173, Tryz.ntmps173
  go_wp2_with (first
    | (go_at_call 213; refine (M _).mono ?_; rintro e w' ⟨rfl, os, n, rfl⟩)
    | (go_at_call 189; refine (Sq _).mono ?_; rintro e w' ⟨rfl, os, n, rfl⟩)
    | (go_at_call_of 214 (Value.float FloatKind.f64 o1); refine (N1 _).mono ?_; rintro e w' ⟨rfl, os, n, rfl⟩)
    | (go_at_call_of 214 (Value.float FloatKind.f64 o2); refine (N2 _).mono ?_; rintro e w' ⟨rfl, os, n, rfl⟩))
  refine bodyPost_ret_by (v := .tuple #[cv qa qb, cv ra rb]) ?_ rfl ⟨rfl, ?_⟩
  · simp [results, Tryz.results173, go_sem]
  · repeat (first | exact Grew.refl _ | apply Grew.drew | apply Grew.drewN | apply Grew.alloc | apply Grew.more)
end Go.Proofs.YtnpdecbgakgbgaaGreatDoor.Ga
