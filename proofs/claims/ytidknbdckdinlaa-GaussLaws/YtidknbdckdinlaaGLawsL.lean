/-
  GaussLaws holds: products can be turned round, their norm is the product of the norms; a point is the quotient times the divisor, and the rest, whose norm is at most half of the divisor's: for every two points. Condition: none.
-/
import Derived.Test.YtidknbdckdinlaaGLaws
import Derived.Test.YtidknbdckdinlaaGKnows
import Derived.Test.YtidknbdckdinlaaGDiv2
import Derived.Test.YtidknbdckdinlaaGFrm
namespace Go.Proofs.Ytidknbdckdinlaa
open Go.ChangeShapes Go.WideShapes Go.ChangeAt Go.WideMaps Go.WideElems Go.RowKit

theorem wrap_mid (n : Int) (h : -9223372036854775808 ≤ n ∧ n ≤ 9223372036854775807) : IntKind.i64.wrap n = n := by rw [IntKind.wrap_i64]; omega

/-- The numbers of a quotient and its rest stay small. -/
theorem quo_nums (x y u v : Int) (hx : -1048576 ≤ x ∧ x ≤ 1048576) (hy : -1048576 ≤ y ∧ y ≤ 1048576) (hu : -1048576 ≤ u ∧ u ≤ 1048576) (hv : -1048576 ≤ v ∧ v ≤ 1048576) (hn : 0 < u * u + v * v) :
    ∃ A1 A2 A3 B1 B2 B3 n2 : Int, IntKind.i64.wrap (u * qX x y u v) = A1 ∧ IntKind.i64.wrap (v * qY x y u v) = A2 ∧ IntKind.i64.wrap (A1 - A2) = A3 ∧ IntKind.i64.wrap (A3 + rX x y u v) = x ∧
      IntKind.i64.wrap (u * qY x y u v) = B1 ∧ IntKind.i64.wrap (v * qX x y u v) = B2 ∧ IntKind.i64.wrap (B1 + B2) = B3 ∧ IntKind.i64.wrap (B3 + rY x y u v) = y ∧
      IntKind.i64.wrap (2 * nrm (rX x y u v) (rY x y u v)) = n2 ∧ n2 ≤ nrm u v := by
  have hq := quo_ok x y u v hx hy hn
  have hr := rest_ok x y u v hu hv hn
  have hh := rest_half x y u v hn
  have m1 := mul_bd (A := 1048576) (B := 1048576) (by decide) hu.1 hu.2 hq.1.1 hq.1.2
  have m2 := mul_bd (A := 1048576) (B := 1048576) (by decide) hv.1 hv.2 hq.2.1 hq.2.2
  have m3 := mul_bd (A := 1048576) (B := 1048576) (by decide) hu.1 hu.2 hq.2.1 hq.2.2
  have m4 := mul_bd (A := 1048576) (B := 1048576) (by decide) hv.1 hv.2 hq.1.1 hq.1.2
  have m5 := mul_bd (A := 1048576) (B := 1048576) (by decide) hu.1 hu.2 hu.1 hu.2
  have m6 := mul_bd (A := 1048576) (B := 1048576) (by decide) hv.1 hv.2 hv.1 hv.2
  have s1 := sq_nn (rX x y u v)
  have s2 := sq_nn (rY x y u v)
  have d1 : rX x y u v = x - (u * qX x y u v - v * qY x y u v) := rfl
  have d2 : rY x y u v = y - (u * qY x y u v + v * qX x y u v) := rfl
  have k1 : nrm (rX x y u v) (rY x y u v) = rX x y u v * rX x y u v + rY x y u v * rY x y u v := by
    have : ok2 (rX x y u v) (rY x y u v) = true := (ok2_iff _ _).2 ⟨hr.1.1, hr.1.2, hr.2.1, hr.2.2⟩
    simp [nrm, this]
  have k2 : nrm u v = u * u + v * v := by
    have : ok2 u v = true := (ok2_iff _ _).2 ⟨hu.1, hu.2, hv.1, hv.2⟩
    simp [nrm, this]
  rw [k1, k2]
  generalize u * qX x y u v = a at *
  generalize v * qY x y u v = b at *
  generalize u * qY x y u v = c at *
  generalize v * qX x y u v = d at *
  generalize rX x y u v = r1 at *
  generalize rY x y u v = r2 at *
  generalize r1 * r1 = p1 at *
  generalize r2 * r2 = p2 at *
  generalize u * u = p3 at *
  generalize v * v = p4 at *
  clear hq hr k1 k2 hn
  have e1 : a - b + r1 = x := by omega
  have e2 : c + d + r2 = y := by omega
  exact ⟨a, b, a - b, c, d, c + d, 2 * (p1 + p2), wrap_mid _ (by omega), wrap_mid _ (by omega), wrap_mid _ (by omega), (wrap_mid _ (by omega)).trans e1, wrap_mid _ (by omega), wrap_mid _ (by omega), wrap_mid _ (by omega), (wrap_mid _ (by omega)).trans e2, wrap_mid _ (by omega), hh⟩

/-- The norm of a product. -/
theorem norm_mul (x y u v : Int) (h1 : ok2 x y = true) (h2 : ok2 u v = true) (h : tE (x * u - y * v) (x * v + y * u) = 0) :
    IntKind.i64.wrap (nrm x y * nrm u v) = nrm (tX (x * u - y * v) (x * v + y * u)) (tY (x * u - y * v) (x * v + y * u)) := by
  have hr : ok2 (x * u - y * v) (x * v + y * u) = true := by
    unfold tE at h
    by_cases hr : ok2 (x * u - y * v) (x * v + y * u) = true
    · exact hr
    · rw [if_neg hr] at h; exact absurd h (by decide)
  have e1 : tX (x * u - y * v) (x * v + y * u) = x * u - y * v := by simp [tX, hr]
  have e2 : tY (x * u - y * v) (x * v + y * u) = x * v + y * u := by simp [tY, hr]
  rw [e1, e2]
  have k1 : nrm x y = x * x + y * y := by simp [nrm, h1]
  have k2 : nrm u v = u * u + v * v := by simp [nrm, h2]
  have k3 : nrm (x * u - y * v) (x * v + y * u) = (x * u - y * v) * (x * u - y * v) + (x * v + y * u) * (x * v + y * u) := by simp [nrm, hr]
  rw [k1, k2, k3]
  have id : (x * x + y * y) * (u * u + v * v) = (x * u - y * v) * (x * u - y * v) + (x * v + y * u) * (x * v + y * u) := by grind
  rw [id]
  rw [ok2_iff] at hr
  have m1 := mul_bd (A := 1048576) (B := 1048576) (by decide) hr.1 hr.2.1 hr.1 hr.2.1
  have m2 := mul_bd (A := 1048576) (B := 1048576) (by decide) hr.2.2.1 hr.2.2.2 hr.2.2.1 hr.2.2.2
  clear id k1 k2 k3 e1 e2 h h1 h2
  exact wrap_mid _ (by omega)

theorem laws_walk (x y u v : Int) (w : World) : Calls Try.prog 5 #[pv x y, pv u v] w fun e w' => e = .returned (.bool true) ∧ Grew w w' := by
  cases h : ok2 x y && ok2 u v
  · have h' : (ok2 u v && ok2 x y) = false := by rw [Bool.and_comm]; exact h
    exact laws_core x y u v 0 0 1 0 0 0 0 1 _ _ _ _ w (fun W _ => own_any x y W) (fun W _ => own_any u v W) (fun W _ => knows_any W) (fun n W => num_any n W)
      (fun W _ => mul_bad x y u v W h) (fun W _ => mul_bad u v x y W h') (fun W _ => div_bad x y u v W h) (fun W _ => norm_any 0 0 W) (fun W _ => norm_any x y W) (fun W _ => norm_any u v W) (fun W _ => norm_any 0 0 W)
      (fun h => absurd h (by decide)) (fun h => absurd h (by decide)) (fun h => absurd h (by decide))
  · obtain ⟨h1, h2⟩ := Bool.and_eq_true_iff.1 h
    have M2 := fun W => mul_good u v x y W h2 h1
    rw [show u * x - v * y = x * u - y * v by grind, show u * y + v * x = x * v + y * u by grind] at M2
    by_cases hz : u = 0 ∧ v = 0
    · obtain ⟨rfl, rfl⟩ := hz
      exact laws_core x y 0 0 _ _ _ 0 0 0 0 33 _ _ _ _ w (fun W _ => own_any x y W) (fun W _ => own_any 0 0 W) (fun W _ => knows_any W) (fun n W => num_any n W)
        (fun W _ => mul_good x y 0 0 W h1 h2) (fun W _ => M2 W) (fun W _ => div_zero x y W h1) (fun W _ => norm_any _ _ W) (fun W _ => norm_any x y W) (fun W _ => norm_any 0 0 W) (fun W _ => norm_any 0 0 W)
        (fun h => norm_mul x y 0 0 h1 h2 h) (fun h => absurd h (by decide)) (fun _ => rfl)
    · have hn := norm_pos hz
      have b1 := (ok2_iff x y).1 h1
      have b2 := (ok2_iff u v).1 h2
      exact laws_core x y u v _ _ _ _ _ _ _ 0 _ _ _ _ w (fun W _ => own_any x y W) (fun W _ => own_any u v W) (fun W _ => knows_any W) (fun n W => num_any n W)
        (fun W _ => mul_good x y u v W h1 h2) (fun W _ => M2 W) (fun W _ => div_good x y u v W h1 h2 hn) (fun W _ => norm_any _ _ W) (fun W _ => norm_any x y W) (fun W _ => norm_any u v W) (fun W _ => norm_any _ _ W)
        (fun h => norm_mul x y u v h1 h2 h) (fun _ => quo_nums x y u v ⟨b1.1, b1.2.1⟩ ⟨b1.2.2.1, b1.2.2.2⟩ ⟨b2.1, b2.2.1⟩ ⟨b2.2.2.1, b2.2.2.2⟩ hn) (fun h => absurd h (by decide))

set_option maxRecDepth 100000 in
theorem laws_lifted (os : Os) (started : os.Started) (H : Type) (enc : TypeId × Value → H) :
    ReturnsInHanded {} Try.checked os 5 .any (Rows.gaussLawsSpec.pre6 enc Try.prog Try.f5 Rows.gaussLawsRow.domain false) (Rows.gaussLawsSpec.post enc Try.prog Try.f5 false true false false) := by
  refine returnsInHanded_of_change (C := Try.checked) own started (by kernel_rfl) Try.func5
    (ChangeSpec.witness6 (enc := enc) (C := Try.checked) false ⟨#[], #[.agg #[.int .i64 0, .int .i64 0], .agg #[.int .i64 0, .int .i64 0]], []⟩ 8 (by kernel_rfl) (by kernel_rfl) (by kernel_rfl) (by kernel_rfl)) ?_
  intro W base args ds gs before hval0 hW _ _
  have hval : ∀ (j : Nat) t v, Try.f5.params[j]? = some t → args[j]? = some v → Value.okWide Try.prog W .any base t v := hval0
  have hW' := hW
  obtain ⟨p, q, hA0, hV, rfl, hfz, hnd⟩ := hW
  have hA : DataW.TrodAll enc Try.prog W 0 (fun _ => true) true Try.f5.params.toList args.toList ds p := hA0
  rw [Try.params5] at hA hval
  obtain ⟨v0, v1, d0, d1, p0, p1, rfl, rfl, rfl, h0, h1⟩ := trodAll_two hA
  obtain ⟨rfl, rfl⟩ := trodVars_none hV
  obtain ⟨a0, b0, rfl, w0, x0⟩ := open_pt (hval 0 23 v0 rfl rfl) h0
  have k0 := h0
  have lt0 : ∀ x ∈ p0, x.block < W.heap.size := by obtain ⟨m, hm⟩ := k0; exact DataW.trod_lt m _ _ _ hm
  obtain ⟨a1, b1, rfl, w1, x1⟩ := open_pt (hval 1 23 v1 rfl rfl) h1
  have k1 := h1
  have lt1 : ∀ x ∈ p1, x.block < W.heap.size := by obtain ⟨m, hm⟩ := k1; exact DataW.trod_lt m _ _ _ hm
  clear hA0 hval0
  refine (laws_walk a0 b0 a1 b1 W).mono fun e W' ⟨he, hg⟩ => ?_
  subst he
  exact ⟨_, rfl, _, _, _, [], _, [], hW', trodAll_mk1 (shut_bool Try.underlying4 _), trodAll_mk2 (Below.trod laidOut (by kernel_rfl) (of_decide_eq_true (by kernel_rfl)) k0 hg.below lt0) (Below.trod laidOut (by kernel_rfl) (of_decide_eq_true (by kernel_rfl)) k1 hg.below lt1), rfl, hg.below.frame _, fun h => by cases h⟩

theorem gaussLaws_holds : Rows.GaussLawsSaid :=
  OpenClaim.holds_of_wide 5 Try.f5 rfl rfl rfl rfl rfl rfl rfl ⟨rfl, rfl, rfl, rfl, rfl⟩ rfl rfl rfl rfl rfl (by kernel_rfl) Try.func5 (by kernel_rfl)
    (of_decide_eq_true (by kernel_rfl)) (by unfold Func.isWrapper; first | (rw [if_pos (by decide +kernel)]; kernel_rfl) | (rw [if_neg (by decide +kernel)]; exact ⟨rfl, rfl⟩))
    (fun os started H enc _ => laws_lifted os started H enc)
#print axioms gaussLaws_holds
end Go.Proofs.Ytidknbdckdinlaa
