/-
  GaussParted holds: products of three, and of a sum, are the same, whichever is reckoned first: for every three points. Condition: none.
-/
import Derived.Test.YtidknbdckdinlabGParted
import Derived.Test.YtidknbdckdinlabGKnows
import Derived.Test.YtidknbdckdinlabGFrm
namespace Go.Proofs.Ytidknbdckdinlab
open Go.ChangeShapes Go.WideShapes Go.ChangeAt Go.WideMaps Go.WideElems Go.RowKit

theorem tE_cases (x y : Int) : tE x y = 0 ∨ tE x y = 32 := by unfold tE; split <;> simp
theorem tE_zero {x y : Int} (h : tE x y = 0) : ok2 x y = true ∧ tX x y = x ∧ tY x y = y := by
  unfold tE at h
  by_cases hr : ok2 x y = true
  · exact ⟨hr, by simp [tX, hr], by simp [tY, hr]⟩
  · rw [if_neg hr] at h; exact absurd h (by decide)

/-- What Mul and Add answer: some point and some error; without an error both may be, and so may the answer. -/
theorem mul_some (x y u v : Int) : ∃ a b e : Int, (∀ W, Calls Try.prog 4 #[pv x y, pv u v] W fun z w' => z = .returned (.tuple #[pv a b, .int .i64 e]) ∧ Grew W w') ∧ (e = 0 ∨ e = 1 ∨ e = 32) ∧
    (e = 0 → ok2 x y = true ∧ ok2 u v = true ∧ ok2 a b = true ∧ a = x * u - y * v ∧ b = x * v + y * u) := by
  cases h : ok2 x y && ok2 u v
  · exact ⟨0, 0, 1, fun W => mul_bad x y u v W h, by simp, fun h => absurd h (by decide)⟩
  · obtain ⟨h1, h2⟩ := Bool.and_eq_true_iff.1 h
    refine ⟨_, _, _, fun W => mul_good x y u v W h1 h2, ?_, fun h => ?_⟩
    · rcases tE_cases (x * u - y * v) (x * v + y * u) with h | h <;> simp [h]
    · obtain ⟨k1, k2, k3⟩ := tE_zero h
      rw [k2, k3]
      exact ⟨h1, h2, k1, rfl, rfl⟩
theorem add_some (x y u v : Int) : ∃ a b e : Int, (∀ W, Calls Try.prog 6 #[pv x y, pv u v] W fun z w' => z = .returned (.tuple #[pv a b, .int .i64 e]) ∧ Grew W w') ∧ (e = 0 ∨ e = 1 ∨ e = 32) ∧
    (e = 0 → ok2 x y = true ∧ ok2 u v = true ∧ ok2 a b = true ∧ a = x + u ∧ b = y + v) := by
  cases h : ok2 x y && ok2 u v
  · exact ⟨0, 0, 1, fun W => add_bad x y u v W h, by simp, fun h => absurd h (by decide)⟩
  · obtain ⟨h1, h2⟩ := Bool.and_eq_true_iff.1 h
    refine ⟨_, _, _, fun W => add_good x y u v W h1 h2, ?_, fun h => ?_⟩
    · rcases tE_cases (x + u) (y + v) with h | h <;> simp [h]
    · obtain ⟨k1, k2, k3⟩ := tE_zero h
      rw [k2, k3]
      exact ⟨h1, h2, k1, rfl, rfl⟩

theorem wrap_small (n : Int) (h : 0 ≤ n ∧ n ≤ 200) : IntKind.i64.wrap n = n := by rw [IntKind.wrap_i64]; omega
theorem err_sum {a b c d : Int} (ha : a = 0 ∨ a = 1 ∨ a = 32) (hb : b = 0 ∨ b = 1 ∨ b = 32) (hc : c = 0 ∨ c = 1 ∨ c = 32) (hd : d = 0 ∨ d = 1 ∨ d = 32) :
    (0 ≤ a + b ∧ a + b ≤ 200) ∧ (0 ≤ a + b + c ∧ a + b + c ≤ 200) ∧ (0 ≤ a + b + c + d ∧ a + b + c + d ≤ 200) ∧ (¬ (a = 0 ∧ b = 0 ∧ c = 0 ∧ d = 0) → ¬ a + b + c + d = 0) := by
  rcases ha with rfl | rfl | rfl <;> rcases hb with rfl | rfl | rfl <;> rcases hc with rfl | rfl | rfl <;> rcases hd with rfl | rfl | rfl <;> decide

theorem parted_walk (x y u v r t : Int) (w : World) : Calls Try.prog 3 #[pv x y, pv u v, pv r t] w fun e w' => e = .returned (.bool true) ∧ Grew w w' := by
  obtain ⟨ax, ay, ae, M1, ea, fa⟩ := mul_some x y u v
  obtain ⟨bx, by1, be, M2, eb, fb⟩ := mul_some u v r t
  obtain ⟨cx, cy, ce, M3, ec, fc⟩ := mul_some x y r t
  obtain ⟨sx, sy, se, A4, es, fs⟩ := add_some u v r t
  by_cases h0 : ae = 0 ∧ be = 0 ∧ ce = 0 ∧ se = 0
  · obtain ⟨rfl, rfl, rfl, rfl⟩ := h0
    obtain ⟨h1, h2, ha, ka, ka'⟩ := fa rfl
    obtain ⟨_, h3, hb, kb, kb'⟩ := fb rfl
    obtain ⟨_, _, hc, kc, kc'⟩ := fc rfl
    obtain ⟨_, _, hs, ks, ks'⟩ := fs rfl
    have M5 := fun W => mul_good ax ay r t W ha h3
    have M6 := fun W => mul_good x y bx by1 W h1 hb
    have M7 := fun W => mul_good x y sx sy W h1 hs
    have A8 := fun W => add_good ax ay cx cy W ha hc
    have i1 : x * bx - y * by1 = ax * r - ay * t := by rw [ka, ka', kb, kb']; grind
    have i2 : x * by1 + y * bx = ax * t + ay * r := by rw [ka, ka', kb, kb']; grind
    have i3 : x * sx - y * sy = ax + cx := by rw [ka, kc, ks, ks']; grind
    have i4 : x * sy + y * sx = ay + cy := by rw [ka', kc', ks, ks']; grind
    rw [i1, i2] at M6
    rw [i3, i4] at M7
    exact parted_good x y u v r t ax ay bx by1 cx cy sx sy _ _ _ _ _ _ w (fun W _ => own_any x y W) (fun W _ => own_any u v W) (fun W _ => own_any r t W) (fun W _ => knows_any W) (fun n W => num_any n W)
      (fun W _ => M1 W) (fun W _ => M2 W) (fun W _ => M3 W) (fun W _ => A4 W) (fun W _ => M5 W) (fun W _ => M6 W) (fun W _ => M7 W) (fun W _ => A8 W)
  · obtain ⟨z1, z2, z3, z4⟩ := err_sum ea eb ec es
    exact parted_bad x y u v r t ax ay ae bx by1 be cx cy ce sx sy se (ae + be) (ae + be + ce) (ae + be + ce + se) w (fun W _ => own_any x y W) (fun W _ => own_any u v W) (fun W _ => own_any r t W) (fun W _ => knows_any W) (fun n W => num_any n W)
      (fun W _ => M1 W) (fun W _ => M2 W) (fun W _ => M3 W) (fun W _ => A4 W) (wrap_small _ z1) (wrap_small _ z2) (wrap_small _ z3) (z4 h0)

set_option maxRecDepth 100000 in
theorem parted_lifted (os : Os) (started : os.Started) (H : Type) (enc : TypeId × Value → H) :
    ReturnsInHanded {} Try.checked os 3 .any (Rows.gaussPartedSpec.pre6 enc Try.prog Try.f3 Rows.gaussPartedRow.domain false) (Rows.gaussPartedSpec.post enc Try.prog Try.f3 false true false false) := by
  refine returnsInHanded_of_change (C := Try.checked) own started (by kernel_rfl) Try.func3
    (ChangeSpec.witness6 (enc := enc) (C := Try.checked) false ⟨#[], #[.agg #[.int .i64 0, .int .i64 0], .agg #[.int .i64 0, .int .i64 0], .agg #[.int .i64 0, .int .i64 0]], []⟩ 8 (by kernel_rfl) (by kernel_rfl) (by kernel_rfl) (by kernel_rfl)) ?_
  intro W base args ds gs before hval0 hW _ _
  have hval : ∀ (j : Nat) t v, Try.f3.params[j]? = some t → args[j]? = some v → Value.okWide Try.prog W .any base t v := hval0
  have hW' := hW
  obtain ⟨p, q, hA0, hV, rfl, hfz, hnd⟩ := hW
  have hA : DataW.TrodAll enc Try.prog W 0 (fun _ => true) true Try.f3.params.toList args.toList ds p := hA0
  rw [Try.params3] at hA hval
  obtain ⟨v0, v1, v2, d0, d1, d2, p0, p1, p2, rfl, rfl, rfl, h0, h1, h2⟩ := trodAll_three hA
  obtain ⟨rfl, rfl⟩ := trodVars_none hV
  obtain ⟨a0, b0, rfl, w0, x0⟩ := open_pt (hval 0 23 v0 rfl rfl) h0
  have k0 := h0
  have lt0 : ∀ x ∈ p0, x.block < W.heap.size := by obtain ⟨m, hm⟩ := k0; exact DataW.trod_lt m _ _ _ hm
  obtain ⟨a1, b1, rfl, w1, x1⟩ := open_pt (hval 1 23 v1 rfl rfl) h1
  have k1 := h1
  have lt1 : ∀ x ∈ p1, x.block < W.heap.size := by obtain ⟨m, hm⟩ := k1; exact DataW.trod_lt m _ _ _ hm
  obtain ⟨a2, b2, rfl, w2, x2⟩ := open_pt (hval 2 23 v2 rfl rfl) h2
  have k2 := h2
  have lt2 : ∀ x ∈ p2, x.block < W.heap.size := by obtain ⟨m, hm⟩ := k2; exact DataW.trod_lt m _ _ _ hm
  clear hA0 hval0
  refine (parted_walk a0 b0 a1 b1 a2 b2 W).mono fun e W' ⟨he, hg⟩ => ?_
  subst he
  exact ⟨_, rfl, _, _, _, [], _, [], hW', trodAll_mk1 (shut_bool Try.underlying4 _), trodAll_mk3 (Below.trod laidOut (by kernel_rfl) (of_decide_eq_true (by kernel_rfl)) k0 hg.below lt0) (Below.trod laidOut (by kernel_rfl) (of_decide_eq_true (by kernel_rfl)) k1 hg.below lt1) (Below.trod laidOut (by kernel_rfl) (of_decide_eq_true (by kernel_rfl)) k2 hg.below lt2), rfl, hg.below.frame _, fun h => by cases h⟩

theorem gaussParted_holds : Rows.GaussPartedSaid :=
  OpenClaim.holds_of_wide 3 Try.f3 rfl rfl rfl rfl rfl rfl rfl ⟨rfl, rfl, rfl, rfl, rfl⟩ rfl rfl rfl rfl rfl (by kernel_rfl) Try.func3 (by kernel_rfl)
    (of_decide_eq_true (by kernel_rfl)) (by unfold Func.isWrapper; first | (rw [if_pos (by decide +kernel)]; kernel_rfl) | (rw [if_neg (by decide +kernel)]; exact ⟨rfl, rfl⟩))
    (fun os started H enc _ => parted_lifted os started H enc)
#print axioms gaussParted_holds
end Go.Proofs.Ytidknbdckdinlab
