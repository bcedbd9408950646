/-
  GaussTurns holds: four turns are none; a turn leaves the norm; a turn there and one back is none: for every point and every two counts. Condition: none.
-/
import Derived.Test.YtidknbdckdinlaaGTurns
import Derived.Test.YtidknbdckdinlaaGKnows
import Derived.Test.YtidknbdckdinlaaGRef1
import Derived.Test.YtidknbdckdinlaaGFrm
namespace Go.Proofs.Ytidknbdckdinlaa
open Go.ChangeShapes Go.WideShapes Go.ChangeAt Go.WideMaps Go.WideElems Go.RowKit

theorem turn_cases (x y n : Int) : (n % 4 = 0 ∧ turnX x y n = x ∧ turnY x y n = y) ∨ (n % 4 = 1 ∧ turnX x y n = -y ∧ turnY x y n = x) ∨ (n % 4 = 2 ∧ turnX x y n = -x ∧ turnY x y n = -y) ∨ (n % 4 = 3 ∧ turnX x y n = y ∧ turnY x y n = -x) := by
  have hc : n % 4 = 0 ∨ n % 4 = 1 ∨ n % 4 = 2 ∨ n % 4 = 3 := by omega
  rcases hc with hk | hk | hk | hk <;> simp [turnX, turnY, hk]
theorem turn_ok (x y n : Int) (h : ok2 x y = true) : ok2 (turnX x y n) (turnY x y n) = true := by
  rw [ok2_iff] at h ⊢
  rcases turn_cases x y n with ⟨_, e1, e2⟩ | ⟨_, e1, e2⟩ | ⟨_, e1, e2⟩ | ⟨_, e1, e2⟩ <;> rw [e1, e2] <;> omega
theorem turn_norm (x y n : Int) (h : ok2 x y = true) : nrm (turnX x y n) (turnY x y n) = nrm x y := by
  have h' := turn_ok x y n h
  unfold nrm
  rw [if_pos h, if_pos h']
  rcases turn_cases x y n with ⟨_, e1, e2⟩ | ⟨_, e1, e2⟩ | ⟨_, e1, e2⟩ | ⟨_, e1, e2⟩ <;> rw [e1, e2] <;> grind
theorem turn_turn (x y n m : Int) : turnX (turnX x y n) (turnY x y n) m = turnX x y (n + m) ∧ turnY (turnX x y n) (turnY x y n) m = turnY x y (n + m) := by
  rcases turn_cases x y n with ⟨k, e1, e2⟩ | ⟨k, e1, e2⟩ | ⟨k, e1, e2⟩ | ⟨k, e1, e2⟩ <;> rw [e1, e2]
  all_goals
    have hc : m % 4 = 0 ∨ m % 4 = 1 ∨ m % 4 = 2 ∨ m % 4 = 3 := by omega
    rcases hc with hk | hk | hk | hk
  all_goals
    have hs : (n + m) % 4 = (n % 4 + m % 4) % 4 := by omega
    rw [k, hk] at hs
    simp [turnX, turnY, hk, hs]
theorem turn_none (x y n : Int) (h : n % 4 = 0) : turnX x y n = x ∧ turnY x y n = y := by simp [turnX, turnY, h]

theorem turns_walk (x y n m : Int) (w : World) : Calls Try.prog 7 #[pv x y, .int .i64 n, .int .i64 m] w fun e w' => e = .returned (.bool true) ∧ Grew w w' := by
  cases h : ok2 x y
  · exact turns_bad x y n m w (fun W _ => own_any x y W) (fun W _ => knows_any W) (fun W _ => h ▸ rright_any x y W) (fun W _ => turn_bad x y n W h)
  · have b1 : -1000 < n.tmod 1000 ∧ n.tmod 1000 < 1000 := ⟨by have := Int.lt_tmod_of_pos n (b := 1000) (by decide); omega, Int.tmod_lt_of_pos n (by decide)⟩
    have b2 : -1000 < m.tmod 1000 ∧ m.tmod 1000 < 1000 := ⟨by have := Int.lt_tmod_of_pos m (b := 1000) (by decide); omega, Int.tmod_lt_of_pos m (by decide)⟩
    generalize hn : n.tmod 1000 = n1 at *
    generalize hm : m.tmod 1000 = m1 at *
    have ha := turn_ok x y n1 h
    have T2 := fun W => turn_good (turnX x y n1) (turnY x y n1) (-n1) W ha
    obtain ⟨s1, s2⟩ := turn_turn x y n1 (-n1)
    obtain ⟨s3, s4⟩ := turn_none x y (n1 + -n1) (by omega)
    rw [s1, s2, s3, s4] at T2
    have T3 := fun W => turn_good (turnX x y n1) (turnY x y n1) m1 W ha
    obtain ⟨s5, s6⟩ := turn_turn x y n1 m1
    rw [s5, s6] at T3
    have N1 := fun W => norm_any (turnX x y n1) (turnY x y n1) W
    rw [turn_norm x y n1 h] at N1
    have T5 := fun W => turn_good x y 4 W h
    obtain ⟨s7, s8⟩ := turn_none x y 4 (by decide)
    rw [s7, s8] at T5
    exact turns_good x y n m n1 m1 (-n1) (n1 + m1) _ _ _ _ _ w (fun W _ => own_any x y W) (fun W _ => knows_any W) (fun W _ => h ▸ rright_any x y W) (fun W _ => turn_good x y n1 W h)
      (fun W _ => N1 W) (fun W _ => norm_any x y W) (fun W _ => T2 W) (fun W _ => T3 W) (fun W _ => turn_good x y (n1 + m1) W h) (fun W _ => T5 W) hn hm (by rw [IntKind.wrap_i64]; omega) (by rw [IntKind.wrap_i64]; omega)

set_option maxRecDepth 100000 in
theorem turns_lifted (os : Os) (started : os.Started) (H : Type) (enc : TypeId × Value → H) :
    ReturnsInHanded {} Try.checked os 7 .any (Rows.gaussTurnsSpec.pre6 enc Try.prog Try.f7 Rows.gaussTurnsRow.domain false) (Rows.gaussTurnsSpec.post enc Try.prog Try.f7 false true false false) := by
  refine returnsInHanded_of_change (C := Try.checked) own started (by kernel_rfl) Try.func7
    (ChangeSpec.witness6 (enc := enc) (C := Try.checked) false ⟨#[], #[.agg #[.int .i64 0, .int .i64 0], .int .i64 0, .int .i64 0], []⟩ 8 (by kernel_rfl) (by kernel_rfl) (by kernel_rfl) (by kernel_rfl)) ?_
  intro W base args ds gs before hval0 hW _ _
  have hval : ∀ (j : Nat) t v, Try.f7.params[j]? = some t → args[j]? = some v → Value.okWide Try.prog W .any base t v := hval0
  have hW' := hW
  obtain ⟨p, q, hA0, hV, rfl, hfz, hnd⟩ := hW
  have hA : DataW.TrodAll enc Try.prog W 0 (fun _ => true) true Try.f7.params.toList args.toList ds p := hA0
  rw [Try.params7] at hA hval
  obtain ⟨v0, v1, v2, d0, d1, d2, p0, p1, p2, rfl, rfl, rfl, h0, h1, h2⟩ := trodAll_three hA
  obtain ⟨rfl, rfl⟩ := trodVars_none hV
  obtain ⟨a0, b0, rfl, w0, x0⟩ := open_pt (hval 0 23 v0 rfl rfl) h0
  have k0 := h0
  have lt0 : ∀ x ∈ p0, x.block < W.heap.size := by obtain ⟨m, hm⟩ := k0; exact DataW.trod_lt m _ _ _ hm
  obtain ⟨a1, rfl, rfl, rfl, w1⟩ := open_int Try.underlying3 (hval 1 3 v1 rfl rfl) h1
  obtain ⟨a2, rfl, rfl, rfl, w2⟩ := open_int Try.underlying3 (hval 2 3 v2 rfl rfl) h2
  clear hA0 hval0
  refine (turns_walk a0 b0 a1 a2 W).mono fun e W' ⟨he, hg⟩ => ?_
  subst he
  exact ⟨_, rfl, _, _, _, [], _, [], hW', trodAll_mk1 (shut_bool Try.underlying4 _), trodAll_mk3 (Below.trod laidOut (by kernel_rfl) (of_decide_eq_true (by kernel_rfl)) k0 hg.below lt0) (shut_int Try.underlying3 w1) (shut_int Try.underlying3 w2), rfl, hg.below.frame _, fun h => by cases h⟩

theorem gaussTurns_holds : Rows.GaussTurnsSaid :=
  OpenClaim.holds_of_wide 7 Try.f7 rfl rfl rfl rfl rfl rfl rfl ⟨rfl, rfl, rfl, rfl, rfl⟩ rfl rfl rfl rfl rfl (by kernel_rfl) Try.func7 (by kernel_rfl)
    (of_decide_eq_true (by kernel_rfl)) (by unfold Func.isWrapper; first | (rw [if_pos (by decide +kernel)]; kernel_rfl) | (rw [if_neg (by decide +kernel)]; exact ⟨rfl, rfl⟩))
    (fun os started H enc _ => turns_lifted os started H enc)
#print axioms gaussTurns_holds
end Go.Proofs.Ytidknbdckdinlaa
