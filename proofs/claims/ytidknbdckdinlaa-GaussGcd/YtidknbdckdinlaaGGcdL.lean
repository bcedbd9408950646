/-
  GaussGcd holds: a gcd leaves no rest, and lies in the first quarter; it is nought only of two noughts: for every two points. Condition: none.
-/
import Derived.Test.YtidknbdckdinlaaGGcdW
import Derived.Test.YtidknbdckdinlaaGGcdM
import Derived.Test.YtidknbdckdinlaaGDiv2
import Derived.Test.YtidknbdckdinlaaGKnows
import Derived.Test.YtidknbdckdinlaaGRef1
import Derived.Test.YtidknbdckdinlaaGFrm
namespace Go.Proofs.Ytidknbdckdinlaa
open Go.ChangeShapes Go.WideShapes Go.ChangeAt Go.WideMaps Go.WideElems Go.RowKit

theorem gcd_walk (x y u v : Int) (w : World) : Calls Try.prog 6 #[pv x y, pv u v] w fun e w' => e = .returned (.bool true) ∧ Grew w w' := by
  cases h : ok2 x y && ok2 u v
  · exact gcd_law_bad x y u v (ok2 x y) (ok2 u v) h w (fun W _ => own_any x y W) (fun W _ => own_any u v W) (fun W _ => knows_any W) (fun n W => num_any n W)
      (fun W _ => gcd_bad x y u v W h) (fun W _ => rright_any x y W) (fun W _ => rright_any u v W)
  · obtain ⟨h1, h2⟩ := Bool.and_eq_true_iff.1 h
    have b1 := (ok2_iff x y).1 h1
    have b2 := (ok2_iff u v).1 h2
    obtain ⟨k1, k2, k3, k4⟩ := gl_facts _ x y u v (Nat.le_refl _)
    have bg := k4 b1 b2
    have G := fun W => gcd_good x y u v W h1 h2
    have e : gl x y u v = ((gl x y u v).1, (gl x y u v).2) := rfl
    generalize (gl x y u v).1 = g1 at *
    generalize (gl x y u v).2 = g2 at *
    have hok : ok2 (fqX g1 g2) (fqY g1 g2) = true := by
      rw [ok2_iff]
      rcases fq_cases g1 g2 with ⟨a, b, i, j⟩ | ⟨a, b, i, j⟩ | ⟨a, b, i, j⟩ | ⟨a, b, i, j⟩ | ⟨a, b, i, j⟩ <;> rw [i, j] <;> omega
    by_cases hz : g1 = 0 ∧ g2 = 0
    · obtain ⟨rfl, rfl⟩ := hz
      obtain ⟨⟨rfl, rfl⟩, rfl, rfl⟩ := k3 e
      have N : ∀ W, Calls Try.prog 26 #[pv 0 0] W fun e w' => e = .returned (.int .i64 0) ∧ Grew W w' := fun W => norm_any 0 0 W
      exact gcd_law_zero 0 0 0 0 0 0 w (fun W _ => own_any 0 0 W) (fun W _ => own_any 0 0 W) (fun W _ => knows_any W) (fun n W => num_any n W) (fun W _ => G W) (fun W _ => N W) (fun W _ => N W) (fun W _ => N W)
    · have hp : 0 < fqX g1 g2 ∧ 0 ≤ fqY g1 g2 := by
        rcases fq_cases g1 g2 with ⟨a, b, i, j⟩ | ⟨a, b, i, j⟩ | ⟨a, b, i, j⟩ | ⟨a, b, i, j⟩ | ⟨a, b, i, j⟩ <;> rw [i, j] <;> omega
      have hn : 0 < fqX g1 g2 * fqX g1 g2 + fqY g1 g2 * fqY g1 g2 := norm_pos (by omega)
      have r1 := rest_none x y _ _ hn (fq_dv k1)
      have r2 := rest_none u v _ _ hn (fq_dv k2)
      have D1 := fun W => div_good x y _ _ W h1 hok hn
      have D2 := fun W => div_good u v _ _ W h2 hok hn
      rw [r1.1, r1.2] at D1
      rw [r2.1, r2.2] at D2
      have hng : ¬ nrm (fqX g1 g2) (fqY g1 g2) = 0 := by
        have : nrm (fqX g1 g2) (fqY g1 g2) = fqX g1 g2 * fqX g1 g2 + fqY g1 g2 * fqY g1 g2 := by simp [nrm, hok]
        omega
      have N : ∀ W, Calls Try.prog 26 #[pv 0 0] W fun e w' => e = .returned (.int .i64 0) ∧ Grew W w' := fun W => norm_any 0 0 W
      exact gcd_law_good x y u v _ _ _ _ _ _ _ w hng hp.1 hp.2 (fun W _ => own_any x y W) (fun W _ => own_any u v W) (fun W _ => knows_any W) (fun n W => num_any n W) (fun W _ => G W) (fun W _ => norm_any _ _ W) (fun W _ => N W)
        (fun W _ => D1 W) (fun W _ => D2 W)

set_option maxRecDepth 100000 in
theorem gcd_lifted (os : Os) (started : os.Started) (H : Type) (enc : TypeId × Value → H) :
    ReturnsInHanded {} Try.checked os 6 .any (Rows.gaussGcdSpec.pre6 enc Try.prog Try.f6 Rows.gaussGcdRow.domain false) (Rows.gaussGcdSpec.post enc Try.prog Try.f6 false true false false) := by
  refine returnsInHanded_of_change (C := Try.checked) own started (by kernel_rfl) Try.func6
    (ChangeSpec.witness6 (enc := enc) (C := Try.checked) false ⟨#[], #[.agg #[.int .i64 0, .int .i64 0], .agg #[.int .i64 0, .int .i64 0]], []⟩ 8 (by kernel_rfl) (by kernel_rfl) (by kernel_rfl) (by kernel_rfl)) ?_
  intro W base args ds gs before hval0 hW _ _
  have hval : ∀ (j : Nat) t v, Try.f6.params[j]? = some t → args[j]? = some v → Value.okWide Try.prog W .any base t v := hval0
  have hW' := hW
  obtain ⟨p, q, hA0, hV, rfl, hfz, hnd⟩ := hW
  have hA : DataW.TrodAll enc Try.prog W 0 (fun _ => true) true Try.f6.params.toList args.toList ds p := hA0
  rw [Try.params6] at hA hval
  obtain ⟨v0, v1, d0, d1, p0, p1, rfl, rfl, rfl, h0, h1⟩ := trodAll_two hA
  obtain ⟨rfl, rfl⟩ := trodVars_none hV
  obtain ⟨a0, b0, rfl, w0, x0⟩ := open_pt (hval 0 23 v0 rfl rfl) h0
  have k0 := h0
  have lt0 : ∀ x ∈ p0, x.block < W.heap.size := by obtain ⟨m, hm⟩ := k0; exact DataW.trod_lt m _ _ _ hm
  obtain ⟨a1, b1, rfl, w1, x1⟩ := open_pt (hval 1 23 v1 rfl rfl) h1
  have k1 := h1
  have lt1 : ∀ x ∈ p1, x.block < W.heap.size := by obtain ⟨m, hm⟩ := k1; exact DataW.trod_lt m _ _ _ hm
  clear hA0 hval0
  refine (gcd_walk a0 b0 a1 b1 W).mono fun e W' ⟨he, hg⟩ => ?_
  subst he
  exact ⟨_, rfl, _, _, _, [], _, [], hW', trodAll_mk1 (shut_bool Try.underlying4 _), trodAll_mk2 (Below.trod laidOut (by kernel_rfl) (of_decide_eq_true (by kernel_rfl)) k0 hg.below lt0) (Below.trod laidOut (by kernel_rfl) (of_decide_eq_true (by kernel_rfl)) k1 hg.below lt1), rfl, hg.below.frame _, fun h => by cases h⟩

theorem gaussGcd_holds : Rows.GaussGcdSaid :=
  OpenClaim.holds_of_wide 6 Try.f6 rfl rfl rfl rfl rfl rfl rfl ⟨rfl, rfl, rfl, rfl, rfl⟩ rfl rfl rfl rfl rfl (by kernel_rfl) Try.func6 (by kernel_rfl)
    (of_decide_eq_true (by kernel_rfl)) (by unfold Func.isWrapper; first | (rw [if_pos (by decide +kernel)]; kernel_rfl) | (rw [if_neg (by decide +kernel)]; exact ⟨rfl, rfl⟩))
    (fun os started H enc _ => gcd_lifted os started H enc)
#print axioms gaussGcd_holds
end Go.Proofs.Ytidknbdckdinlaa
