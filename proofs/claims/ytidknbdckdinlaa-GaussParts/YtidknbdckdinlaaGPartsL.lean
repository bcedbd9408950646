/-
  GaussParts holds: the program's Div, Gcd, Conj, Norm and Turn answer as the document does: for every two points and every count. Condition: none.
-/
import Derived.Test.YtidknbdckdinlaaGParts
import Derived.Test.YtidknbdckdinlaaGDiv2
import Derived.Test.YtidknbdckdinlaaGKnows
import Derived.Test.YtidknbdckdinlaaGRef3
import Derived.Test.YtidknbdckdinlaaGRef4
import Derived.Test.YtidknbdckdinlaaGRef5
import Derived.Test.YtidknbdckdinlaaGFrm
namespace Go.Proofs.Ytidknbdckdinlaa
open Go.ChangeShapes Go.WideShapes Go.ChangeAt Go.WideMaps Go.WideElems Go.RowKit

theorem parts_walk (x y u v k : Int) (w : World) : Calls Try.prog 4 #[pv x y, pv u v, .int .i64 k] w fun e w' => e = .returned (.bool true) ∧ Grew w w' := by
  obtain ⟨cx, cy, C1, C2⟩ : ∃ cx cy : Int, (∀ W, Calls Try.prog 24 #[pv x y] W fun e w' => e = .returned (pv cx cy) ∧ Grew W w') ∧ (∀ W, Calls Try.prog 25 #[pv x y] W fun e w' => e = .returned (pv cx cy) ∧ Grew W w') := by
    cases h : ok2 x y
    · exact ⟨0, 0, fun W => conj_bad x y W h, fun W => rconj_bad x y W h⟩
    · exact ⟨_, _, fun W => conj_good x y W h, fun W => rconj_good x y W h⟩
  obtain ⟨tx, ty, T1, T2⟩ : ∃ tx ty : Int, (∀ W, Calls Try.prog 28 #[pv x y, .int .i64 k] W fun e w' => e = .returned (pv tx ty) ∧ Grew W w') ∧ (∀ W, Calls Try.prog 29 #[pv x y, .int .i64 k] W fun e w' => e = .returned (pv tx ty) ∧ Grew W w') := by
    cases h : ok2 x y
    · exact ⟨0, 0, fun W => turn_bad x y k W h, fun W => rturn_bad x y k W h⟩
    · exact ⟨_, _, fun W => turn_good x y k W h, fun W => rturn_good x y k W h⟩
  obtain ⟨gx, gy, ge, G1, G2⟩ : ∃ gx gy ge : Int, (∀ W, Calls Try.prog 22 #[pv x y, pv u v] W fun e w' => e = .returned (.tuple #[pv gx gy, .int .i64 ge]) ∧ Grew W w') ∧ (∀ W, Calls Try.prog 23 #[pv x y, pv u v] W fun e w' => e = .returned (.tuple #[pv gx gy, .int .i64 ge]) ∧ Grew W w') := by
    cases h : ok2 x y && ok2 u v
    · exact ⟨0, 0, 1, fun W => gcd_bad x y u v W h, fun W => rgcd_bad x y u v W h⟩
    · obtain ⟨h1, h2⟩ := Bool.and_eq_true_iff.1 h
      exact ⟨_, _, 0, fun W => gcd_good x y u v W h1 h2, fun W => rgcd_good x y u v W h1 h2⟩
  obtain ⟨ax, ay, bx, by1, de, D1, D2⟩ : ∃ ax ay bx by1 de : Int, (∀ W, Calls Try.prog 20 #[pv x y, pv u v] W fun e w' => e = .returned (.tuple #[pv ax ay, pv bx by1, .int .i64 de]) ∧ Grew W w') ∧ (∀ W, Calls Try.prog 21 #[pv x y, pv u v] W fun e w' => e = .returned (.tuple #[pv ax ay, pv bx by1, .int .i64 de]) ∧ Grew W w') := by
    cases h : ok2 x y && ok2 u v
    · exact ⟨0, 0, 0, 0, 1, fun W => div_bad x y u v W h, fun W => rdiv_bad x y u v W h⟩
    · obtain ⟨h1, h2⟩ := Bool.and_eq_true_iff.1 h
      by_cases hz : u = 0 ∧ v = 0
      · obtain ⟨rfl, rfl⟩ := hz
        exact ⟨0, 0, 0, 0, 33, fun W => div_zero x y W h1, fun W => rdiv_zero x y W h1⟩
      · exact ⟨_, _, _, _, 0, fun W => div_good x y u v W h1 h2 (norm_pos hz), fun W => rdiv_good x y u v W h1 h2 (norm_pos hz)⟩
  exact parts_core x y u v k ax ay bx by1 de gx gy ge cx cy (nrm x y) tx ty w (fun W _ => own_any x y W) (fun W _ => own_any u v W) (fun W _ => knows_any W) (fun n W => num_any n W) (fun a b W => same_any a b W)
    (fun W _ => D1 W) (fun W _ => D2 W) (fun W _ => G1 W) (fun W _ => G2 W) (fun W _ => C1 W) (fun W _ => C2 W) (fun W _ => norm_any x y W) (fun W _ => rnorm_any x y W) (fun W _ => T1 W) (fun W _ => T2 W)

set_option maxRecDepth 100000 in
theorem parts_lifted (os : Os) (started : os.Started) (H : Type) (enc : TypeId × Value → H) :
    ReturnsInHanded {} Try.checked os 4 .any (Rows.gaussPartsSpec.pre6 enc Try.prog Try.f4 Rows.gaussPartsRow.domain false) (Rows.gaussPartsSpec.post enc Try.prog Try.f4 false true false false) := by
  refine returnsInHanded_of_change (C := Try.checked) own started (by kernel_rfl) Try.func4
    (ChangeSpec.witness6 (enc := enc) (C := Try.checked) false ⟨#[], #[.agg #[.int .i64 0, .int .i64 0], .agg #[.int .i64 0, .int .i64 0], .int .i64 0], []⟩ 8 (by kernel_rfl) (by kernel_rfl) (by kernel_rfl) (by kernel_rfl)) ?_
  intro W base args ds gs before hval0 hW _ _
  have hval : ∀ (j : Nat) t v, Try.f4.params[j]? = some t → args[j]? = some v → Value.okWide Try.prog W .any base t v := hval0
  have hW' := hW
  obtain ⟨p, q, hA0, hV, rfl, hfz, hnd⟩ := hW
  have hA : DataW.TrodAll enc Try.prog W 0 (fun _ => true) true Try.f4.params.toList args.toList ds p := hA0
  rw [Try.params4] at hA hval
  obtain ⟨v0, v1, v2, d0, d1, d2, p0, p1, p2, rfl, rfl, rfl, h0, h1, h2⟩ := trodAll_three hA
  obtain ⟨rfl, rfl⟩ := trodVars_none hV
  obtain ⟨a0, b0, rfl, w0, x0⟩ := open_pt (hval 0 23 v0 rfl rfl) h0
  have k0 := h0
  have lt0 : ∀ x ∈ p0, x.block < W.heap.size := by obtain ⟨m, hm⟩ := k0; exact DataW.trod_lt m _ _ _ hm
  obtain ⟨a1, b1, rfl, w1, x1⟩ := open_pt (hval 1 23 v1 rfl rfl) h1
  have k1 := h1
  have lt1 : ∀ x ∈ p1, x.block < W.heap.size := by obtain ⟨m, hm⟩ := k1; exact DataW.trod_lt m _ _ _ hm
  obtain ⟨a2, rfl, rfl, rfl, w2⟩ := open_int Try.underlying3 (hval 2 3 v2 rfl rfl) h2
  clear hA0 hval0
  refine (parts_walk a0 b0 a1 b1 a2 W).mono fun e W' ⟨he, hg⟩ => ?_
  subst he
  exact ⟨_, rfl, _, _, _, [], _, [], hW', trodAll_mk1 (shut_bool Try.underlying4 _), trodAll_mk3 (Below.trod laidOut (by kernel_rfl) (of_decide_eq_true (by kernel_rfl)) k0 hg.below lt0) (Below.trod laidOut (by kernel_rfl) (of_decide_eq_true (by kernel_rfl)) k1 hg.below lt1) (shut_int Try.underlying3 w2), rfl, hg.below.frame _, fun h => by cases h⟩

theorem gaussParts_holds : Rows.GaussPartsSaid :=
  OpenClaim.holds_of_wide 4 Try.f4 rfl rfl rfl rfl rfl rfl rfl ⟨rfl, rfl, rfl, rfl, rfl⟩ rfl rfl rfl rfl rfl (by kernel_rfl) Try.func4 (by kernel_rfl)
    (of_decide_eq_true (by kernel_rfl)) (by unfold Func.isWrapper; first | (rw [if_pos (by decide +kernel)]; kernel_rfl) | (rw [if_neg (by decide +kernel)]; exact ⟨rfl, rfl⟩))
    (fun os started H enc _ => parts_lifted os started H enc)
#print axioms gaussParts_holds
end Go.Proofs.Ytidknbdckdinlaa
