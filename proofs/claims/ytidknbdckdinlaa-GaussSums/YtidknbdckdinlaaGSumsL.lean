/-
  GaussSums holds: the program's Right, Add, Sub and Mul answer as the document does: for every two points. Condition: none.
-/
import Derived.Test.YtidknbdckdinlaaGSums
import Derived.Test.YtidknbdckdinlaaGKnows
import Derived.Test.YtidknbdckdinlaaGRef1
import Derived.Test.YtidknbdckdinlaaGFrm
namespace Go.Proofs.Ytidknbdckdinlaa
open Go.ChangeShapes Go.WideShapes Go.ChangeAt Go.WideMaps Go.WideElems Go.RowKit

theorem sums_walk (x y u v : Int) (w : World) : Calls Try.prog 3 #[pv x y, pv u v] w fun e w' => e = .returned (.bool true) ∧ Grew w w' := by
  cases h : ok2 x y && ok2 u v
  · exact sums_core x y u v 0 0 1 0 0 1 0 0 1 (ok2 x y) w (fun W _ => own_any x y W) (fun W _ => own_any u v W) (fun W _ => knows_any W) (fun a b W => same_any a b W) (fun n W => num_any n W)
      (fun W _ => add_bad x y u v W h) (fun W _ => radd_bad x y u v W h) (fun W _ => sub_bad x y u v W h) (fun W _ => rsub_bad x y u v W h) (fun W _ => mul_bad x y u v W h) (fun W _ => rmul_bad x y u v W h)
      (fun W _ => right_any x y W) (fun W _ => rright_any x y W)
  · obtain ⟨h1, h2⟩ := Bool.and_eq_true_iff.1 h
    exact sums_core x y u v _ _ _ _ _ _ _ _ _ (ok2 x y) w (fun W _ => own_any x y W) (fun W _ => own_any u v W) (fun W _ => knows_any W) (fun a b W => same_any a b W) (fun n W => num_any n W)
      (fun W _ => add_good x y u v W h1 h2) (fun W _ => radd_good x y u v W h1 h2) (fun W _ => sub_good x y u v W h1 h2) (fun W _ => rsub_good x y u v W h1 h2) (fun W _ => mul_good x y u v W h1 h2) (fun W _ => rmul_good x y u v W h1 h2)
      (fun W _ => right_any x y W) (fun W _ => rright_any x y W)

set_option maxRecDepth 100000 in
theorem sums_lifted (os : Os) (started : os.Started) (H : Type) (enc : TypeId × Value → H) :
    ReturnsInHanded {} Try.checked os 3 .any (Rows.gaussSumsSpec.pre6 enc Try.prog Try.f3 Rows.gaussSumsRow.domain false) (Rows.gaussSumsSpec.post enc Try.prog Try.f3 false true false false) := by
  refine returnsInHanded_of_change (C := Try.checked) own started (by kernel_rfl) Try.func3
    (ChangeSpec.witness6 (enc := enc) (C := Try.checked) false ⟨#[], #[.agg #[.int .i64 0, .int .i64 0], .agg #[.int .i64 0, .int .i64 0]], []⟩ 8 (by kernel_rfl) (by kernel_rfl) (by kernel_rfl) (by kernel_rfl)) ?_
  intro W base args ds gs before hval0 hW _ _
  have hval : ∀ (j : Nat) t v, Try.f3.params[j]? = some t → args[j]? = some v → Value.okWide Try.prog W .any base t v := hval0
  have hW' := hW
  obtain ⟨p, q, hA0, hV, rfl, hfz, hnd⟩ := hW
  have hA : DataW.TrodAll enc Try.prog W 0 (fun _ => true) true Try.f3.params.toList args.toList ds p := hA0
  rw [Try.params3] at hA hval
  obtain ⟨v0, v1, d0, d1, p0, p1, rfl, rfl, rfl, h0, h1⟩ := trodAll_two hA
  obtain ⟨rfl, rfl⟩ := trodVars_none hV
  obtain ⟨a0, b0, rfl, w0, x0⟩ := open_pt (hval 0 23 v0 rfl rfl) h0
  have k0 := h0
  have lt0 : ∀ x ∈ p0, x.block < W.heap.size := by obtain ⟨m, hm⟩ := k0; exact DataW.trod_lt m _ _ _ hm
  obtain ⟨a1, b1, rfl, w1, x1⟩ := open_pt (hval 1 23 v1 rfl rfl) h1
  have k1 := h1
  have lt1 : ∀ x ∈ p1, x.block < W.heap.size := by obtain ⟨m, hm⟩ := k1; exact DataW.trod_lt m _ _ _ hm
  clear hA0 hval0
  refine (sums_walk a0 b0 a1 b1 W).mono fun e W' ⟨he, hg⟩ => ?_
  subst he
  exact ⟨_, rfl, _, _, _, [], _, [], hW', trodAll_mk1 (shut_bool Try.underlying4 _), trodAll_mk2 (Below.trod laidOut (by kernel_rfl) (of_decide_eq_true (by kernel_rfl)) k0 hg.below lt0) (Below.trod laidOut (by kernel_rfl) (of_decide_eq_true (by kernel_rfl)) k1 hg.below lt1), rfl, hg.below.frame _, fun h => by cases h⟩

theorem gaussSums_holds : Rows.GaussSumsSaid :=
  OpenClaim.holds_of_wide 3 Try.f3 rfl rfl rfl rfl rfl rfl rfl ⟨rfl, rfl, rfl, rfl, rfl⟩ rfl rfl rfl rfl rfl (by kernel_rfl) Try.func3 (by kernel_rfl)
    (of_decide_eq_true (by kernel_rfl)) (by unfold Func.isWrapper; first | (rw [if_pos (by decide +kernel)]; kernel_rfl) | (rw [if_neg (by decide +kernel)]; exact ⟨rfl, rfl⟩))
    (fun os started H enc _ => sums_lifted os started H enc)
#print axioms gaussSums_holds
end Go.Proofs.Ytidknbdckdinlaa
