/-
  DecimalSums holds: every sum, difference, negative and order is the document's: for every two decimals, of every scale. Condition: none but the row's own (the table of powers as the program lays it).
-/
import Derived.Test.YtfbkakchaabgeaaDoorDFrm
import Derived.Test.YtfbkakchaabgeaaDoorDSums
import Derived.Test.YtfbkakchaabgeaaDoorDRef8
import Derived.Test.YtfbkakchaabgeaaDoorDRef9
import Derived.Test.YtfbkakchaabgeaaDoorDOrderP
import Derived.Test.YtfbkakchaabgeaaDoorDAdd
import Derived.Test.YtfbkakchaabgeaaDoorDNeg
namespace Go.Proofs.YtfbkakchaabgeaaDoor
open Go.ChangeShapes Go.WideShapes Go.ChangeAt Go.WideMaps Go.WideElems Go.RowKit

theorem sums_below (ua sa ub sb : Int) (w : World) (hP : Pw w) (a0 : -9223372036854775808 ≤ ua) (a1 : ua ≤ 9223372036854775807) (b0 : -9223372036854775808 ≤ ub) (b1 : ub ≤ 9223372036854775807) :
    Calls Tryd.prog 3 #[dv ua sa, dv ub sb] w fun e w' => e = .returned (.bool true) ∧ Below w.heap.size w w' := by
  have K : Gives 21 #[] w (.bool true) := fun W h => knows_any W (hP.later h)
  cases hr : rightS sa && rightS sb
  · have hr' : (rightS sa && rightS sb) = false := hr
    exact (sums_core ua sa ub sb 0 0 1 0 0 1 _ _ _ 0 _ w (fun W _ => own_any ua sa W) (fun W _ => own_any ub sb W) K (agree_any num_any)
      (fun W _ => add_bad ua sa ub sb W hr') (fun W _ => radd_bad ua sa ub sb W hr') (fun W _ => sub_bad ua sa ub sb W hr') (fun W _ => rsub_bad ua sa ub sb W hr')
      (fun W h => neg_any ua sa W (hP.later h) a0 a1) (fun W _ => rneg_any ua sa W a0 a1) (fun W _ => cmp_bad ua sa ub sb W hr') (fun W _ => rcmp_bad ua sa ub sb W hr')
      (fun W _ => right_any ua sa W) (fun W _ => refRight_any ua sa W)).mono fun _ _ h => ⟨h.1, h.2.below⟩
  · have h' := Bool.and_eq_true_iff.1 hr
    obtain ⟨t, ht⟩ : ∃ t, (t = sa ∧ sb ≤ sa) ∨ (t = sb ∧ sa < sb) := by
      by_cases h : sb ≤ sa
      · exact ⟨sa, .inl ⟨rfl, h⟩⟩
      · exact ⟨sb, .inr ⟨rfl, by omega⟩⟩
    exact (sums_core ua sa ub sb _ _ _ _ _ _ _ _ _ _ _ w (fun W _ => own_any ua sa W) (fun W _ => own_any ub sb W) K (agree_any num_any)
      (fun W h => add_good ua sa ub sb t W (hP.later h) h'.1 h'.2 ht a0 a1 b0 b1) (fun W _ => radd_good ua sa ub sb t W h'.1 h'.2 ht a0 a1 b0 b1)
      (fun W h => sub_good ua sa ub sb t W (hP.later h) h'.1 h'.2 ht a0 a1 b0 b1) (fun W _ => rsub_good ua sa ub sb t W h'.1 h'.2 ht a0 a1 b0 b1)
      (fun W h => neg_any ua sa W (hP.later h) a0 a1) (fun W _ => rneg_any ua sa W a0 a1)
      (cmp_six ua sa ub sb w hP h'.1 h'.2 a0 a1 b0 b1) (fun W _ => rcmp_good ua sa ub sb W h'.1 h'.2 a0 a1 b0 b1)
      (fun W _ => right_any ua sa W) (fun W _ => refRight_any ua sa W)).mono fun _ _ h => ⟨h.1, h.2.below⟩

set_option maxRecDepth 100000 in
theorem sums_lifted (os : Os) (started : os.Started) (H : Type) (enc : TypeId × Value → H) :
    ReturnsInHanded {} Tryd.checked os 3 .any (fun w args => (Rows.decimalSumsSpec.pre enc Tryd.prog Tryd.f3 [] false w args ∧ laidMetH Tryd.prog laid1 w) ∧ sizedMet enc Tryd.prog Tryd.f3 (OpenSpec.ofChange Rows.decimalSumsSpec) false w args)
      (Rows.decimalSumsSpec.post enc Tryd.prog Tryd.f3 false true false false) := by
  refine returnsInHanded_of_change_and (C := Tryd.checked) (X := fun w _ => laidMetH Tryd.prog laid1 w) (fun _ _ _ hh h => h.of_heap hh) own started (by kernel_rfl) Tryd.func3
    (ChangeSpec.witness_shaped (enc := enc) (C := Tryd.checked) (os := os) (X := fun w _ => laidMetH Tryd.prog laid1 w) false (World.doorLaid Tryd.prog 14 os) #[.agg #[.int .i64 0, .int .i64 0], .agg #[.int .i64 0, .int .i64 0]] 8 rfl (World.shaped_of_RefB (by kernel_rfl) (by kernel_rfl)) (by kernel_rfl) (by kernel_rfl) (by kernel_rfl) (door_met os _)) ?_
  intro W base args ds gs before hval0 hW _ _ hL _
  have hval : ∀ (j : Nat) t v, Tryd.f3.params[j]? = some t → args[j]? = some v → Value.okWide Tryd.prog W .any base t v := hval0
  have hW' := hW
  obtain ⟨p, q, hA0, hV, rfl, hfz, hnd⟩ := hW
  have hA : DataW.TrodAll enc Tryd.prog W 0 (fun _ => true) true Tryd.f3.params.toList args.toList ds p := hA0
  rw [Tryd.params3] at hA hval
  obtain ⟨v0, v1, d0, d1, p0, p1, rfl, rfl, rfl, h0, h1⟩ := trodAll_two hA
  obtain ⟨rfl, rfl⟩ := trodVars_none hV
  obtain ⟨a0, s0, rfl, w0, x0⟩ := open_dec (hval 0 23 v0 rfl rfl) h0
  have b0 := bounds_i64 w0
  have k0 := h0
  have lt0 : ∀ x ∈ p0, x.block < W.heap.size := by obtain ⟨m, hm⟩ := k0; exact DataW.trod_lt m _ _ _ hm
  obtain ⟨a1, s1, rfl, w1, x1⟩ := open_dec (hval 1 23 v1 rfl rfl) h1
  have b1 := bounds_i64 w1
  have k1 := h1
  have lt1 : ∀ x ∈ p1, x.block < W.heap.size := by obtain ⟨m, hm⟩ := k1; exact DataW.trod_lt m _ _ _ hm
  clear hA0 hval0
  refine (sums_below a0 s0 a1 s1 W (pw_of_laid hL) b0.1 b0.2 b1.1 b1.2).mono fun e W' ⟨he, bel⟩ => ?_
  subst he
  exact ⟨_, rfl, _, _, _, [], _, [], hW', trodAll_mk1 (shut_bool Tryd.underlying4 _), trodAll_mk2 (Below.trod laidOut (by kernel_rfl) (of_decide_eq_true (by kernel_rfl)) k0 bel lt0) (Below.trod laidOut (by kernel_rfl) (of_decide_eq_true (by kernel_rfl)) k1 bel lt1), rfl, bel.frame _, fun h => by cases h⟩

theorem sums_said : Rows.DecimalSumsSaid :=
  OpenClaim.holds_of_wide 3 Tryd.f3 rfl rfl rfl rfl rfl rfl rfl ⟨rfl, rfl, rfl, rfl, rfl⟩ rfl rfl rfl rfl rfl (by kernel_rfl) Tryd.func3 (by kernel_rfl)
    (of_decide_eq_true (by kernel_rfl)) (by unfold Func.isWrapper; first | (rw [if_pos (by decide +kernel)]; kernel_rfl) | (rw [if_neg (by decide +kernel)]; exact ⟨rfl, rfl⟩))
    (fun os started H enc _ => sums_lifted os started H enc)

theorem decimalSums_holds : Rows.DecimalSumsCardSaid :=
  Claim7.holds_tied_plain_at .later [] [.data] true _ false
    sums_said (fun _ h => by cases h) (by kernel_rfl) (fun _ h => by cases h) decimalSums_row_tie rfl ⟨rfl, rfl⟩ (by kernel_rfl) rfl
    (fun f fn hf hfn => by
      obtain rfl : f = 3 := Option.some.inj ((show Tryd.prog.funcNamed Tryd.f3.name = some 3 by kernel_rfl).symm.trans hf) |>.symm
      obtain rfl : fn = Tryd.f3 := (Option.some.inj (Tryd.func3.symm.trans hfn)).symm
      exact ⟨by kernel_rfl, fun j t ht => by
        rw [Tryd.params3] at ht
        have hm : t ∈ [23, 23] := by simpa using Array.mem_of_getElem? ht
        have hall : ([23, 23].all fun u => !Tryd.prog.wantsStandIn u) = true := by kernel_rfl
        exact (show Tryd.prog.wantsStandIn t = false by simpa using List.all_eq_true.1 hall t hm)⟩)
    (by kernel_rfl)
#print axioms decimalSums_holds
end Go.Proofs.YtfbkakchaabgeaaDoor
