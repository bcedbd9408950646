/-
  DecimalTimes holds: every product and part, and every rounding, is the document's: for every two decimals and every scale. Condition: none but the row's own (the table of powers as the program lays it).
-/
import Derived.Test.YtfbkakchaabgeaaDoorDFrm
import Derived.Test.YtfbkakchaabgeaaDoorDTimes
import Derived.Test.YtfbkakchaabgeaaDoorDRefA
import Derived.Test.YtfbkakchaabgeaaDoorDRefB
import Derived.Test.YtfbkakchaabgeaaDoorDRefC
import Derived.Test.YtfbkakchaabgeaaDoorDRefD
import Derived.Test.YtfbkakchaabgeaaDoorDMul
import Derived.Test.YtfbkakchaabgeaaDoorDResc
import Derived.Test.YtfbkakchaabgeaaDoorDNeg
namespace Go.Proofs.YtfbkakchaabgeaaDoor
open Go.ChangeShapes Go.WideShapes Go.ChangeAt Go.WideMaps Go.WideElems Go.RowKit

theorem mul_pair (ua sa ub sb : Int) (w : World) (hP : Pw w) (a0 : -9223372036854775808 ≤ ua) (a1 : ua ≤ 9223372036854775807) (b0 : -9223372036854775808 ≤ ub) (b1 : ub ≤ 9223372036854775807) :
    ∃ pu ps pe : Int, Gives 22 #[dv ua sa, dv ub sb] w (.tuple #[dv pu ps, .int .i64 pe]) ∧ Gives 23 #[dv ua sa, dv ub sb] w (.tuple #[dv pu ps, .int .i64 pe]) := by
  cases hr : rightS sa && rightS sb
  · exact ⟨0, 0, 1, fun W _ => mul_bad ua sa ub sb W hr, fun W _ => rmul_bad ua sa ub sb W hr⟩
  · have h' := Bool.and_eq_true_iff.1 hr
    by_cases h : sa + sb ≤ 6
    · refine ⟨_, _, _, fun W hg => mul_good ua sa ub sb (sa + sb) 0 W (hP.later hg) h'.1 h'.2 (.inl ⟨rfl, h⟩) (by omega) a0 a1 b0 b1, fun W _ => ?_⟩
      have := rmul_low ua sa ub sb W h'.1 h'.2 h a0 a1 b0 b1
      have e : rq (ua * ub) (10 ^ 0 : Nat) = ua * ub := by rw [Nat.pow_zero]; exact rq_one _
      rw [e]
      exact this
    · obtain ⟨k, hk⟩ : ∃ k : Nat, sa + sb - 6 = (k : Int) := ⟨(sa + sb - 6).toNat, by omega⟩
      exact ⟨_, _, _, fun W hg => mul_good ua sa ub sb 6 k W (hP.later hg) h'.1 h'.2 (.inr ⟨rfl, by omega⟩) hk a0 a1 b0 b1, fun W _ => rmul_high ua sa ub sb k W h'.1 h'.2 (by omega) hk a0 a1 b0 b1⟩

theorem div_pair (ua sa ub sb s : Int) (w : World) (hP : Pw w) (a0 : -9223372036854775808 ≤ ua) (a1 : ua ≤ 9223372036854775807) (b0 : -9223372036854775808 ≤ ub) (b1 : ub ≤ 9223372036854775807) :
    ∃ pu ps pe : Int, Gives 24 #[dv ua sa, dv ub sb, .int .i64 s] w (.tuple #[dv pu ps, .int .i64 pe]) ∧ Gives 25 #[dv ua sa, dv ub sb, .int .i64 s] w (.tuple #[dv pu ps, .int .i64 pe]) := by
  cases hr : rightS sa && rightS sb && rightS s
  · exact ⟨0, 0, 1, fun W _ => div_bad ua sa ub sb s W hr, fun W _ => rdiv_bad ua sa ub sb s W hr⟩
  · have h' := Bool.and_eq_true_iff.1 hr
    have h'' := Bool.and_eq_true_iff.1 h'.1
    by_cases hu : ub = 0
    · subst hu
      exact ⟨0, 0, 33, fun W _ => div_zero ua sa sb s W h''.1 h''.2 h'.2, fun W _ => rdiv_zero ua sa sb s W h''.1 h''.2 h'.2⟩
    · exact ⟨_, _, _, fun W hg => div_good ua sa ub sb s W (hP.later hg) h''.1 h''.2 h'.2 a0 a1 b0 b1 hu, fun W _ => rdiv_good ua sa ub sb s W h''.1 h''.2 h'.2 a0 a1 b0 b1 hu⟩

theorem resc_pair (ua sa s : Int) (w : World) (hP : Pw w) (a0 : -9223372036854775808 ≤ ua) (a1 : ua ≤ 9223372036854775807) :
    ∃ pu ps pe : Int, Gives 26 #[dv ua sa, .int .i64 s] w (.tuple #[dv pu ps, .int .i64 pe]) ∧ Gives 27 #[dv ua sa, .int .i64 s] w (.tuple #[dv pu ps, .int .i64 pe]) := by
  cases hr : rightS sa && rightS s
  · exact ⟨0, 0, 1, fun W _ => rescale_bad ua sa s W hr, fun W _ => rrescale_bad ua sa s W hr⟩
  · have h' := Bool.and_eq_true_iff.1 hr
    exact ⟨_, _, _, fun W hg => rescale_good ua sa s W (hP.later hg) h'.1 h'.2 a0 a1, fun W _ => rrescale_good ua sa s W h'.1 h'.2 a0 a1⟩

theorem times_below (ua sa ub sb s : Int) (w : World) (hP : Pw w) (a0 : -9223372036854775808 ≤ ua) (a1 : ua ≤ 9223372036854775807) (b0 : -9223372036854775808 ≤ ub) (b1 : ub ≤ 9223372036854775807) :
    Calls Tryd.prog 4 #[dv ua sa, dv ub sb, .int .i64 s] w fun e w' => e = .returned (.bool true) ∧ Below w.heap.size w w' := by
  obtain ⟨pu, ps, pe, A1, A2⟩ := mul_pair ua sa ub sb w hP a0 a1 b0 b1
  obtain ⟨du, ds, de, S1, S2⟩ := div_pair ua sa ub sb s w hP a0 a1 b0 b1
  obtain ⟨nu, ns, ne, N1, N2⟩ := resc_pair ua sa s w hP a0 a1
  exact (times_core ua sa ub sb s pu ps pe du ds de nu ns ne w (fun W _ => own_any ua sa W) (fun W _ => own_any ub sb W) (fun W h => knows_any W (hP.later h)) (agree_any num_any) A1 A2 S1 S2 N1 N2).mono fun _ _ h => ⟨h.1, h.2.below⟩

set_option maxRecDepth 100000 in
theorem times_lifted (os : Os) (started : os.Started) (H : Type) (enc : TypeId × Value → H) :
    ReturnsInHanded {} Tryd.checked os 4 .any (fun w args => (Rows.decimalTimesSpec.pre enc Tryd.prog Tryd.f4 [] false w args ∧ laidMetH Tryd.prog laid1 w) ∧ sizedMet enc Tryd.prog Tryd.f4 (OpenSpec.ofChange Rows.decimalTimesSpec) false w args)
      (Rows.decimalTimesSpec.post enc Tryd.prog Tryd.f4 false true false false) := by
  refine returnsInHanded_of_change_and (C := Tryd.checked) (X := fun w _ => laidMetH Tryd.prog laid1 w) (fun _ _ _ hh h => h.of_heap hh) own started (by kernel_rfl) Tryd.func4
    (ChangeSpec.witness_shaped (enc := enc) (C := Tryd.checked) (os := os) (X := fun w _ => laidMetH Tryd.prog laid1 w) false (World.doorLaid Tryd.prog 14 os) #[.agg #[.int .i64 0, .int .i64 0], .agg #[.int .i64 0, .int .i64 0], .int .i64 0] 8 rfl (World.shaped_of_RefB (by kernel_rfl) (by kernel_rfl)) (by kernel_rfl) (by kernel_rfl) (by kernel_rfl) (door_met os _)) ?_
  intro W base args ds gs before hval0 hW _ _ hL _
  have hval : ∀ (j : Nat) t v, Tryd.f4.params[j]? = some t → args[j]? = some v → Value.okWide Tryd.prog W .any base t v := hval0
  have hW' := hW
  obtain ⟨p, q, hA0, hV, rfl, hfz, hnd⟩ := hW
  have hA : DataW.TrodAll enc Tryd.prog W 0 (fun _ => true) true Tryd.f4.params.toList args.toList ds p := hA0
  rw [Tryd.params4] at hA hval
  obtain ⟨v0, v1, v2, d0, d1, d2, p0, p1, p2, rfl, rfl, rfl, h0, h1, h2⟩ := trodAll_three hA
  obtain ⟨rfl, rfl⟩ := trodVars_none hV
  obtain ⟨a0, s0, rfl, w0, x0⟩ := open_dec (hval 0 23 v0 rfl rfl) h0
  have b0 := bounds_i64 w0
  have k0 := h0
  have lt0 : ∀ x ∈ p0, x.block < W.heap.size := by obtain ⟨m, hm⟩ := k0; exact DataW.trod_lt m _ _ _ hm
  obtain ⟨a1, s1, rfl, w1, x1⟩ := open_dec (hval 1 23 v1 rfl rfl) h1
  have b1 := bounds_i64 w1
  have k1 := h1
  have lt1 : ∀ x ∈ p1, x.block < W.heap.size := by obtain ⟨m, hm⟩ := k1; exact DataW.trod_lt m _ _ _ hm
  obtain ⟨a2, rfl, rfl, rfl, w2⟩ := open_int Tryd.underlying3 (hval 2 3 v2 rfl rfl) h2
  have b2 := bounds_i64 w2
  clear hA0 hval0
  refine (times_below a0 s0 a1 s1 a2 W (pw_of_laid hL) b0.1 b0.2 b1.1 b1.2).mono fun e W' ⟨he, bel⟩ => ?_
  subst he
  exact ⟨_, rfl, _, _, _, [], _, [], hW', trodAll_mk1 (shut_bool Tryd.underlying4 _), trodAll_mk3 (Below.trod laidOut (by kernel_rfl) (of_decide_eq_true (by kernel_rfl)) k0 bel lt0) (Below.trod laidOut (by kernel_rfl) (of_decide_eq_true (by kernel_rfl)) k1 bel lt1) (shut_int Tryd.underlying3 w2), rfl, bel.frame _, fun h => by cases h⟩

theorem times_said : Rows.DecimalTimesSaid :=
  OpenClaim.holds_of_wide 4 Tryd.f4 rfl rfl rfl rfl rfl rfl rfl ⟨rfl, rfl, rfl, rfl, rfl⟩ rfl rfl rfl rfl rfl (by kernel_rfl) Tryd.func4 (by kernel_rfl)
    (of_decide_eq_true (by kernel_rfl)) (by unfold Func.isWrapper; first | (rw [if_pos (by decide +kernel)]; kernel_rfl) | (rw [if_neg (by decide +kernel)]; exact ⟨rfl, rfl⟩))
    (fun os started H enc _ => times_lifted os started H enc)

theorem decimalTimes_holds : Rows.DecimalTimesCardSaid :=
  Claim7.holds_tied_plain_at .later [] [.data] true _ false
    times_said (fun _ h => by cases h) (by kernel_rfl) (fun _ h => by cases h) decimalTimes_row_tie rfl ⟨rfl, rfl⟩ (by kernel_rfl) rfl
    (fun f fn hf hfn => by
      obtain rfl : f = 4 := Option.some.inj ((show Tryd.prog.funcNamed Tryd.f4.name = some 4 by kernel_rfl).symm.trans hf) |>.symm
      obtain rfl : fn = Tryd.f4 := (Option.some.inj (Tryd.func4.symm.trans hfn)).symm
      exact ⟨by kernel_rfl, fun j t ht => by
        rw [Tryd.params4] at ht
        have hm : t ∈ [23, 23, 3] := by simpa using Array.mem_of_getElem? ht
        have hall : ([23, 23, 3].all fun u => !Tryd.prog.wantsStandIn u) = true := by kernel_rfl
        exact (show Tryd.prog.wantsStandIn t = false by simpa using List.all_eq_true.1 hall t hm)⟩)
    (by kernel_rfl)
#print axioms decimalTimes_holds
end Go.Proofs.YtfbkakchaabgeaaDoor
