/-
  DecimalOrder holds: of decimals there is one order, and a greater scale does not change it: for every three decimals and every scale. Condition: none but the row's own (the table of powers as the program lays it).
-/
import Derived.Test.YtfbkakchaabgeabDoorDFrm
import Derived.Test.YtfbkakchaabgeabDoorDOrder
import Derived.Test.YtfbkakchaabgeabDoorDOrderP
import Derived.Test.YtfbkakchaabgeabDoorDNeg
import Derived.Test.YtfbkakchaabgeabDoorDPower
import Derived.Carry
namespace Go.Proofs.YtfbkakchaabgeabDoor
open Go.ChangeShapes Go.WideShapes Go.ChangeAt Go.WideMaps Go.WideElems Go.RowKit

theorem order_below (ua sa ub sb uc sc scl : Int) (w : World) (hP : Pw w) (a0 : -9223372036854775808 ≤ ua) (a1 : ua ≤ 9223372036854775807) (b0 : -9223372036854775808 ≤ ub) (b1 : ub ≤ 9223372036854775807) (c0 : -9223372036854775808 ≤ uc) (c1 : uc ≤ 9223372036854775807) :
    Calls Tryd.prog 3 #[dv ua sa, dv ub sb, dv uc sc, .int .i64 scl] w fun e w' => e = .returned (.bool true) ∧ Below w.heap.size w w' := by
  have K : Gives 7 #[] w (.bool true) := fun W h => knows_any W (hP.later h)
  have Ra : Gives 6 #[dv ua sa] w (.bool (rightS sa)) := fun W _ => refRight_any ua sa W
  have Rb : Gives 6 #[dv ub sb] w (.bool (rightS sb)) := fun W _ => refRight_any ub sb W
  have Rc : Gives 6 #[dv uc sc] w (.bool (rightS sc)) := fun W _ => refRight_any uc sc W
  cases hx : rightS sa && rightS sb && rightS sc
  · exact (order_bad ua sa ub sb uc sc scl _ _ _ w hx K Ra Rb Rc).mono fun _ _ h => ⟨h.1, h.2.below⟩
  · have h1 := Bool.and_eq_true_iff.1 hx
    have h2 := Bool.and_eq_true_iff.1 h1.1
    rw [h2.1] at Ra
    rw [h2.2] at Rb
    rw [h1.2] at Rc
    obtain ⟨ab, bc, ac, du, ds, ee, AB, BC, AC, BA, q1, q2, q3, q4, q5, Rs, C1, C2⟩ := order_facts ua sa ub sb uc sc scl w hP h2.1 h2.2 h1.2 a0 a1 b0 b1 c0 c1
    exact (order_core ua sa ub sb uc sc scl ab bc ac du ds ee w (fun W _ => own_any ua sa W) (fun W _ => own_any ub sb W) (fun W _ => own_any uc sc W) num_any K Ra Rb Rc AB BC AC BA q1 q2 q3 q4 q5 Rs C1 C2).mono fun _ _ h => ⟨h.1, h.2.below⟩

set_option maxRecDepth 100000 in
theorem order_lifted (os : Os) (started : os.Started) (H : Type) (enc : TypeId × Value → H) :
    ReturnsInHanded {} Tryd.checked os 3 .any (fun w args => (Rows.decimalOrderSpec.pre enc Tryd.prog Tryd.f3 [] false w args ∧ laidMetH Tryd.prog laid1 w) ∧ sizedMet enc Tryd.prog Tryd.f3 (OpenSpec.ofChange Rows.decimalOrderSpec) false w args)
      (Rows.decimalOrderSpec.post enc Tryd.prog Tryd.f3 false true false false) := by
  refine returnsInHanded_of_change_and (C := Tryd.checked) (X := fun w _ => laidMetH Tryd.prog laid1 w) (fun _ _ _ hh h => h.of_heap hh) own started (by kernel_rfl) Tryd.func3
    (ChangeSpec.witness_shaped (enc := enc) (C := Tryd.checked) (os := os) (X := fun w _ => laidMetH Tryd.prog laid1 w) false (World.doorLaid Tryd.prog 14 os) #[.agg #[.int .i64 0, .int .i64 0], .agg #[.int .i64 0, .int .i64 0], .agg #[.int .i64 0, .int .i64 0], .int .i64 0] 8 rfl (World.shaped_of_RefB (by kernel_rfl) (by kernel_rfl)) (by kernel_rfl) (by kernel_rfl) (by kernel_rfl) (door_met os _)) ?_
  intro W base args ds gs before hval0 hW _ _ hL _
  have hval : ∀ (j : Nat) t v, Tryd.f3.params[j]? = some t → args[j]? = some v → Value.okWide Tryd.prog W .any base t v := hval0
  have hW' := hW
  obtain ⟨p, q, hA0, hV, rfl, hfz, hnd⟩ := hW
  have hA : DataW.TrodAll enc Tryd.prog W 0 (fun _ => true) true Tryd.f3.params.toList args.toList ds p := hA0
  rw [Tryd.params3] at hA hval
  obtain ⟨v0, v1, v2, v3, d0, d1, d2, d3, p0, p1, p2, p3, rfl, rfl, rfl, h0, h1, h2, h3⟩ := trodAll_four hA
  obtain ⟨rfl, rfl⟩ := trodVars_none hV
  obtain ⟨a0, s0, rfl, w0, x0⟩ := open_dec (hval 0 23 v0 rfl rfl) h0
  have b0 := bounds_i64 w0
  have k0 := h0
  have lt0 : ∀ x ∈ p0, x.block < W.heap.size := by obtain ⟨m, hm⟩ := k0; exact DataW.trod_lt m _ _ _ hm
  obtain ⟨a1, s1, rfl, w1, x1⟩ := open_dec (hval 1 23 v1 rfl rfl) h1
  have b1 := bounds_i64 w1
  have k1 := h1
  have lt1 : ∀ x ∈ p1, x.block < W.heap.size := by obtain ⟨m, hm⟩ := k1; exact DataW.trod_lt m _ _ _ hm
  obtain ⟨a2, s2, rfl, w2, x2⟩ := open_dec (hval 2 23 v2 rfl rfl) h2
  have b2 := bounds_i64 w2
  have k2 := h2
  have lt2 : ∀ x ∈ p2, x.block < W.heap.size := by obtain ⟨m, hm⟩ := k2; exact DataW.trod_lt m _ _ _ hm
  obtain ⟨a3, rfl, rfl, rfl, w3⟩ := open_int Tryd.underlying3 (hval 3 3 v3 rfl rfl) h3
  have b3 := bounds_i64 w3
  clear hA0 hval0
  refine (order_below a0 s0 a1 s1 a2 s2 a3 W (pw_of_laid hL) b0.1 b0.2 b1.1 b1.2 b2.1 b2.2).mono fun e W' ⟨he, bel⟩ => ?_
  subst he
  exact ⟨_, rfl, _, _, _, [], _, [], hW', trodAll_mk1 (shut_bool Tryd.underlying4 _), trodAll_mk4 (Below.trod laidOut (by kernel_rfl) (of_decide_eq_true (by kernel_rfl)) k0 bel lt0) (Below.trod laidOut (by kernel_rfl) (of_decide_eq_true (by kernel_rfl)) k1 bel lt1) (Below.trod laidOut (by kernel_rfl) (of_decide_eq_true (by kernel_rfl)) k2 bel lt2) (shut_int Tryd.underlying3 w3), rfl, bel.frame _, fun h => by cases h⟩

theorem order_said : Rows.DecimalOrderSaid :=
  OpenClaim.holds_of_wide 3 Tryd.f3 rfl rfl rfl rfl rfl rfl rfl ⟨rfl, rfl, rfl, rfl, rfl⟩ rfl rfl rfl rfl rfl (by kernel_rfl) Tryd.func3 (by kernel_rfl)
    (of_decide_eq_true (by kernel_rfl)) (by unfold Func.isWrapper; first | (rw [if_pos (by decide +kernel)]; kernel_rfl) | (rw [if_neg (by decide +kernel)]; exact ⟨rfl, rfl⟩))
    (fun os started H enc _ => order_lifted os started H enc)

theorem decimalOrder_holds : Rows.DecimalOrderCardSaid :=
  Claim7.holds_tied_plain_at .later [] [.data] true _ false
    order_said (fun _ h => by cases h) (by kernel_rfl) (fun _ h => by cases h) decimalOrder_row_tie rfl ⟨rfl, rfl⟩ (by kernel_rfl) rfl
    (fun f fn hf hfn => by
      obtain rfl : f = 3 := Option.some.inj ((show Tryd.prog.funcNamed Tryd.f3.name = some 3 by kernel_rfl).symm.trans hf) |>.symm
      obtain rfl : fn = Tryd.f3 := (Option.some.inj (Tryd.func3.symm.trans hfn)).symm
      exact ⟨by kernel_rfl, fun j t ht => by
        rw [Tryd.params3] at ht
        have hm : t ∈ [23, 23, 23, 3] := by simpa using Array.mem_of_getElem? ht
        have hall : ([23, 23, 23, 3].all fun u => !Tryd.prog.wantsStandIn u) = true := by kernel_rfl
        exact (show Tryd.prog.wantsStandIn t = false by simpa using List.all_eq_true.1 hall t hm)⟩)
    (by kernel_rfl)
#print axioms decimalOrder_holds
end Go.Proofs.YtfbkakchaabgeabDoor
