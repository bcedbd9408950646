/-
  DecimalTexts holds: the text of any decimal and the decimal of any text are as the document has them: for every decimal and every text. Condition: none but the row's own (the table of powers as the program lays it).
-/
import Derived.Test.YtncpkdgpijempaaDoorDTexts
import Derived.Test.YtncpkdgpijempaaDoorDRefP2
import Derived.Test.YtncpkdgpijempaaDoorDParse
import Derived.Test.YtncpkdgpijempaaDoorDText5
import Derived.Test.YtncpkdgpijempaaDoorDText6
import Derived.Test.YtncpkdgpijempaaDoorDNeg
import Derived.Test.YtncpkdgpijempaaDoorDAgr
import Derived.Test.YtncpkdgpijempaaDoorDFrm
import Derived.ChangeMaps5
import Derived.SizedLaws
namespace Go.Proofs.YtncpkdgpijempaaDoor
open Go.ChangeShapes Go.WideShapes Go.ChangeAt Go.WideMaps Go.WideElems Go.RowKit
open Go.ChangeMaps (open_string shut_string)

theorem PV_form (t : List UInt8) : ∃ yu ys ye : Int, PV t = .tuple #[dv yu ys, .int .i64 ye] := by
  unfold PV
  cases h : PR t with
  | none => exact ⟨0, 0, 21, rfl⟩
  | some x =>
    obtain ⟨b, n, s⟩ := x
    exact ⟨nz (sval b n), fs (sval b n) (s : Int), nErr (sval b n), rfl⟩

theorem texts_walk (u s : Int) (T : ByteArray) (w : World) (hP : Pw w) (u0 : -9223372036854775808 ≤ u) (u1 : u ≤ 9223372036854775807) (hT : T.size ≤ 140737488351232) :
    Calls Tryd.prog 3 #[dv u s, .string T] w fun e w' => e = .returned (.bool true) ∧ Grew w w' := by
  obtain ⟨⟨t⟩⟩ := T
  have ht : t.length ≤ 140737488351232 := hT
  obtain ⟨yu, ys, ye, hy⟩ := PV_form t
  have P1 := fun W => parse_any t W ht
  have P2 := fun W => rparse_all t W ht
  rw [hy] at P1 P2
  have Ag := fun W => agree_any (fun n W => num_any n W) yu ys ye W
  cases hr : rightS s with
  | false => exact texts_core u s yu ys ye ⟨#[]⟩ ⟨t.toArray⟩ w (fun W _ => own_any u s W) (fun W h => knows_any W (hP.later h)) (fun W _ => print_bad u s W hr) (fun W _ => rprint_bad u s W hr) (fun W _ => P1 W) (fun W _ => P2 W) (fun W _ => Ag W)
  | true =>
    have hs := (rightS_iff s).1 hr
    obtain ⟨s', rfl⟩ : ∃ s' : Nat, s = (s' : Int) := ⟨s.toNat, by omega⟩
    exact texts_core u (s' : Int) yu ys ye _ ⟨t.toArray⟩ w (fun W _ => own_any u (s' : Int) W) (fun W h => knows_any W (hP.later h)) (fun W _ => print_good u s' W (by omega) u0 u1) (fun W _ => rprint_good u s' W (by omega) u0 u1) (fun W _ => P1 W) (fun W _ => P2 W) (fun W _ => Ag W)

theorem texts_below (u s : Int) (T : ByteArray) (w : World) (hP : Pw w) (u0 : -9223372036854775808 ≤ u) (u1 : u ≤ 9223372036854775807) (hT : T.size ≤ 140737488351232) :
    Calls Tryd.prog 3 #[dv u s, .string T] w fun e w' => e = .returned (.bool true) ∧ Below w.heap.size w w' :=
  (texts_walk u s T w hP u0 u1 hT).mono fun _ _ ⟨h, g⟩ => ⟨h, g.below⟩


set_option maxRecDepth 100000 in
theorem texts_lifted (os : Os) (started : os.Started) (H : Type) (enc : TypeId × Value → H) :
    ReturnsInHanded {} Tryd.checked os 3 .any (fun w args => (Rows.decimalTextsSpec.pre enc Tryd.prog Tryd.f3 [] false w args ∧ laidMetH Tryd.prog laid1 w) ∧ sizedMet enc Tryd.prog Tryd.f3 (OpenSpec.ofChange Rows.decimalTextsSpec) false w args)
      (Rows.decimalTextsSpec.post enc Tryd.prog Tryd.f3 false true false false) := by
  refine returnsInHanded_of_change_and (C := Tryd.checked) (X := fun w _ => laidMetH Tryd.prog laid1 w) (fun _ _ _ hh h => h.of_heap hh) own started (by kernel_rfl) Tryd.func3
    (ChangeSpec.witness_shaped (enc := enc) (C := Tryd.checked) (os := os) (X := fun w _ => laidMetH Tryd.prog laid1 w) false (World.doorLaid Tryd.prog 14 os) #[.agg #[.int .i64 0, .int .i64 0], .string ⟨#[]⟩] 8 rfl (World.shaped_of_RefB (by kernel_rfl) (by kernel_rfl)) (by kernel_rfl) (by kernel_rfl) (by kernel_rfl) (door_met os _)) ?_
  intro W base args ds gs before hval0 hW _ hsz0 hL _
  have hval : ∀ (j : Nat) t v, Tryd.f3.params[j]? = some t → args[j]? = some v → Value.okWide Tryd.prog W .any base t v := hval0
  have hsz : (DataW.weightsEach Tryd.prog (Tryd.f3.params.toList ++ Rows.decimalTextsSpec.plain.varTypes Tryd.prog) (ds ++ gs)).all (· ≤ reachBytes) = true := hsz0
  have hW' := hW
  obtain ⟨p, q, hA0, hV, rfl, hfz, hnd⟩ := hW
  have hA : DataW.TrodAll enc Tryd.prog W 0 (fun _ => true) true Tryd.f3.params.toList args.toList ds p := hA0
  rw [Tryd.params3] at hA hval hsz
  obtain ⟨v0, v1, d0, d1, p0, p1, rfl, rfl, rfl, h0, h1⟩ := trodAll_two hA
  obtain ⟨rfl, rfl⟩ := trodVars_none hV
  obtain ⟨a0, s0, rfl, w0, x0⟩ := open_dec (hval 0 23 v0 rfl rfl) h0
  have b0 := bounds_i64 w0
  have k0 := h0
  have lt0 : ∀ x ∈ p0, x.block < W.heap.size := by obtain ⟨m, hm⟩ := k0; exact DataW.trod_lt m _ _ _ hm
  obtain ⟨s1, rfl, rfl, rfl, w1⟩ := open_string Tryd.underlying9 (hval 1 9 v1 rfl rfl) h1
  have z1 := sized_string hsz (j := 1) (t := 9) rfl rfl
  clear hA0 hval0 hsz0
  refine (texts_below a0 s0 s1 W (pw_of_laid hL) b0.1 b0.2 z1).mono fun e W' ⟨he, bel⟩ => ?_
  subst he
  exact ⟨_, rfl, _, _, _, [], _, [], hW', trodAll_mk1 (shut_bool Tryd.underlying4 _), trodAll_mk2 (Below.trod laidOut (by kernel_rfl) (of_decide_eq_true (by kernel_rfl)) k0 bel lt0) (shut_string Tryd.underlying9 w1), rfl, bel.frame _, fun h => by cases h⟩

theorem texts_said : Rows.DecimalTextsSaid :=
  OpenClaim.holds_of_wide 3 Tryd.f3 rfl rfl rfl rfl rfl rfl rfl ⟨rfl, rfl, rfl, rfl, rfl⟩ rfl rfl rfl rfl rfl (by kernel_rfl) Tryd.func3 (by kernel_rfl)
    (of_decide_eq_true (by kernel_rfl)) (by unfold Func.isWrapper; first | (rw [if_pos (by decide +kernel)]; kernel_rfl) | (rw [if_neg (by decide +kernel)]; exact ⟨rfl, rfl⟩))
    (fun os started H enc _ => texts_lifted os started H enc)

theorem decimalTexts_holds : Rows.DecimalTextsCardSaid :=
  Claim7.holds_tied_plain_at .later [] [.data] true _ false
    texts_said (fun _ h => by cases h) (by kernel_rfl) (fun _ h => by cases h) decimalTexts_row_tie rfl ⟨rfl, rfl⟩ (by kernel_rfl) rfl
    (fun f fn hf hfn => by
      obtain rfl : f = 3 := Option.some.inj ((show Tryd.prog.funcNamed Tryd.f3.name = some 3 by kernel_rfl).symm.trans hf) |>.symm
      obtain rfl : fn = Tryd.f3 := (Option.some.inj (Tryd.func3.symm.trans hfn)).symm
      exact ⟨by kernel_rfl, fun j t ht => by
        rw [Tryd.params3] at ht
        have hm : t ∈ [23, 9] := by simpa using Array.mem_of_getElem? ht
        have hall : ([23, 9].all fun u => !Tryd.prog.wantsStandIn u) = true := by kernel_rfl
        exact (show Tryd.prog.wantsStandIn t = false by simpa using List.all_eq_true.1 hall t hm)⟩)
    (by kernel_rfl)
#print axioms decimalTexts_holds
end Go.Proofs.YtncpkdgpijempaaDoor
