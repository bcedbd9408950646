/-
  DecimalBack holds: a decimal is read as it was printed, a text is printed as it was read: for every decimal and every text. Condition: none but the row's own (the table of powers as the program lays it).
-/
import Derived.Test.YtfbkakchaabgeaaDoorDBack
import Derived.Test.YtfbkakchaabgeaaDoorDParse
import Derived.Test.YtfbkakchaabgeaaDoorDText5
import Derived.Test.YtfbkakchaabgeaaDoorDText6
import Derived.Test.YtfbkakchaabgeaaDoorDNeg
import Derived.Test.YtfbkakchaabgeaaDoorDFrm
import Derived.ChangeMaps5
import Derived.SizedLaws
namespace Go.Proofs.YtfbkakchaabgeaaDoor
open Go.ChangeShapes Go.WideShapes Go.ChangeAt Go.WideMaps Go.WideElems Go.RowKit
open Go.ChangeMaps (open_string shut_string)

/-- What Parse answers, in letters: without an error it is what is printed as the text. -/
theorem PV_back (t : List UInt8) : ∃ yu ys ye : Int, PV t = .tuple #[dv yu ys, .int .i64 ye] ∧ (ye = 0 → ∃ s : Nat, ys = (s : Int) ∧ s ≤ 6 ∧ (-9223372036854775808 ≤ yu ∧ yu ≤ 9223372036854775807) ∧ dtext yu s = t) := by
  unfold PV
  cases h : PR t with
  | none => exact ⟨0, 0, 21, rfl, fun h => absurd h (by decide)⟩
  | some x =>
    obtain ⟨b, n, s⟩ := x
    refine ⟨nz (sval b n), fs (sval b n) (s : Int), nErr (sval b n), rfl, fun he => ?_⟩
    have hf : fits (sval b n) = true := by
      unfold nErr at he
      by_cases hf : fits (sval b n) = true
      · exact hf
      · rw [if_neg hf] at he; exact absurd he (by decide)
    obtain ⟨h1, h2⟩ := PR_back t b n s h hf
    have e1 : nz (sval b n) = sval b n := by simp [nz, hf]
    have e2 : fs (sval b n) (s : Int) = (s : Int) := by simp [fs, hf]
    rw [e1, e2]
    exact ⟨s, rfl, h1, (fits_iff _).1 hf, h2⟩

theorem PV_there (u : Int) (s : Nat) (hs : s ≤ 6) (u0 : -9223372036854775808 ≤ u) (u1 : u ≤ 9223372036854775807) : PV (dtext u s) = .tuple #[dv u (s : Int), .int .i64 0] := by
  unfold PV
  rw [PR_there u s hs u0 u1]
  have hf : fits u = true := (fits_iff u).2 ⟨u0, u1⟩
  show dres (sval (decide (u < 0)) u.natAbs) (s : Int) = _
  rw [sval_of]
  have e1 : nz u = u := by simp [nz, hf]
  have e2 : fs u (s : Int) = (s : Int) := by simp [fs, hf]
  have e3 : nErr u = 0 := by simp [nErr, hf]
  show Value.tuple #[dv (nz u) (fs u (s : Int)), .int .i64 (nErr u)] = _
  rw [e1, e2, e3]

theorem dtext_small (u : Int) (s : Nat) (hs : s ≤ 6) (u0 : -9223372036854775808 ≤ u) (u1 : u ≤ 9223372036854775807) : (dtext u s).length ≤ 100 := by
  have h1 := digs_len 18 u.natAbs (by omega)
  have h2 := pad_len s (digs u.natAbs)
  unfold dtext
  rw [List.length_append]
  have a : (if u < 0 then [45] else ([] : List UInt8)).length ≤ 1 := by split <;> simp
  have b : (if s = 0 then pad 0 (digs u.natAbs) else (pad s (digs u.natAbs)).take ((pad s (digs u.natAbs)).length - s) ++ 46 :: (pad s (digs u.natAbs)).drop ((pad s (digs u.natAbs)).length - s)).length ≤ 60 := by
    split
    · rw [pad_len]; omega
    · rw [List.length_append, List.length_cons, List.length_take, List.length_drop]; omega
  omega

theorem back_walk (u s : Int) (T : ByteArray) (w : World) (hP : Pw w) (u0 : -9223372036854775808 ≤ u) (u1 : u ≤ 9223372036854775807) (hT : T.size ≤ 140737488351232) :
    Calls Tryd.prog 8 #[dv u s, .string T] w fun e w' => e = .returned (.bool true) ∧ Grew w w' := by
  obtain ⟨t, rfl⟩ : ∃ t : List UInt8, T = ⟨t.toArray⟩ := ⟨T.data.toList, by cases T; simp⟩
  have ht : t.length ≤ 140737488351232 := hT
  obtain ⟨yu, ys, ye, hv, hy⟩ := PV_back t
  have P2 := fun W => parse_any t W ht
  rw [hv] at P2
  have Py : ye = 0 → Gives 30 #[dv yu ys] w (.string ⟨t.toArray⟩) := by
    intro h W _
    obtain ⟨s', rfl, h6, hb, hd⟩ := hy h
    have := print_good yu s' W h6 hb.1 hb.2
    rw [hd] at this
    exact this
  cases hr : rightS s
  · have Pr := fun W => print_bad u s W hr
    have P1 := fun W => parse_any [] W (by simp)
    exact back_core u s 0 0 21 yu ys ye ⟨#[]⟩ ⟨t.toArray⟩ false w (fun W _ => own_any u s W) (fun W h => knows_any W (hP.later h)) (fun n W => num_any n W) (fun W _ => Pr W) (fun W _ => P1 W) (fun W _ => P2 W)
      (fun W _ => hr ▸ refRight_any u s W) Py (fun h => absurd h (by decide))
  · have hs := (rightS_iff s).1 hr
    obtain ⟨s', rfl⟩ : ∃ s' : Nat, s = (s' : Int) := ⟨s.toNat, by omega⟩
    have hs6 : s' ≤ 6 := by omega
    have Pr := fun W => print_good u s' W hs6 u0 u1
    have P1 := fun W => parse_any (dtext u s') W (by have := dtext_small u s' hs6 u0 u1; omega)
    rw [PV_there u s' hs6 u0 u1] at P1
    exact back_core u (s' : Int) u (s' : Int) 0 yu ys ye _ ⟨t.toArray⟩ true w (fun W _ => own_any u (s' : Int) W) (fun W h => knows_any W (hP.later h)) (fun n W => num_any n W) (fun W _ => Pr W) (fun W _ => P1 W) (fun W _ => P2 W)
      (fun W _ => hr ▸ refRight_any u (s' : Int) W) Py (fun _ => ⟨rfl, rfl, rfl⟩)

theorem back_below (u s : Int) (T : ByteArray) (w : World) (hP : Pw w) (u0 : -9223372036854775808 ≤ u) (u1 : u ≤ 9223372036854775807) (hT : T.size ≤ 140737488351232) :
    Calls Tryd.prog 8 #[dv u s, .string T] w fun e w' => e = .returned (.bool true) ∧ Below w.heap.size w w' :=
  (back_walk u s T w hP u0 u1 hT).mono fun _ _ ⟨h, g⟩ => ⟨h, g.below⟩

set_option maxRecDepth 100000 in
theorem back_lifted (os : Os) (started : os.Started) (H : Type) (enc : TypeId × Value → H) :
    ReturnsInHanded {} Tryd.checked os 8 .any (fun w args => (Rows.decimalBackSpec.pre enc Tryd.prog Tryd.f8 [] false w args ∧ laidMetH Tryd.prog laid1 w) ∧ sizedMet enc Tryd.prog Tryd.f8 (OpenSpec.ofChange Rows.decimalBackSpec) false w args)
      (Rows.decimalBackSpec.post enc Tryd.prog Tryd.f8 false true false false) := by
  refine returnsInHanded_of_change_and (C := Tryd.checked) (X := fun w _ => laidMetH Tryd.prog laid1 w) (fun _ _ _ hh h => h.of_heap hh) own started (by kernel_rfl) Tryd.func8
    (ChangeSpec.witness_shaped (enc := enc) (C := Tryd.checked) (os := os) (X := fun w _ => laidMetH Tryd.prog laid1 w) false (World.doorLaid Tryd.prog 14 os) #[.agg #[.int .i64 0, .int .i64 0], .string ⟨#[]⟩] 8 rfl (World.shaped_of_RefB (by kernel_rfl) (by kernel_rfl)) (by kernel_rfl) (by kernel_rfl) (by kernel_rfl) (door_met os _)) ?_
  intro W base args ds gs before hval0 hW _ hsz0 hL _
  have hval : ∀ (j : Nat) t v, Tryd.f8.params[j]? = some t → args[j]? = some v → Value.okWide Tryd.prog W .any base t v := hval0
  have hsz : (DataW.weightsEach Tryd.prog (Tryd.f8.params.toList ++ Rows.decimalBackSpec.plain.varTypes Tryd.prog) (ds ++ gs)).all (· ≤ reachBytes) = true := hsz0
  have hW' := hW
  obtain ⟨p, q, hA0, hV, rfl, hfz, hnd⟩ := hW
  have hA : DataW.TrodAll enc Tryd.prog W 0 (fun _ => true) true Tryd.f8.params.toList args.toList ds p := hA0
  rw [Tryd.params8] at hA hval hsz
  obtain ⟨v0, v1, d0, d1, p0, p1, rfl, rfl, rfl, h0, h1⟩ := trodAll_two hA
  obtain ⟨rfl, rfl⟩ := trodVars_none hV
  obtain ⟨a0, s0, rfl, w0, x0⟩ := open_dec (hval 0 23 v0 rfl rfl) h0
  have b0 := bounds_i64 w0
  have k0 := h0
  have lt0 : ∀ x ∈ p0, x.block < W.heap.size := by obtain ⟨m, hm⟩ := k0; exact DataW.trod_lt m _ _ _ hm
  obtain ⟨s1, rfl, rfl, rfl, w1⟩ := open_string Tryd.underlying9 (hval 1 9 v1 rfl rfl) h1
  have z1 := sized_string hsz (j := 1) (t := 9) rfl rfl
  clear hA0 hval0 hsz0
  refine (back_below a0 s0 s1 W (pw_of_laid hL) b0.1 b0.2 z1).mono fun e W' ⟨he, bel⟩ => ?_
  subst he
  exact ⟨_, rfl, _, _, _, [], _, [], hW', trodAll_mk1 (shut_bool Tryd.underlying4 _), trodAll_mk2 (Below.trod laidOut (by kernel_rfl) (of_decide_eq_true (by kernel_rfl)) k0 bel lt0) (shut_string Tryd.underlying9 w1), rfl, bel.frame _, fun h => by cases h⟩

theorem back_said : Rows.DecimalBackSaid :=
  OpenClaim.holds_of_wide 8 Tryd.f8 rfl rfl rfl rfl rfl rfl rfl ⟨rfl, rfl, rfl, rfl, rfl⟩ rfl rfl rfl rfl rfl (by kernel_rfl) Tryd.func8 (by kernel_rfl)
    (of_decide_eq_true (by kernel_rfl)) (by unfold Func.isWrapper; first | (rw [if_pos (by decide +kernel)]; kernel_rfl) | (rw [if_neg (by decide +kernel)]; exact ⟨rfl, rfl⟩))
    (fun os started H enc _ => back_lifted os started H enc)

theorem decimalBack_holds : Rows.DecimalBackCardSaid :=
  Claim7.holds_tied_plain_at .later [] [.data] true _ false
    back_said (fun _ h => by cases h) (by kernel_rfl) (fun _ h => by cases h) decimalBack_row_tie rfl ⟨rfl, rfl⟩ (by kernel_rfl) rfl
    (fun f fn hf hfn => by
      obtain rfl : f = 8 := Option.some.inj ((show Tryd.prog.funcNamed Tryd.f8.name = some 8 by kernel_rfl).symm.trans hf) |>.symm
      obtain rfl : fn = Tryd.f8 := (Option.some.inj (Tryd.func8.symm.trans hfn)).symm
      exact ⟨by kernel_rfl, fun j t ht => by
        rw [Tryd.params8] at ht
        have hm : t ∈ [23, 9] := by simpa using Array.mem_of_getElem? ht
        have hall : ([23, 9].all fun u => !Tryd.prog.wantsStandIn u) = true := by kernel_rfl
        exact (show Tryd.prog.wantsStandIn t = false by simpa using List.all_eq_true.1 hall t hm)⟩)
    (by kernel_rfl)
#print axioms decimalBack_holds
end Go.Proofs.YtfbkakchaabgeaaDoor
