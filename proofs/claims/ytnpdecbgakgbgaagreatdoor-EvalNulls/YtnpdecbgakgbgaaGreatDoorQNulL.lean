/-
  EvalNulls for every op and every value: what is reckoned with a Null is Null; it is null, and nothing is equal to it.
-/
import Derived.Test.YtnpdecbgakgbgaaGreatDoorMpHPlain
import Derived.Test.YtnpdecbgakgbgaaGreatDoorQNul
namespace Go.Proofs.YtnpdecbgakgbgaaGreatDoor
open Go.ChangeShapes Go.WideShapes Go.ChangeAt Go.WideMaps Go.WideElems Go.RowKit Go.Shelf Go.Lib

theorem bin_nul (o : Int) (a : Va) (h1 : 6 ≤ o) (h2 : o ≤ 16) (hr : vr a = true) : binR o a nul = (nul, 0) ∧ binR o nul a = (nul, 0) := by
  have hn : vr nul = true := vr_of (by simp [vok, nul])
  unfold binR
  rw [if_neg (by simp [hr, hn]; omega), if_neg (by omega), if_pos (by simp [nul]), if_neg (by simp [hr, hn]; omega), if_neg (by omega), if_pos (by simp [nul])]
  exact ⟨rfl, rfl⟩
theorem un_nul (a : Va) (hr : vr a = true) : unR 5 a = (vB (a.k == 0), 0) ∧ unR 3 nul = (nul, 0) := by
  have hn : vr nul = true := vr_of (by simp [vok, nul])
  unfold unR
  rw [if_neg (by simp [hr]), if_pos rfl, if_neg (by simp [hn]), if_neg (by decide), if_neg (by decide)]
  exact ⟨rfl, rfl⟩
theorem vin_nul : vin nul := ⟨⟨by decide, by decide⟩, ⟨by decide, by decide⟩⟩

theorem nulls_walk (op : Int) (a : Va) (w : World) (hT : Tabs w) (hP : Pw w) (ia : vin a) :
    Calls Tryz.prog 8 #[.int .i64 op, vv a] w fun e w' => e = .returned (.bool true) ∧ Below w.heap.size w w' := by
  have K : Tells 21 #[] w (.bool true) := fun W h => knows7_any W (hT.later h) (hP.below h)
  have R : Tells 26 #[vv a] w (.bool (vr a)) := fun W _ => rright_any a.k a.n a.m ⟨a.b.toArray⟩ W
  cases hr : vr a
  · rw [hr] at R
    exact nulls_bad op a.k a.n a.m a.b w R K
  · rw [hr] at R
    obtain ⟨o, l0, l1, ho, t0, t1, t2, t3⟩ := op_nul op
    obtain ⟨e1, e2⟩ := bin_nul o a l0 l1 hr
    obtain ⟨e3, e4⟩ := un_nul a hr
    refine nulls_good op o (if a.k == 0 then 1 else 0) a.k a.n a.m a.b w R K (by rw [IntKind.wrap_i64]; omega) (by rw [IntKind.wrap_i64]; omega) (fun W h => ?_) (fun W h => ?_) (fun W h => ?_) (fun W h => ?_) ?_
    · have := qbin_any o a nul W (hT.later h) (hP.below h) ia vin_nul
      rw [e1] at this
      exact this
    · have := qbin_any o nul a W (hT.later h) (hP.below h) vin_nul ia
      rw [e2] at this
      exact this
    · have := qun_any 5 a W (hT.later h) (hP.below h) ia
      rw [e3] at this
      exact this
    · have := qun_any 3 nul W (hT.later h) (hP.below h) vin_nul
      rw [e4] at this
      exact this
    · cases a.k == 0 <;> rfl

set_option maxRecDepth 100000 in
theorem nul_lifted (os : Os) (started : os.Started) (H : Type) (enc : TypeId × Value → H) :
    ReturnsInHanded {} Tryz.checked os 8 .any (fun w args => (Rows.evalNullsSpec.pre enc Tryz.prog Tryz.f8 [] false w args ∧ laidMetH Tryz.prog Rows.evalNullsRow.laid w) ∧ sizedMet enc Tryz.prog Tryz.f8 (OpenSpec.ofChange Rows.evalNullsSpec) false w args)
      (Rows.evalNullsSpec.post enc Tryz.prog Tryz.f8 false true false false) := by
  refine returnsInHanded_of_change_and (C := Tryz.checked) (X := fun w _ => laidMetH Tryz.prog Rows.evalNullsRow.laid w) (fun _ _ _ hh h => h.of_heap hh) own started (by kernel_rfl) Tryz.func8
    (ChangeSpec.witness_shaped (enc := enc) (C := Tryz.checked) (os := os) (X := fun w _ => laidMetH Tryz.prog Rows.evalNullsRow.laid w) false (World.laidAll Tryz.prog os Rows.evalNullsRow.laid) #[.int .i64 0, .agg #[.int .i64 0, .int .i64 0, .int .i64 0, .string ⟨#[]⟩]] 8 (World.laidAll_os _ _ _)
      (World.shaped_of_ZipB (by kernel_rfl) (by kernel_rfl)) (by kernel_rfl) (by kernel_rfl) (by kernel_rfl)
      (by rw [MakeChecks.laidMetH_plain _ _ _ (by kernel_rfl)]; exact laidMet_laidAll _ (by kernel_rfl) (by kernel_rfl))) ?_
  intro W base args ds gs before hval0 hW _ _ hL _
  have hval : ∀ (j : Nat) t v, Tryz.f8.params[j]? = some t → args[j]? = some v → Value.okWide Tryz.prog W .any base t v := hval0
  have hW' := hW
  obtain ⟨p, q, hA0, hV, rfl, hfz, hnd⟩ := hW
  have hA : DataW.TrodAll enc Tryz.prog W 0 (fun _ => true) true Tryz.f8.params.toList args.toList ds p := hA0
  rw [Tryz.params8] at hA hval
  obtain ⟨v0, v1, d0, d1, p0, p1, rfl, rfl, rfl, h0, h1⟩ := trodAll_two hA
  obtain ⟨rfl, rfl⟩ := trodVars_none hV
  obtain ⟨a0, rfl, rfl, rfl, w0⟩ := open_int Tryz.underlying3 (hval 0 3 v0 rfl rfl) h0
  have b0 := bounds_i64 w0
  obtain ⟨cs1, rfl, _⟩ := okWide_struct Tryz.underlying30 (hval 1 30 v1 rfl rfl)
  have k1 := h1
  have lt1 : ∀ x ∈ p1, x.block < W.heap.size := by obtain ⟨m, hm⟩ := k1; exact DataW.trod_lt m _ _ _ hm
  obtain ⟨f1, hf1⟩ := h1
  obtain ⟨x1, ex1, vi1, ki1, bl1⟩ := val_cells hf1
  obtain rfl : cs1 = #[.int .i64 x1.k, .int .i64 x1.n, .int .i64 x1.m, .string ⟨x1.b.toArray⟩] := by obtain ⟨l⟩ := cs1; exact congrArg List.toArray ex1
  clear hA0 hval0
  rw [MakeChecks.laidMetH_plain _ _ _ (by kernel_rfl)] at hL
  have hT : Tabs W := tabs_of (Lib.laidMet.reads hL (.tail _ (.tail _ (.head _)))) (Lib.laidMet.reads hL (.head _))
  have hPw : Pw W := pw_of (Lib.laidMet.reads hL (.tail _ (.head _)))
  refine (nulls_walk a0 x1 W hT hPw vi1).mono fun e W' ⟨he, bel⟩ => ?_
  subst he
  exact ⟨_, rfl, _, _, _, [], _, [], hW', trodAll_mk1 (shut_bool Tryz.underlying4 _), trodAll_mk2 (shut_int Tryz.underlying3 w0) (Below.trod laidOut (by kernel_rfl) (of_decide_eq_true (by kernel_rfl)) k1 bel lt1), rfl, bel.frame _, fun h => by cases h⟩

theorem nul_said : Rows.EvalNullsSaid :=
  OpenClaim.holds_of_wide 8 Tryz.f8 rfl rfl rfl rfl rfl rfl rfl ⟨rfl, rfl, rfl, rfl, rfl⟩ rfl rfl rfl rfl rfl (by kernel_rfl) Tryz.func8 (by kernel_rfl)
    (of_decide_eq_true (by kernel_rfl)) (by unfold Func.isWrapper; first | (rw [if_pos (by decide +kernel)]; kernel_rfl) | (rw [if_neg (by decide +kernel)]; exact ⟨rfl, rfl⟩))
    (fun os started H enc _ => nul_lifted os started H enc)

theorem evalNulls_holds : Rows.EvalNullsCardSaid :=
  Claim7.holds_tied_plain_at .later [] [.data, .data, .pinned] true _ true
    nul_said (fun _ h => by cases h) (by kernel_rfl) (fun _ h => by cases h) evalNulls_row_tie rfl ⟨rfl, rfl⟩ (by kernel_rfl) rfl
    (fun f fn hf hfn => by
      obtain rfl : f = 8 := Option.some.inj ((show Tryz.prog.funcNamed Tryz.f8.name = some 8 by kernel_rfl).symm.trans hf) |>.symm
      obtain rfl : fn = Tryz.f8 := (Option.some.inj (Tryz.func8.symm.trans hfn)).symm
      exact ⟨by kernel_rfl, fun j t ht => by
        rw [Tryz.params8] at ht
        have hm : t ∈ [3, 30] := by simpa using Array.mem_of_getElem? ht
        have hall : ([3, 30].all fun u => !Tryz.prog.wantsStandIn u) = true := by kernel_rfl
        exact (show Tryz.prog.wantsStandIn t = false by simpa using List.all_eq_true.1 hall t hm)⟩)
    (by kernel_rfl)
#print axioms evalNulls_holds
end Go.Proofs.YtnpdecbgakgbgaaGreatDoor
