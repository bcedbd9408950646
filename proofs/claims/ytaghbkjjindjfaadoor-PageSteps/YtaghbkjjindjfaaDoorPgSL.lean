/-
  PageSteps: what Insert, Update and Delete make of any bytes, any slot and any record is just what the document says, with its error, and no argument is changed: for every three arguments the law answers true, and they read as they did. Its conditions: those of the row itself alone (the table of sums lies as the text of the program lays it; the card ties it).
-/
import Derived.Test.YtaghbkjjindjfaaDoorPgFrB
import Derived.Test.YtaghbkjjindjfaaDoorCards
import Derived.Test.YtaghbkjjindjfaaDoorTie
namespace Go.Proofs.YtaghbkjjindjfaaDoor
open Go.ChangeShapes Go.WideShapes Go.ChangeAt Go.WideMaps Go.WideElems Go.RowKit

set_option maxRecDepth 100000 in
theorem steps_lifted (os : Os) (started : os.Started) (H : Type) (enc : TypeId × Value → H) :
    ReturnsInHanded {} Tryd.checked os 4 .any (fun w args => (Rows.pageStepsSpec.pre enc Tryd.prog Tryd.f4 [] false w args ∧ laidMetH Tryd.prog laid1 w) ∧ sizedMet enc Tryd.prog Tryd.f4 (OpenSpec.ofChange Rows.pageStepsSpec) false w args)
      (Rows.pageStepsSpec.post enc Tryd.prog Tryd.f4 false true false false) := by
  refine returnsInHanded_of_change_and (C := Tryd.checked) (X := fun w _ => laidMetH Tryd.prog laid1 w) (fun _ _ _ hh h => h.of_heap hh) own started (by kernel_rfl) Tryd.func4
    (ChangeSpec.witness_shaped (enc := enc) (C := Tryd.checked) (os := os) (X := fun w _ => laidMetH Tryd.prog laid1 w) false (World.doorLaid Tryd.prog 14 os) #[.slice none 0 0, .slice none 0 0, .int .i64 0] 8 rfl (World.shaped_of_RefB (by kernel_rfl) (by kernel_rfl)) (by kernel_rfl) (by kernel_rfl) (by kernel_rfl) (door_met os _)) ?_
  intro W base args ds gs before hval0 hW _ hsz0 hL _
  have hval : ∀ (j : Nat) t v, Tryd.f4.params[j]? = some t → args[j]? = some v → Value.okWide Tryd.prog W .any base t v := hval0
  have hsz : (DataW.weightsEach Tryd.prog (Tryd.f4.params.toList ++ Rows.pageStepsSpec.plain.varTypes Tryd.prog) (ds ++ gs)).all (· ≤ reachBytes) = true := hsz0
  have hW' := hW
  obtain ⟨p, q, hA0, hV, rfl, hfz, hnd⟩ := hW
  have hA : DataW.TrodAll enc Tryd.prog W 0 (fun _ => true) true Tryd.f4.params.toList args.toList ds p := hA0
  rw [Tryd.params4] at hA hval hsz
  obtain ⟨v0, v1, v2, d0, d1, d2, p0, p1, p2, rfl, rfl, rfl, h0, h1, h2⟩ := trodAll_three hA
  obtain ⟨rfl, rfl⟩ := trodVars_none hV
  obtain ⟨x0, n0, c0, rfl⟩ := okWide_slice Tryd.underlying22 (hval 0 22 v0 rfl rfl)
  have k0 := h0
  have lt0 : ∀ x ∈ p0, x.block < W.heap.size := by obtain ⟨m, hm⟩ := k0; exact DataW.trod_lt m _ _ _ hm
  obtain ⟨f0, hf0⟩ := h0
  obtain ⟨g0, r0, e0⟩ := rd_open (a := x0) (len := n0) (cap := c0) hf0 (by simp [Value.cells])
  have z0 : c0 * Tryd.prog.bytesOf 5 ≤ 140737488351232 := by
    rcases e0 with h | ⟨es, sp, hd, hl⟩
    · rw [h]; simp
    · have hd0 : d0 = .slice es sp := hd
      rw [← hl]; exact sized_slice hsz (j := 0) (t := 22) (e := 5) rfl (by simp [hd0]) Tryd.underlying22
  obtain ⟨x1, n1, c1, rfl⟩ := okWide_slice Tryd.underlying22 (hval 1 22 v1 rfl rfl)
  have k1 := h1
  have lt1 : ∀ x ∈ p1, x.block < W.heap.size := by obtain ⟨m, hm⟩ := k1; exact DataW.trod_lt m _ _ _ hm
  obtain ⟨f1, hf1⟩ := h1
  obtain ⟨g1, r1, e1⟩ := rd_open (a := x1) (len := n1) (cap := c1) hf1 (by simp [Value.cells])
  have z1 : c1 * Tryd.prog.bytesOf 5 ≤ 140737488351232 := by
    rcases e1 with h | ⟨es, sp, hd, hl⟩
    · rw [h]; simp
    · have hd0 : d1 = .slice es sp := hd
      rw [← hl]; exact sized_slice hsz (j := 1) (t := 22) (e := 5) rfl (by simp [hd0]) Tryd.underlying22
  obtain ⟨a2, rfl, rfl, rfl, w2⟩ := open_int Tryd.underlying3 (hval 2 3 v2 rfl rfl) h2
  have b2 := bounds_i64 w2
  clear hA0 hval0 hsz0
  refine (steps_all x0 n0 c0 g0 x1 n1 c1 g1 a2 W (tab_of_laid hL) r0 r1 (by have h1 := r0.2.1; have h2 := z0; have e : Tryd.prog.bytesOf 5 = 1 := (by kernel_rfl); rw [e] at h2; omega) (by have h1 := r1.2.1; have h2 := z1; have e : Tryd.prog.bytesOf 5 = 1 := (by kernel_rfl); rw [e] at h2; omega)).mono fun e W' ⟨he, bel⟩ => ?_
  subst he
  exact ⟨_, rfl, _, _, _, [], _, [], hW', trodAll_mk1 (shut_bool Tryd.underlying4 _), trodAll_mk3 (Below.trod laidOut (by kernel_rfl) (of_decide_eq_true (by kernel_rfl)) k0 bel lt0) (Below.trod laidOut (by kernel_rfl) (of_decide_eq_true (by kernel_rfl)) k1 bel lt1) (shut_int Tryd.underlying3 w2), rfl, bel.frame _, fun h => by cases h⟩

theorem steps_said : Rows.PageStepsSaid :=
  OpenClaim.holds_of_wide 4 Tryd.f4 rfl rfl rfl rfl rfl rfl rfl ⟨rfl, rfl, rfl, rfl, rfl⟩ rfl rfl rfl rfl rfl (by kernel_rfl) Tryd.func4 (by kernel_rfl)
    (of_decide_eq_true (by kernel_rfl)) (by unfold Func.isWrapper; first | (rw [if_pos (by decide +kernel)]; kernel_rfl) | (rw [if_neg (by decide +kernel)]; exact ⟨rfl, rfl⟩))
    (fun os started H enc _ => steps_lifted os started H enc)

theorem pageSteps_holds : Rows.PageStepsCardSaid :=
  Claim7.holds_tied_plain_at .later [] [.data] true _ false
    steps_said (fun _ h => by cases h) (by kernel_rfl) (fun _ h => by cases h) pageSteps_row_tie rfl ⟨rfl, rfl⟩ (by kernel_rfl) rfl
    (fun f fn hf hfn => by
      obtain rfl : f = 4 := Option.some.inj ((show Tryd.prog.funcNamed Tryd.f4.name = some 4 by kernel_rfl).symm.trans hf) |>.symm
      obtain rfl : fn = Tryd.f4 := (Option.some.inj (Tryd.func4.symm.trans hfn)).symm
      exact ⟨by kernel_rfl, fun j t ht => by
        rw [Tryd.params4] at ht
        have hm : t ∈ [22, 22, 3] := by simpa using Array.mem_of_getElem? ht
        have hall : ([22, 22, 3].all fun u => !Tryd.prog.wantsStandIn u) = true := by kernel_rfl
        exact (show Tryd.prog.wantsStandIn t = false by simpa using List.all_eq_true.1 hall t hm)⟩)
    (by kernel_rfl)
#print axioms pageSteps_holds
end Go.Proofs.YtaghbkjjindjfaaDoor
