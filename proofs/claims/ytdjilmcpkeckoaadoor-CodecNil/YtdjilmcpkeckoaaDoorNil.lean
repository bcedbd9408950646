/-
  The claim: CodecNil answers true: of no Reader, and of one that nobody made, Number, Text and Left answer 0, the empty text and 0, Err and Done answer ErrArg (its tied card: the program's table of sums lies as the program's text lays it).
-/
import Derived.Test.YtdjilmcpkeckoaaDoorFrm
import Derived.Test.YtdjilmcpkeckoaaDoorCards
import Derived.Test.YtdjilmcpkeckoaaDoorTie
namespace Go.Proofs.YtdjilmcpkeckoaaDoor
open Go.ChangeShapes Go.WideShapes Go.ChangeAt Go.WideMaps Go.WideElems Go.RowKit

set_option maxHeartbeats 400000 in
theorem rNumber_nil (w : World) : Calls Tryd.prog 23 #[.pointer none] w fun e w' => e = .returned (.int .i64 0) ∧ w = w' := by
  go_enter Tryd.func23, Tryd.ntmps23
  go_wp2_with (go_at_call 29; refine (err_nil _).mono ?_; rintro e w' ⟨rfl, rfl⟩)
  go_ret
  exact ⟨rfl, rfl⟩
set_option maxHeartbeats 400000 in
theorem rText_nil (w : World) : Calls Tryd.prog 25 #[.pointer none] w fun e w' => e = .returned (.string ⟨#[]⟩) ∧ w = w' := by
  go_enter Tryd.func25, Tryd.ntmps25
  go_wp2_with (go_at_call 29; refine (err_nil _).mono ?_; rintro e w' ⟨rfl, rfl⟩)
  go_ret
  exact ⟨rfl, rfl⟩
set_option maxHeartbeats 400000 in
theorem rNumber_not (p : Nat) (w : World) (c1 : w.cell? ⟨p, 1, none⟩ = some (.bool false)) (c2 : w.cell? ⟨p, 2, none⟩ = some (.int .i64 0)) (c3 : w.cell? ⟨p, 3, none⟩ = some (.int .i64 0)) :
    Calls Tryd.prog 23 #[.pointer (some ⟨p, 0, none⟩)] w fun e w' => e = .returned (.int .i64 0) ∧ w = w' := by
  go_enter Tryd.func23, Tryd.ntmps23
  go_wp2_with (go_at_call 29; refine (err_not p _ c1 c2 c3).mono ?_; rintro e w' ⟨rfl, rfl⟩)
  go_ret
  exact ⟨rfl, rfl⟩
set_option maxHeartbeats 400000 in
theorem rText_not (p : Nat) (w : World) (c1 : w.cell? ⟨p, 1, none⟩ = some (.bool false)) (c2 : w.cell? ⟨p, 2, none⟩ = some (.int .i64 0)) (c3 : w.cell? ⟨p, 3, none⟩ = some (.int .i64 0)) :
    Calls Tryd.prog 25 #[.pointer (some ⟨p, 0, none⟩)] w fun e w' => e = .returned (.string ⟨#[]⟩) ∧ w = w' := by
  go_enter Tryd.func25, Tryd.ntmps25
  go_wp2_with (go_at_call 29; refine (err_not p _ c1 c2 c3).mono ?_; rintro e w' ⟨rfl, rfl⟩)
  go_ret
  exact ⟨rfl, rfl⟩

/-- The cells of a Reader that nobody made. -/
def noCells : Array Value := #[.slice none 0 0, .bool false, .int .i64 0, .int .i64 0]
theorem noCell (w : World) : (w.alloc (.cells noCells 57)).cell? ⟨w.heap.size, 1, none⟩ = some (.bool false) ∧ (w.alloc (.cells noCells 57)).cell? ⟨w.heap.size, 2, none⟩ = some (.int .i64 0) ∧
    (w.alloc (.cells noCells 57)).cell? ⟨w.heap.size, 3, none⟩ = some (.int .i64 0) := by
  refine ⟨?_, ?_, ?_⟩
  all_goals
    rw [cell_of_row _ w.heap.size _ noCells 57 (0, 0) (heap_alloc_new w _)]
    rfl

set_option maxHeartbeats 1000000 in
theorem nil_walk (w : World) (hT : Tab w) :
    Calls Tryd.prog 6 #[] w fun e w' => e = .returned (.bool true) ∧ Below w.heap.size w w' := by
  obtain ⟨n1, n2, n3⟩ := noCell w
  have B1 : Below w.heap.size w (w.alloc (.cells noCells 57)) := (Below.refl _ _).alloc (Nat.le_refl _) _
  have z1 := B1.size
  go_enter Tryd.func6, Tryd.ntmps6
  go_wp2
  refine wp_loop_rounds 3 ?_
  rw [rounds_succ]
  go_wp2_with (first
    | (go_at_call 23; refine (rNumber_nil _).mono ?_; rintro e w' ⟨rfl, rfl⟩)
    | (go_at_call 25; refine (rText_nil _).mono ?_; rintro e w' ⟨rfl, rfl⟩)
    | (go_at_call 27; refine (left_nil _).mono ?_; rintro e w' ⟨rfl, rfl⟩)
    | (go_at_call 29; refine (err_nil _).mono ?_; rintro e w' ⟨rfl, rfl⟩)
    | (go_at_call 30; refine (done_nil _).mono ?_; rintro e w' ⟨rfl, rfl⟩)
    | (go_at_call 16; refine (num_any _ _).mono ?_; rintro e w' ⟨rfl, rfl⟩))
  rw [rounds_succ]
  go_wp2_with (first
    | (go_at_call 23; refine (rNumber_not w.heap.size _ n1 n2 n3).mono ?_; rintro e w' ⟨rfl, rfl⟩)
    | (go_at_call 25; refine (rText_not w.heap.size _ n1 n2 n3).mono ?_; rintro e w' ⟨rfl, rfl⟩)
    | (go_at_call 27; refine (left_not w.heap.size _ n1 n2 n3).mono ?_; rintro e w' ⟨rfl, rfl⟩)
    | (go_at_call 29; refine (err_not w.heap.size _ n1 n2 n3).mono ?_; rintro e w' ⟨rfl, rfl⟩)
    | (go_at_call 30; refine (done_not w.heap.size _ n1 n2 n3).mono ?_; rintro e w' ⟨rfl, rfl⟩)
    | (go_at_call 16; refine (num_any _ _).mono ?_; rintro e w' ⟨rfl, rfl⟩))
  rw [rounds_succ]
  go_wp2_with fail
  have B2 : Below w.heap.size w ((w.alloc (.cells noCells 57)).alloc (.cells noCells 57)) := B1.alloc z1 _
  have z2 := B2.size
  refine (knows_any _ (hT.later B2 hT.pos)).mono ?_
  rintro e w3 ⟨rfl, b3⟩
  go_wp2
  go_ret
  exact ⟨rfl, B2.trans (b3.mono z2)⟩

set_option maxRecDepth 100000 in
theorem nil_lifted (os : Os) (started : os.Started) (H : Type) (enc : TypeId × Value → H) :
    ReturnsInHanded {} Tryd.checked os 6 .any (fun w args => (Rows.codecNilSpec.pre enc Tryd.prog Tryd.f6 [] false w args ∧ laidMetH Tryd.prog laid1 w) ∧ sizedMet enc Tryd.prog Tryd.f6 (OpenSpec.ofChange Rows.codecNilSpec) false w args)
      (Rows.codecNilSpec.post enc Tryd.prog Tryd.f6 false true false false) := by
  refine returnsInHanded_of_change_and (C := Tryd.checked) (X := fun w _ => laidMetH Tryd.prog laid1 w) (fun _ _ _ hh h => h.of_heap hh) own started (by kernel_rfl) Tryd.func6
    (ChangeSpec.witness_shaped (enc := enc) (C := Tryd.checked) (os := os) (X := fun w _ => laidMetH Tryd.prog laid1 w) false (World.doorLaid Tryd.prog 14 os) #[] 8 rfl (World.shaped_of_RefB (by kernel_rfl) (by kernel_rfl)) (by kernel_rfl) (by kernel_rfl) (by kernel_rfl) (door_met os _)) ?_
  intro W base args ds gs before hval0 hW _ hsz0 hL _
  have hval : ∀ (j : Nat) t v, Tryd.f6.params[j]? = some t → args[j]? = some v → Value.okWide Tryd.prog W .any base t v := hval0
  have hsz : (DataW.weightsEach Tryd.prog (Tryd.f6.params.toList ++ Rows.codecNilSpec.plain.varTypes Tryd.prog) (ds ++ gs)).all (· ≤ reachBytes) = true := hsz0
  have hW' := hW
  obtain ⟨p, q, hA0, hV, rfl, hfz, hnd⟩ := hW
  have hA : DataW.TrodAll enc Tryd.prog W 0 (fun _ => true) true Tryd.f6.params.toList args.toList ds p := hA0
  rw [Tryd.params6] at hA hval hsz
  obtain ⟨rfl, rfl, rfl⟩ := trodAll_none hA
  obtain ⟨rfl, rfl⟩ := trodVars_none hV
  clear hA0 hval0 hsz0
  refine (nil_walk W (tab_of_laid hL)).mono fun e W' ⟨he, bel⟩ => ?_
  subst he
  exact ⟨_, rfl, _, _, _, [], _, [], hW', trodAll_mk1 (shut_bool Tryd.underlying4 _), trodAll_mk0, rfl, bel.frame _, fun h => by cases h⟩

theorem nil_said : Rows.CodecNilSaid :=
  OpenClaim.holds_of_wide 6 Tryd.f6 rfl rfl rfl rfl rfl rfl rfl ⟨rfl, rfl, rfl, rfl, rfl⟩ rfl rfl rfl rfl rfl (by kernel_rfl) Tryd.func6 (by kernel_rfl)
    (of_decide_eq_true (by kernel_rfl)) (by unfold Func.isWrapper; first | (rw [if_pos (by decide +kernel)]; kernel_rfl) | (rw [if_neg (by decide +kernel)]; exact ⟨rfl, rfl⟩))
    (fun os started H enc _ => nil_lifted os started H enc)

theorem codecNil_holds : Rows.CodecNilCardSaid :=
  Claim7.holds_tied_plain_at .later [] [.data] true _ false
    nil_said (fun _ h => by cases h) (by kernel_rfl) (fun _ h => by cases h) codecNil_row_tie rfl ⟨rfl, rfl⟩ (by kernel_rfl) rfl
    (fun f fn hf hfn => by
      obtain rfl : f = 6 := Option.some.inj ((show Tryd.prog.funcNamed Tryd.f6.name = some 6 by kernel_rfl).symm.trans hf) |>.symm
      obtain rfl : fn = Tryd.f6 := (Option.some.inj (Tryd.func6.symm.trans hfn)).symm
      exact ⟨by kernel_rfl, fun j t ht => by
        rw [Tryd.params6] at ht
        simp at ht⟩)
    (by kernel_rfl)
#print axioms codecNil_holds
end Go.Proofs.YtdjilmcpkeckoaaDoor
