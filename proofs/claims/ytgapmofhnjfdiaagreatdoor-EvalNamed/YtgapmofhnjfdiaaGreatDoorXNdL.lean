/-
  EvalNamed for all nodes, scopes and rows: what an expression comes to depends on the columns that it names alone.
-/
import Derived.Test.YtgapmofhnjfdiaaGreatDoorM0XNdA
import Derived.Test.YtgapmofhnjfdiaaGreatDoorMGXNdB
namespace Go.Proofs.YtgapmofhnjfdiaaGreatDoor
open Go.ChangeShapes Go.WideShapes Go.ChangeAt Go.WideMaps Go.WideElems Go.RowKit Go.Shelf Go.Lib

theorem nmd_said : Rows.EvalNamedSaid :=
  OpenClaim.holds_of_wide 7 Tryz.f7 rfl rfl rfl rfl rfl rfl rfl ⟨rfl, rfl, rfl, rfl, rfl⟩ rfl rfl rfl rfl rfl (by kernel_rfl) Tryz.func7 nmd_b
    (of_decide_eq_true (by kernel_rfl)) (by unfold Func.isWrapper; first | (rw [if_pos (by decide +kernel)]; kernel_rfl) | (rw [if_neg (by decide +kernel)]; exact ⟨rfl, rfl⟩))
    (fun os started H enc _ => nmd_lifted os started H enc)

theorem evalNamed_holds : Rows.EvalNamedCardSaid :=
  Claim7.holds_tied_plain_at .later [] [.data, .data, .pinned] true _ true
    nmd_said (fun _ h => by cases h) (by kernel_rfl) (fun _ h => by cases h) evalNamed_row_tie rfl ⟨rfl, rfl⟩ (by kernel_rfl) rfl
    (fun f fn hf hfn => by
      obtain rfl : f = 7 := Option.some.inj ((show Tryz.prog.funcNamed Tryz.f7.name = some 7 by kernel_rfl).symm.trans hf) |>.symm
      obtain rfl : fn = Tryz.f7 := (Option.some.inj (Tryz.func7.symm.trans hfn)).symm
      exact ⟨by kernel_rfl, fun j t ht => by
        rw [Tryz.params7] at ht
        have hm : t ∈ [22, 53, 45, 45] := by simpa using Array.mem_of_getElem? ht
        have hall : ([22, 53, 45, 45].all fun u => !Tryz.prog.wantsStandIn u) = true := by kernel_rfl
        exact (show Tryz.prog.wantsStandIn t = false by simpa using List.all_eq_true.1 hall t hm)⟩)
    (by kernel_rfl)
#print axioms evalNamed_holds
end Go.Proofs.YtgapmofhnjfdiaaGreatDoor
