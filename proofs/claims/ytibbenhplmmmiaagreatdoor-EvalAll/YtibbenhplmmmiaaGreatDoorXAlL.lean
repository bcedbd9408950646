/-
  EvalAll for all nodes, scopes, rows and names: which column a name is, what an expression comes to, and whether it holds: as the document has it.
-/
import Derived.Test.YtibbenhplmmmiaaGreatDoorM0XAlA
import Derived.Test.YtibbenhplmmmiaaGreatDoorMzXAlB
namespace Go.Proofs.YtibbenhplmmmiaaGreatDoor
open Go.ChangeShapes Go.WideShapes Go.ChangeAt Go.WideMaps Go.WideElems Go.RowKit Go.Shelf Go.Lib
theorem xal_said:Rows.EvalAllSaid :=
 OpenClaim.holds_of_wide 5 Tryz.f5 rfl rfl rfl rfl rfl rfl rfl ⟨rfl,rfl,rfl,rfl,rfl⟩ rfl rfl rfl rfl rfl gK Tryz.func5 xal_b
  (of_decide_eq_true gK) (by unfold Func.isWrapper;first|(rw [if_pos (by decide +kernel)];kernel_rfl)|(rw [if_neg (by decide +kernel)];exact ⟨rfl,rfl⟩))
  (fun os started H enc _=>xal_lifted os started H enc)
theorem evalAll_holds:Rows.EvalAllCardSaid :=
 Claim7.holds_tied_plain_at .later [] [.data,.data,.pinned] true _ true
  xal_said (fun _ h=>by cases h) gK (fun _ h=>by cases h) evalAll_row_tie rfl ⟨rfl,rfl⟩ gK rfl
  (fun f fn hf hfn=>by
   obtain rfl:f=5:=Option.some.inj ((show Tryz.prog.funcNamed Tryz.f5.name=some 5 by kernel_rfl).symm.trans hf) |>.symm
   obtain rfl:fn=Tryz.f5:=(Option.some.inj (Tryz.func5.symm.trans hfn)).symm
   exact ⟨by kernel_rfl,fun j t ht=>by
    rw [Tryz.params5] at ht
    have hm:t∈[44,47,34,9,9]:=by simpa using Array.mem_of_getElem? ht
    have hall:([44,47,34,9,9].all fun u=>!Tryz.prog.wantsStandIn u)=true:=by kernel_rfl
    exact (show Tryz.prog.wantsStandIn t=false by simpa using List.all_eq_true.1 hall t hm)⟩)
  gK
#print axioms evalAll_holds
end Go.Proofs.YtibbenhplmmmiaaGreatDoor
