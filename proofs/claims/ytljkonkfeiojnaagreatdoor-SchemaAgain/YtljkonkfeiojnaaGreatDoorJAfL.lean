/-
  SchemaAgain for all tables and rows: a row that was made to fit fits as it is, and its values are of their columns' kinds. Condition: none.
-/
import Derived.Test.YtljkonkfeiojnaaGreatDoorM0JAfA
import Derived.Test.YtljkonkfeiojnaaGreatDoorMKJAfB
namespace Go.Proofs.YtljkonkfeiojnaaGreatDoor
open Go.ChangeShapes Go.WideShapes Go.ChangeAt Go.WideMaps Go.WideElems Go.RowKit Go.Shelf Go.Lib
theorem sag_said:Rows.SchemaAgainSaid :=
 OpenClaim.holds_of_wide 3 Tryz.f3 rfl rfl rfl rfl rfl rfl rfl ⟨rfl,rfl,rfl,rfl,rfl⟩ rfl rfl rfl rfl rfl gK Tryz.func3 sag_b
  (of_decide_eq_true gK) (by unfold Func.isWrapper;first|(rw [if_pos (by decide +kernel)];kernel_rfl)|(rw [if_neg (by decide +kernel)];exact ⟨rfl,rfl⟩))
  (fun os started H enc _=>sag_lifted os started H enc)
theorem schemaAgain_holds:Rows.SchemaAgainCardSaid :=
 Claim7.holds_tied_plain_at .later [] [.data,.data,.data,.data,.sentinel,.sentinel,.data,.data,.pinned] true _ true
  sag_said (fun _ h=>by cases h) gK (fun _ h=>by cases h) schemaAgain_row_tie rfl ⟨rfl,rfl⟩ gK rfl
  (fun f fn hf hfn=>by
   obtain rfl:f=3:=Option.some.inj ((show Tryz.prog.funcNamed Tryz.f3.name=some 3 by kernel_rfl).symm.trans hf) |>.symm
   obtain rfl:fn=Tryz.f3:=(Option.some.inj (Tryz.func3.symm.trans hfn)).symm
   exact ⟨by kernel_rfl,fun j t ht=>by
    rw [Tryz.params3] at ht
    have hm:t∈[27,28]:=by simpa using Array.mem_of_getElem? ht
    have hall:([27,28].all fun u=>!Tryz.prog.wantsStandIn u)=true:=by kernel_rfl
    exact (show Tryz.prog.wantsStandIn t=false by simpa using List.all_eq_true.1 hall t hm)⟩)
  gK
#print axioms schemaAgain_holds
end Go.Proofs.YtljkonkfeiojnaaGreatDoor
