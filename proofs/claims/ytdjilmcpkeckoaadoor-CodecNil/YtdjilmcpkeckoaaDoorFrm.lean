/-
  What every claim of this seat shares: the listed table as the walks ask for it, and a start that meets the condition.
-/
import Derived.Test.YtdjilmcpkeckoaaDoorRows
import Derived.Test.YtdjilmcpkeckoaaDoorKnows
import Derived.ProofKit
import Derived.LaidMore
import Derived.OpenShut
import Derived.ShutString
import Derived.Stop.Joined
import Derived.Lib.LaidTab
namespace Go.Proofs.YtdjilmcpkeckoaaDoor
open Go.ChangeShapes Go.WideShapes Go.ChangeAt Go.WideMaps Go.WideElems Go.RowKit

theorem own : ownKnob Tryd.prog.godebug = none := by kernel_rfl
theorem laidOut : laidOutB Tryd.prog = true := by kernel_rfl
/-- The name of the program's one listed variable: its table of sums. -/
def sumsName : String := Rows.codecWritesRow.named.headD ""
theorem gSums : Tryd.prog.globalNamed sumsName = some 0 := by kernel_rfl
theorem tSums : (Tryd.prog.globals[0]?).map (·.type) = some 66 := by kernel_rfl

abbrev laid1 : List (String × DataW Unit) := Rows.codecWritesRow.laid

theorem door_met (os : Os) (args : Array Value) : laidMetH Tryd.prog laid1 ((World.doorLaid Tryd.prog 14 os).forCall (fun _ _ => 0) ⟨#[], args, []⟩).memory :=
  laidMetH_of_parts3 (fuel := 8) (laidMet_of_run' 8 (by kernel_rfl) (by kernel_rfl)) (by kernel_rfl) (by kernel_rfl)

theorem tab_cells : ∀ k : Fin 16, (tabN.map fun z : Nat => Value.int .u64 (z : Int)).toArray[k.val]? = some (.int .u64 ((tab k.val).toNat : Int)) := by
  intro k
  have e : ∀ k : Fin 16, (tab k.val).toNat = tabN.getD k.val 0 := by decide +kernel
  rw [e k]
  have hl : k.val < tabN.length := k.isLt
  simp [List.getD, hl]

theorem tab_of_laid {W : World} (h : laidMetH Tryd.prog laid1 W) : Tab W := by
  rw [MakeChecks.laidMetH_plain _ _ _ (by kernel_rfl)] at h
  have h' : laidMet Tryd.prog [(sumsName, Lib.tabData .u64 (tabN.map fun z : Nat => (z : Int)))] W := h
  have ht : Lib.TabIs Tryd.prog W sumsName .u64 (tabN.map fun z : Nat => (z : Int)) :=
    Lib.tabIs_of_head gSums tSums Tryd.underlying66 Tryd.underlying33 (by kernel_rfl) (by kernel_rfl) h'
  intro k hk
  have hc := World.var?_cell gSums ht k
  have e := tab_cells ⟨k, hk⟩
  rw [List.map_map] at hc
  exact hc.trans e
end Go.Proofs.YtdjilmcpkeckoaaDoor
