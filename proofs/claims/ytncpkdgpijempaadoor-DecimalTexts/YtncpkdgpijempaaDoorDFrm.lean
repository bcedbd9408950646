/-
  What every claim of this seat shares: the listed table of powers as the walks ask for it, a start that meets the condition, and a decimal that comes in.
-/
import Derived.Test.YtncpkdgpijempaaDoorRows
import Derived.Test.YtncpkdgpijempaaDoorCards
import Derived.Test.YtncpkdgpijempaaDoorTie
import Derived.Test.YtncpkdgpijempaaDoorDKnows
import Derived.ProofKit
import Derived.LaidMore
import Derived.OpenShut
import Derived.ShutString
import Derived.Stop.Joined
import Derived.Lib.LaidTab
import Derived.ChangeSame
namespace Go.Proofs.YtncpkdgpijempaaDoor
open Go.ChangeShapes Go.WideShapes Go.ChangeAt Go.WideMaps Go.WideElems Go.RowKit

theorem own : ownKnob Tryd.prog.godebug = none := by kernel_rfl
theorem laidOut : laidOutB Tryd.prog = true := by kernel_rfl
/-- The name of the program's one listed variable: its table of powers. -/
def powersName : String := (Rows.decimalTextsRow.laid.headD ("", .nil)).1
theorem gPowers : Tryd.prog.globalNamed powersName = some 0 := by kernel_rfl
theorem tPowers : (Tryd.prog.globals[0]?).map (·.type) = some 71 := by kernel_rfl

abbrev laid1 : List (String × DataW Unit) := Rows.decimalTextsRow.laid

theorem door_met (os : Os) (args : Array Value) : laidMetH Tryd.prog laid1 ((World.doorLaid Tryd.prog 14 os).forCall (fun _ _ => 0) ⟨#[], args, []⟩).memory :=
  laidMetH_of_parts3 (fuel := 8) (laidMet_of_run' 8 (by kernel_rfl) (by kernel_rfl)) (by kernel_rfl) (by kernel_rfl)

def powN : List Int := [1, 10, 100, 1000, 10000, 100000, 1000000, 10000000, 100000000, 1000000000, 10000000000, 100000000000, 1000000000000]
theorem pow_cells : ∀ k : Nat, k < 13 → (powN.map (Value.int .i64)).toArray[k]? = some (.int .i64 ((10 ^ k : Nat) : Int)) := by
  intro k hk
  match k, hk with
  | 0, _ => rfl
  | 1, _ => rfl
  | 2, _ => rfl
  | 3, _ => rfl
  | 4, _ => rfl
  | 5, _ => rfl
  | 6, _ => rfl
  | 7, _ => rfl
  | 8, _ => rfl
  | 9, _ => rfl
  | 10, _ => rfl
  | 11, _ => rfl
  | 12, _ => rfl

theorem pw_of_laid {W : World} (h : laidMetH Tryd.prog laid1 W) : Pw W := by
  rw [MakeChecks.laidMetH_plain _ _ _ (by kernel_rfl)] at h
  have h' : laidMet Tryd.prog [(powersName, Lib.tabData .i64 powN)] W := h
  have ht : Lib.TabIs Tryd.prog W powersName .i64 powN :=
    Lib.tabIs_of_head gPowers tPowers Tryd.underlying71 Tryd.underlying3 (by kernel_rfl) (by kernel_rfl) h'
  intro k hk
  have hc := World.var?_cell gPowers ht k
  exact hc.trans (pow_cells k hk)

set_option maxRecDepth 100000 in
theorem open_dec {H : Type} {enc : TypeId × Value → H} {W : World} {r : Reach} {b0 : Nat} {v : Value} {d : DataW H} {ps : List MemPlace} (hval : Value.okWide Tryd.prog W r b0 23 v)
    (hd : DataW.Trod enc Tryd.prog W 0 (fun _ => true) true 23 v d ps) : ∃ a b : Int, v = .agg #[.int .i64 a, .int .i64 b] ∧ (Lit.int .i64 a).wf = true ∧ (Lit.int .i64 b).wf = true := by
  obtain ⟨cs, rfl, hsz⟩ := okWide_struct Tryd.underlying23 hval
  obtain ⟨fuel, hf⟩ := hd
  have hc : Tryd.prog.cellsOf 23 = 2 := by kernel_rfl
  rw [hc] at hsz
  obtain ⟨l⟩ := cs
  match l, hsz with
  | [c0, c1], _ =>
    obtain ⟨y0, y1, m, _, _, h0, h1⟩ := trod_struct2 Tryd.underlying23 hf
    obtain ⟨a, ea, rfl, wa⟩ := DataW.trod_int Tryd.underlying3 h0
    obtain ⟨b, eb, rfl, wb⟩ := DataW.trod_int Tryd.underlying3 h1
    have c1' : Tryd.prog.cellsOf 3 = 1 := by kernel_rfl
    rw [c1'] at ea eb
    simp [Value.cells] at ea eb
    subst ea
    subst eb
    exact ⟨a, b, rfl, wa, wb⟩
end Go.Proofs.YtncpkdgpijempaaDoor
