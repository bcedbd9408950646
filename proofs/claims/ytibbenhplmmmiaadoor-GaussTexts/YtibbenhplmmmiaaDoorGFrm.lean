/-
  What every claim of this seat shares: a point that comes in.
-/
import Derived.Test.YtibbenhplmmmiaaDoorRows
import Derived.Test.YtibbenhplmmmiaaDoorGBase
import Derived.ProofKit
import Derived.OpenShut
import Derived.ChangeSame
namespace Go.Proofs.YtibbenhplmmmiaaDoor
open Go.ChangeShapes Go.WideShapes Go.ChangeAt Go.WideMaps Go.WideElems Go.RowKit

theorem own : ownKnob Tryd.prog.godebug = none := by kernel_rfl
theorem laidOut : laidOutB Tryd.prog = true := by kernel_rfl

set_option maxRecDepth 100000 in
theorem open_pt {H : Type} {enc : TypeId × Value → H} {W : World} {r : Reach} {b0 : Nat} {v : Value} {d : DataW H} {ps : List MemPlace} (hval : Value.okWide Tryd.prog W r b0 23 v)
    (hd : DataW.Trod enc Tryd.prog W 0 (fun _ => true) true 23 v d ps) : ∃ a b : Int, v = .agg #[.int .i64 a, .int .i64 b] ∧ (Lit.int .i64 a).wf = true ∧ (Lit.int .i64 b).wf = true := by
  obtain ⟨cs, rfl, hsz⟩ := okWide_struct Tryd.underlying23 hval
  obtain ⟨fuel, hf⟩ := hd
  have hc : Tryd.prog.cellsOf 23 = 2 := by kernel_rfl
  rw [hc] at hsz
  obtain ⟨l⟩ := cs
  match l, hsz with
  | [c0, c1], _ =>
    obtain ⟨y0, y1, m, _, _, h0, h1⟩ := trod_struct2 Tryd.underlying23 hf
    obtain ⟨a, ea, rfl, wa⟩ := DataW.trod_int Tryd.underlying3 h0
    obtain ⟨b, eb, rfl, wb⟩ := DataW.trod_int Tryd.underlying3 h1
    have c1' : Tryd.prog.cellsOf 3 = 1 := by kernel_rfl
    rw [c1'] at ea eb
    simp [Value.cells] at ea eb
    subst ea
    subst eb
    exact ⟨a, b, rfl, wa, wb⟩
end Go.Proofs.YtibbenhplmmmiaaDoor
