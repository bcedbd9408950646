/-
  The listed table of powers as the walks ask for it.
-/
import Derived.Test.YtkfnmblfaaabkaaGreatDoorVFrm
import Derived.Test.YtkfnmblfaaabkaaGreatDoorVCmp2
namespace Go.Proofs.YtkfnmblfaaabkaaGreatDoor
open Go.ChangeShapes Go.WideShapes Go.ChangeAt Go.WideMaps Go.WideElems Go.RowKit Go.Shelf Go.Lib

def powN : List Int := [1, 10, 100, 1000, 10000, 100000, 1000000, 10000000, 100000000, 1000000000, 10000000000, 100000000000, 1000000000000]
theorem pow_cells : ∀ k : Nat, k < 13 → (powN.map (Value.int .i64)).toArray[k]? = some (.int .i64 ((10 ^ k : Nat) : Int)) := by
  intro k hk
  match k, hk with
  | 0, _ => rfl
  | 1, _ => rfl
  | 2, _ => rfl
  | 3, _ => rfl
  | 4, _ => rfl
  | 5, _ => rfl
  | 6, _ => rfl
  | 7, _ => rfl
  | 8, _ => rfl
  | 9, _ => rfl
  | 10, _ => rfl
  | 11, _ => rfl
  | 12, _ => rfl

theorem pw_of {W : World} (h : VarReads Tryz.prog W "longstop/decimal.powers" Rows.laid_longstop_decimal_powers) : Pw W := by
  have gP : Tryz.prog.globalNamed "longstop/decimal.powers" = some 2 := by kernel_rfl
  have tP : (Tryz.prog.globals[2]?).map (·.type) = some 173 := by kernel_rfl
  have e : (Rows.laid_longstop_decimal_powers : DataW Unit) = Lib.tabData .i64 powN := by kernel_rfl
  rw [e] at h
  obtain ⟨g, t, cs, fuel, p, hg, hty, hvar, hd⟩ := h
  obtain rfl := Option.some.inj (gP.symm.trans hg)
  obtain rfl := Option.some.inj (tP.symm.trans hty)
  have hcs := Lib.cells_of_tab Tryz.underlying173 Tryz.underlying3 (by kernel_rfl) (by kernel_rfl) hd
  intro k hk
  have hc := World.var?_cell hg hvar k
  rw [hc, ← pow_cells k hk]
  have : cs = (powN.map (Value.int .i64)).toArray := by
    rw [← Array.toArray_toList (xs := cs), hcs]
  rw [this]
end Go.Proofs.YtkfnmblfaaabkaaGreatDoor
