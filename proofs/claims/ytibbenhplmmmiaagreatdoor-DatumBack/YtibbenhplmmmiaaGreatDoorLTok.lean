/-
  Tokens as they lie in memory; the contract of lexer.tokenAt.
-/
import Derived.Test.YtibbenhplmmmiaaGreatDoorLParse
import Derived.Test.YtibbenhplmmmiaaGreatDoorLTold
namespace Go.Proofs.YtibbenhplmmmiaaGreatDoor
open Go.RowKit Go.Shelf
attribute [local go_sem] cell?_more frozen?_more setCell_more more_lt more_more more_drew more_drewN setCell_drewN alloc_drewN

/-- Cells lie in a block of their own. -/
def Cbox (w : World) (p : Nat) (cs : Array Value) (ty : TypeId) : Prop := w.heap[p]? = some (.cells cs ty (0, 0))
theorem Cbox.lt {w : World} {p : Nat} {cs : Array Value} {ty : TypeId} (h : Cbox w p cs ty) : p < w.heap.size := by
  by_cases hp : p < w.heap.size
  · exact hp
  · unfold Cbox at h
    rw [Array.getElem?_eq_none (by omega)] at h
    cases h
theorem Cbox.later {w w' : World} {p : Nat} {cs : Array Value} {ty : TypeId} (h : Cbox w p cs ty) (hb : Below w.heap.size w w') : Cbox w' p cs ty := by
  unfold Cbox
  rw [hb.block p h.lt]
  exact h
theorem Cbox.at {w : World} {p : Nat} {cs : Array Value} {ty : TypeId} (h : Cbox w p cs ty) (j : Nat) : w.cell? ⟨p, j, none⟩ = cs[j]? := cell_of_row w p j _ _ (0, 0) h
theorem Cbox.free {w : World} {p : Nat} {cs : Array Value} {ty : TypeId} (h : Cbox w p cs ty) (j : Nat) : w.frozen? ⟨p, j, none⟩ = false := by
  unfold Cbox at h
  simp [World.frozen?, h]
theorem Cbox.new (w : World) (cs : Array Value) (ty : TypeId) : Cbox (w.alloc (.cells cs ty)) w.heap.size cs ty := by
  unfold Cbox
  show (w.heap.push _)[w.heap.size]? = _
  simp

end Go.Proofs.YtibbenhplmmmiaaGreatDoor
