/-
  A call that gives one value, whatever has been laid besides; what a later world still holds.
-/
import Derived.Test.YtncpkdgpijempaaDoorDArith
namespace Go.Proofs.YtncpkdgpijempaaDoor

/-- A call gives this value, whatever has been laid besides. -/
abbrev Gives (f : Nat) (args : Array Value) (w : World) (v : Value) : Prop := ∀ W : World, Grew w W → Calls Tryd.prog f args W fun e w' => e = .returned v ∧ Grew W w'

/-- Two cells of a block: a decimal lies there. -/
def Two (w : World) (p : Nat) (u s : Int) : Prop := w.cell? ⟨p, 0, none⟩ = some (.int .i64 u) ∧ w.cell? ⟨p, 1, none⟩ = some (.int .i64 s)
theorem Two.lt {w : World} {p : Nat} {u s : Int} (h : Two w p u s) : p < w.heap.size := World.block_lt_of_cell? w _ h.1
theorem Two.later {w w' : World} {p : Nat} {u s : Int} (h : Two w p u s) (hb : Grew w w') : Two w' p u s :=
  ⟨by rw [hb.below.cell (p := ⟨p, 0, none⟩) h.lt]; exact h.1, by rw [hb.below.cell (p := ⟨p, 1, none⟩) h.lt]; exact h.2⟩
end Go.Proofs.YtncpkdgpijempaaDoor
