/-
  The contracts of codec.fold, codec.unfold, codec.appendNumber, codec.Number: what each call gives, for every number.
-/
import Derived.Test.YtaghbkjjindjfaaDoorProg
import Derived.Test.YtaghbkjjindjfaaDoorPlain
import Derived.WalkKit
import Derived.WalkSpells
import Derived.WalkLawsBesides
namespace Go.Proofs.YtaghbkjjindjfaaDoor
open Go.RowKit

theorem Tryd.info5 : (Tryd.prog.info? 5).map (fun i => (i.zero, i.size, i.bytes)) = some (some (.int .u8 0), 1, 1) := by kernel_rfl

theorem own_of {w : World} {base n : Nat} {v : Value} {bs : List UInt8} (h : w.ownsRow base 5 1 v n (bv bs)) : Own w base v bs := by
  have e : n = bs.length := by have := h.1; rw [bv_length] at this; omega
  unfold Own
  rw [← e]
  exact h
theorem own_push {w : World} {base n : Nat} {v : Value} {bs : List UInt8} {b : UInt8} (h : w.ownsRow base 5 1 v n (bv bs ++ [Value.int .u8 (b.toNat : Int)])) : Own w base v (bs ++ [b]) :=
  own_of (bs := bs ++ [b]) (by rw [bv_append]; exact h)
theorem one_cell (k : IntKind) (n : Int) : ∀ u ∈ [Value.int k n], u.oneCell' = true := by
  intro u hu
  simp at hu
  subst hu
  rfl

theorem own_made {base : Nat} (w : World) (cur : Array Value) (cap : Nat) (hb : base ≤ w.heap.size) (hm : cap ≤ maxLen) (hs : cur.size = cap) :
    Own (w.alloc (.cells cur 5)) base (.slice (some ⟨w.heap.size, 0, none⟩) 0 cap) [] :=
  World.ownsRow_made w cur cap hb hm (by omega)

end Go.Proofs.YtaghbkjjindjfaaDoor
