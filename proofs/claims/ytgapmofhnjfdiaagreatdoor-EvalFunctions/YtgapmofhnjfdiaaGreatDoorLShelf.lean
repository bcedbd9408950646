/-
  The library's contracts laid at this program: strconv.Itoa, strings.Clone; HasSuffix, TrimSuffix, Index and Contains at one point.
-/
import Derived.Test.YtgapmofhnjfdiaaGreatDoorMnDInt0
import Derived.Shelf.Strconv.Itoa3
import Derived.Shelf.Strconv.Clone
import Derived.Ground.NamesProg
import Derived.Shelf.Lay
namespace Go.Proofs.YtgapmofhnjfdiaaGreatDoor
open Go.RowKit Go.Shelf

shelf_lay LaysM.n171 Nm 171 at Tryz as Tryz.laysItoa
shelf_lay LaysM.n316 Nm 316 at Tryz as Tryz.laysClone

/-- The library's table of powers of ten. -/
def Ptab (w : World) : Prop := Lib.TabIs Tryz.prog w "internal/strconv.uint64pow10" .u64 Lib.pow10Tab
theorem Ptab.later {w w' : World} (h : Ptab w) (hb : Below w.heap.size w w') : Ptab w' := by
  unfold Ptab Lib.TabIs World.var? at *
  cases hg : Tryz.prog.globalNamed "internal/strconv.uint64pow10" with
  | none => rw [hg] at h; cases h
  | some g =>
    rw [hg] at h
    simp only [Option.bind_some] at h ⊢
    have hlt : g < w.heap.size := by
      rcases Nat.lt_or_ge g w.heap.size with h' | h'
      · exact h'
      · rw [Array.getElem?_eq_none h'] at h; cases h
    rw [hb.block g hlt]
    exact h

theorem clone_any (B : ByteArray) (w : World) (h : B.size ≤ 140737488351232) : Calls Tryz.prog 37 #[.string B] w fun e w' => e = .returned (.string B) ∧ Below w.heap.size w w' := by
  have C : ∀ W, Calls Tryz.prog 94 #[.string B] W fun e w' => e = .returned (.string B) ∧ Below W.heap.size W w' := fun W => Any.stringslite_Clone Tryz.laysClone B W (by omega)
  go_enter Tryz.func37, Tryz.ntmps37
  go_wp2_with (go_at_call 94; refine (C _).mono ?_; rintro e w' ⟨rfl, hb⟩)
  go_ret
  exact ⟨rfl, hb⟩

end Go.Proofs.YtgapmofhnjfdiaaGreatDoor
