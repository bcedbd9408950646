/-
  Ops of two Texts: eval.ofTexts.
  Truths: eval.ofTruths, notOf.
  eval.Binary, whole: what an op of two comes to.
  A world with some blocks more, whatever has been drawn: out of 'Below', so that its cells read as those of a world that has grown. Nothing of the program is in it.
-/
import Derived.Test.YtclhmmgdhagloaaGreatDoorMSQNums
import Derived.Test.YtclhmmgdhagloaaGreatDoorMCLByte
import Derived.Test.YtclhmmgdhagloaaGreatDoorQPts
import Derived.Test.YtclhmmgdhagloaaGreatDoorMeDWide3
namespace Go.Proofs.YtclhmmgdhagloaaGreatDoor
open Go.RowKit Go.Shelf
attribute [local go_sem] cell?_more frozen?_more setCell_more more_lt more_more more_drew more_drewN setCell_drewN alloc_drewN

end Go.Proofs.YtclhmmgdhagloaaGreatDoor

namespace Go.Proofs.YtclhmmgdhagloaaGreatDoor
open Go.RowKit Go.Shelf
attribute [local go_sem] cell?_more frozen?_more setCell_more more_lt more_more more_drew more_drewN setCell_drewN alloc_drewN

end Go.Proofs.YtclhmmgdhagloaaGreatDoor

namespace Go.Proofs.YtclhmmgdhagloaaGreatDoor
open Go.RowKit Go.Shelf

end Go.Proofs.YtclhmmgdhagloaaGreatDoor

namespace Go.Proofs.YtclhmmgdhagloaaGreatDoor
open Go.RowKit

/-- The same world, that many draws. -/
def drawTo (w : World) (d : Nat) : World := { w with drawn := d }
theorem cell?_drawTo (w : World) (d : Nat) (a : Addr) : (drawTo w d).cell? a = w.cell? a := rfl
theorem frozen?_drawTo (w : World) (d : Nat) (a : Addr) : (drawTo w d).frozen? a = w.frozen? a := rfl
theorem heap_drawTo (w : World) (d : Nat) : (drawTo w d).heap = w.heap := rfl
theorem setCell_drawTo (w : World) (d : Nat) (a : Addr) (v : Value) : (drawTo w d).setCell a v = drawTo (w.setCell a v) d := by
  unfold World.setCell drawTo
  split <;> rfl
theorem alloc_drawTo (w : World) (d : Nat) (o : Obj) : (drawTo w d).alloc o = drawTo (w.alloc o) d := rfl
theorem drewN_drawTo (w : World) (d n : Nat) : (drawTo w d).drewN n = drawTo w (d + n) := rfl
theorem drew_drawTo (w : World) (d : Nat) : (drawTo w d).drew = drawTo w (d + 1) := rfl
theorem drawTo_drewN (w : World) (d n : Nat) : drawTo (w.drewN n) d = drawTo w d := rfl
theorem drawTo_drew (w : World) (d : Nat) : drawTo w.drew d = drawTo w d := rfl
theorem drawTo_drawTo (w : World) (d n : Nat) : drawTo (drawTo w d) n = drawTo w n := rfl
theorem more_drawTo (os : List Obj) (d : Nat) : ∀ w : World, more (drawTo w d) os = drawTo (more w os) d := by
  induction os with
  | nil => intro w; rfl
  | cons p a ih => intro w; exact ih (w.alloc p)
theorem more_heap (os : List Obj) : ∀ w : World, (more w os).heap = w.heap ++ os.toArray := by
  induction os with
  | nil => intro w; simp [more]
  | cons p a ih =>
    intro w
    show (more (w.alloc p) a).heap = _
    rw [ih, World.alloc]
    simp
theorem more_rest (os : List Obj) : ∀ w : World, (more w os).tape = w.tape ∧ (more w os).os = w.os ∧ (more w os).output = w.output := by
  induction os with
  | nil => intro w; exact ⟨rfl, rfl, rfl⟩
  | cons p a ih => intro w; exact ih (w.alloc p)
/-- What a call may have done: blocks more, whatever was drawn. -/
theorem wide {w w' : World} (h : Below w.heap.size w w') : ∃ (os : List Obj) (d : Nat), w' = drawTo (more w os) d := by
  refine ⟨w'.heap.toList.drop w.heap.size, w'.drawn, ?_⟩
  have e1 : w'.heap = (more w (w'.heap.toList.drop w.heap.size)).heap := by
    rw [more_heap]
    apply Array.ext'
    have : w.heap.toList = w'.heap.toList.take w.heap.size := by
      apply List.ext_getElem?
      intro i
      rw [List.getElem?_take]
      by_cases hi : i < w.heap.size
      · rw [if_pos hi]
        have := h.block i hi
        simpa using this.symm
      · rw [if_neg hi]
        simp
        omega
    simp only [Array.toList_append]
    rw [this, List.take_append_drop]
  obtain ⟨t, o, p⟩ := more_rest (w'.heap.toList.drop w.heap.size) w
  generalize more w (w'.heap.toList.drop w.heap.size) = m at *
  obtain ⟨h', t', d', o', p'⟩ := w'
  obtain ⟨hm, tm, dm, om, pm⟩ := m
  simp only [drawTo, World.mk.injEq] at *
  exact ⟨e1, h.tape.trans t.symm, trivial, h.os.trans o.symm, h.output.trans p.symm⟩

/-- Blocks more, whatever was drawn. -/
def Grown (w w' : World) : Prop := ∃ (os : List Obj) (d : Nat), w' = drawTo (more w os) d
theorem Grown.refl (w : World) : Grown w w := ⟨[], w.drawn, rfl⟩
theorem Grown.alloc {a w : World} (h : Grown a w) (o : Obj) : Grown a (w.alloc o) := by
  obtain ⟨os, n, rfl⟩ := h
  exact ⟨os ++ [o], n, by rw [more_snoc]; rfl⟩
theorem Grown.drawTo {a w : World} (h : Grown a w) (m : Nat) : Grown a (drawTo w m) := by
  obtain ⟨os, n, rfl⟩ := h
  exact ⟨os, m, rfl⟩
theorem Grown.drewN {a w : World} (h : Grown a w) (m : Nat) : Grown a (w.drewN m) := by
  obtain ⟨os, n, rfl⟩ := h
  exact ⟨os, n + m, rfl⟩
theorem Grown.drew {a w : World} (h : Grown a w) : Grown a w.drew := h.drewN 1
theorem Grown.trans {a b c : World} (h : Grown a b) (k : Grown b c) : Grown a c := by
  obtain ⟨os, n, rfl⟩ := h
  obtain ⟨ps, m, rfl⟩ := k
  exact ⟨os ++ ps, m, by rw [more_drawTo, more_more]; rfl⟩
theorem Grown.more {a w : World} (h : Grown a w) (os : List Obj) : Grown a (more w os) := h.trans ⟨os, (Proofs.YtclhmmgdhagloaaGreatDoor.more w os).drawn, rfl⟩
theorem Grown.below {w w' : World} (h : Grown w w') : Below w.heap.size w w' := by
  obtain ⟨os, n, rfl⟩ := h
  have := more_below os w w _ (Below.refl _ _) (Nat.le_refl _)
  exact ⟨this.os, this.tape, this.output, this.size, this.block⟩
end Go.Proofs.YtclhmmgdhagloaaGreatDoor
