/-
  A world with some blocks more and some draws behind it: how its cells read and how a store into an older block goes inward. Nothing of the program is in it.
-/
import Derived.WalkKit
import Derived.WalkSmall
import Derived.Laws.NewBlocks
import Derived.Deep.Draws
namespace Go.Proofs.YtibbenhplmmmiaaDoor
open Go.RowKit

def more (w : World) : List Obj → World
  | [] => w
  | o :: os => more (w.alloc o) os

theorem more_size (os : List Obj) : ∀ w : World, w.heap.size ≤ (more w os).heap.size := by
  induction os with
  | nil => intro w; exact Nat.le_refl _
  | cons o os ih => intro w; exact Nat.le_trans (by simp) (ih (w.alloc o))
theorem more_lt {n : Nat} {w : World} (h : n < w.heap.size) (os : List Obj) : n < (more w os).heap.size := Nat.lt_of_lt_of_le h (more_size os w)
theorem cell?_more (os : List Obj) (n i : Nat) : ∀ (w : World) (_ : n < w.heap.size), (more w os).cell? ⟨n, i, none⟩ = w.cell? ⟨n, i, none⟩ := by
  induction os with
  | nil => intro w _; rfl
  | cons o os ih => intro w h; exact (ih (w.alloc o) (by simp; omega)).trans (World.cell?_alloc_past o n i h)
theorem frozen?_more (os : List Obj) (n i : Nat) : ∀ (w : World) (_ : n < w.heap.size), (more w os).frozen? ⟨n, i, none⟩ = w.frozen? ⟨n, i, none⟩ := by
  induction os with
  | nil => intro w _; rfl
  | cons o os ih => intro w h; exact (ih (w.alloc o) (by simp; omega)).trans (World.frozen?_alloc_past o n i h)
theorem setCell_more (os : List Obj) (n i : Nat) (v : Value) : ∀ (w : World) (_ : n < w.heap.size), (more w os).setCell ⟨n, i, none⟩ v = more (w.setCell ⟨n, i, none⟩ v) os := by
  induction os with
  | nil => intro w _; rfl
  | cons o os ih =>
    intro w h
    show (more (w.alloc o) os).setCell _ v = more ((w.setCell _ v).alloc o) os
    rw [ih (w.alloc o) (by simp; omega), World.setCell_alloc_past o n i v h]
theorem more_snoc (os : List Obj) (o : Obj) : ∀ w : World, more w (os ++ [o]) = (more w os).alloc o := by
  induction os with
  | nil => intro w; rfl
  | cons p os ih => intro w; exact ih (w.alloc p)
theorem more_more (a b : List Obj) : ∀ w : World, more (more w a) b = more w (a ++ b) := by
  induction a with
  | nil => intro w; rfl
  | cons p a ih => intro w; exact ih (w.alloc p)
theorem more_drewN (os : List Obj) (n : Nat) : ∀ w : World, more (w.drewN n) os = (more w os).drewN n := by
  induction os with
  | nil => intro w; rfl
  | cons p a ih => intro w; exact ih (w.alloc p)
theorem more_drew (os : List Obj) (w : World) : more w.drew os = (more w os).drew := more_drewN os 1 w
theorem setCell_drewN (w : World) (n : Nat) (a : Addr) (v : Value) : (w.drewN n).setCell a v = (w.setCell a v).drewN n := by
  have : ∀ n, w.drewN n = { w with drawn := w.drawn + n } := fun _ => rfl
  unfold World.setCell World.drewN
  split <;> rfl
theorem alloc_drewN (w : World) (n : Nat) (o : Obj) : (w.drewN n).alloc o = (w.alloc o).drewN n := rfl

/-- Some blocks more, some draws. -/
def Grew (w w' : World) : Prop := ∃ (os : List Obj) (n : Nat), w' = (more w os).drewN n
theorem Grew.refl (w : World) : Grew w w := ⟨[], 0, rfl⟩
theorem Grew.alloc {a w : World} (h : Grew a w) (o : Obj) : Grew a (w.alloc o) := by
  obtain ⟨os, n, rfl⟩ := h
  exact ⟨os ++ [o], n, by rw [more_snoc, alloc_drewN]⟩
theorem Grew.drewN {a w : World} (h : Grew a w) (m : Nat) : Grew a (w.drewN m) := by
  obtain ⟨os, n, rfl⟩ := h
  exact ⟨os, n + m, by rw [World.drewN_drewN]⟩
theorem Grew.drew {a w : World} (h : Grew a w) : Grew a w.drew := h.drewN 1
theorem Grew.trans {a b c : World} (h : Grew a b) (k : Grew b c) : Grew a c := by
  obtain ⟨os, n, rfl⟩ := h
  obtain ⟨ps, m, rfl⟩ := k
  exact ⟨os ++ ps, n + m, by rw [more_drewN, more_more, World.drewN_drewN]⟩
theorem Grew.more {a w : World} (h : Grew a w) (os : List Obj) : Grew a (more w os) := h.trans ⟨os, 0, rfl⟩
theorem more_below (os : List Obj) : ∀ (w a : World) (B : Nat), Below B a w → B ≤ w.heap.size → Below B a (more w os) := by
  induction os with
  | nil => intro w a B h _; exact h
  | cons o os ih => intro w a B h hB; exact ih (w.alloc o) a B (h.alloc hB o) (by simp; omega)
theorem Grew.below {w w' : World} (h : Grew w w') : Below w.heap.size w w' := by
  obtain ⟨os, n, rfl⟩ := h
  exact below_drewN (more_below os w w _ (Below.refl _ _) (Nat.le_refl _)) n
theorem Grew.size {w w' : World} (h : Grew w w') : w.heap.size ≤ w'.heap.size := h.below.size
end Go.Proofs.YtibbenhplmmmiaaDoor
