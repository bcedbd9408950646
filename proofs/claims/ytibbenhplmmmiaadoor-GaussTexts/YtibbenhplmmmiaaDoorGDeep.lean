/-
  Worlds of several layers: how a cell of an older block reads, and how a store into it goes inward. Nothing of the program is in it.
-/
import Derived.Test.YtibbenhplmmmiaaDoorDGrew
namespace Go.Proofs.YtibbenhplmmmiaaDoor
open Go.RowKit

theorem lt_alloc {n : Nat} {w : World} (h : n < w.heap.size) (o : Obj) : n < (w.alloc o).heap.size := by simp; omega

theorem cellMA (l0 : List Obj) (o1 : Obj) (n i : Nat) (w : World) (h : n < w.heap.size) : World.cell? (World.alloc (more w l0) o1) ⟨n, i, none⟩ = w.cell? ⟨n, i, none⟩ :=
  ((World.cell?_alloc_past o1 n i (more_lt h l0)).trans (cell?_more l0 n i _ h))
theorem frozenMA (l0 : List Obj) (o1 : Obj) (n i : Nat) (w : World) (h : n < w.heap.size) : World.frozen? (World.alloc (more w l0) o1) ⟨n, i, none⟩ = w.frozen? ⟨n, i, none⟩ :=
  ((World.frozen?_alloc_past o1 n i (more_lt h l0)).trans (frozen?_more l0 n i _ h))
theorem setMA (l0 : List Obj) (o1 : Obj) (n i : Nat) (v : Value) (w : World) (h : n < w.heap.size) : World.setCell (World.alloc (more w l0) o1) ⟨n, i, none⟩ v = (World.alloc (more (w.setCell ⟨n, i, none⟩ v) l0) o1) := by
  rw [World.setCell_alloc_past o1 n i v (more_lt h l0), setCell_more l0 n i v _ h]

theorem cellMAM (l0 : List Obj) (o1 : Obj) (l2 : List Obj) (n i : Nat) (w : World) (h : n < w.heap.size) : World.cell? (more (World.alloc (more w l0) o1) l2) ⟨n, i, none⟩ = w.cell? ⟨n, i, none⟩ :=
  ((cell?_more l2 n i _ (lt_alloc (more_lt h l0) o1)).trans ((World.cell?_alloc_past o1 n i (more_lt h l0)).trans (cell?_more l0 n i _ h)))
theorem frozenMAM (l0 : List Obj) (o1 : Obj) (l2 : List Obj) (n i : Nat) (w : World) (h : n < w.heap.size) : World.frozen? (more (World.alloc (more w l0) o1) l2) ⟨n, i, none⟩ = w.frozen? ⟨n, i, none⟩ :=
  ((frozen?_more l2 n i _ (lt_alloc (more_lt h l0) o1)).trans ((World.frozen?_alloc_past o1 n i (more_lt h l0)).trans (frozen?_more l0 n i _ h)))
theorem setMAM (l0 : List Obj) (o1 : Obj) (l2 : List Obj) (n i : Nat) (v : Value) (w : World) (h : n < w.heap.size) : World.setCell (more (World.alloc (more w l0) o1) l2) ⟨n, i, none⟩ v = (more (World.alloc (more (w.setCell ⟨n, i, none⟩ v) l0) o1) l2) := by
  rw [setCell_more l2 n i v _ (lt_alloc (more_lt h l0) o1), World.setCell_alloc_past o1 n i v (more_lt h l0), setCell_more l0 n i v _ h]

theorem cellMAA (l0 : List Obj) (o1 : Obj) (o2 : Obj) (n i : Nat) (w : World) (h : n < w.heap.size) : World.cell? (World.alloc (World.alloc (more w l0) o1) o2) ⟨n, i, none⟩ = w.cell? ⟨n, i, none⟩ :=
  ((World.cell?_alloc_past o2 n i (lt_alloc (more_lt h l0) o1)).trans ((World.cell?_alloc_past o1 n i (more_lt h l0)).trans (cell?_more l0 n i _ h)))
theorem frozenMAA (l0 : List Obj) (o1 : Obj) (o2 : Obj) (n i : Nat) (w : World) (h : n < w.heap.size) : World.frozen? (World.alloc (World.alloc (more w l0) o1) o2) ⟨n, i, none⟩ = w.frozen? ⟨n, i, none⟩ :=
  ((World.frozen?_alloc_past o2 n i (lt_alloc (more_lt h l0) o1)).trans ((World.frozen?_alloc_past o1 n i (more_lt h l0)).trans (frozen?_more l0 n i _ h)))
theorem setMAA (l0 : List Obj) (o1 : Obj) (o2 : Obj) (n i : Nat) (v : Value) (w : World) (h : n < w.heap.size) : World.setCell (World.alloc (World.alloc (more w l0) o1) o2) ⟨n, i, none⟩ v = (World.alloc (World.alloc (more (w.setCell ⟨n, i, none⟩ v) l0) o1) o2) := by
  rw [World.setCell_alloc_past o2 n i v (lt_alloc (more_lt h l0) o1), World.setCell_alloc_past o1 n i v (more_lt h l0), setCell_more l0 n i v _ h]

theorem cellMAAM (l0 : List Obj) (o1 : Obj) (o2 : Obj) (l3 : List Obj) (n i : Nat) (w : World) (h : n < w.heap.size) : World.cell? (more (World.alloc (World.alloc (more w l0) o1) o2) l3) ⟨n, i, none⟩ = w.cell? ⟨n, i, none⟩ :=
  ((cell?_more l3 n i _ (lt_alloc (lt_alloc (more_lt h l0) o1) o2)).trans ((World.cell?_alloc_past o2 n i (lt_alloc (more_lt h l0) o1)).trans ((World.cell?_alloc_past o1 n i (more_lt h l0)).trans (cell?_more l0 n i _ h))))
theorem frozenMAAM (l0 : List Obj) (o1 : Obj) (o2 : Obj) (l3 : List Obj) (n i : Nat) (w : World) (h : n < w.heap.size) : World.frozen? (more (World.alloc (World.alloc (more w l0) o1) o2) l3) ⟨n, i, none⟩ = w.frozen? ⟨n, i, none⟩ :=
  ((frozen?_more l3 n i _ (lt_alloc (lt_alloc (more_lt h l0) o1) o2)).trans ((World.frozen?_alloc_past o2 n i (lt_alloc (more_lt h l0) o1)).trans ((World.frozen?_alloc_past o1 n i (more_lt h l0)).trans (frozen?_more l0 n i _ h))))
theorem setMAAM (l0 : List Obj) (o1 : Obj) (o2 : Obj) (l3 : List Obj) (n i : Nat) (v : Value) (w : World) (h : n < w.heap.size) : World.setCell (more (World.alloc (World.alloc (more w l0) o1) o2) l3) ⟨n, i, none⟩ v = (more (World.alloc (World.alloc (more (w.setCell ⟨n, i, none⟩ v) l0) o1) o2) l3) := by
  rw [setCell_more l3 n i v _ (lt_alloc (lt_alloc (more_lt h l0) o1) o2), World.setCell_alloc_past o2 n i v (lt_alloc (more_lt h l0) o1), World.setCell_alloc_past o1 n i v (more_lt h l0), setCell_more l0 n i v _ h]

theorem cellMAMA (l0 : List Obj) (o1 : Obj) (l2 : List Obj) (o3 : Obj) (n i : Nat) (w : World) (h : n < w.heap.size) : World.cell? (World.alloc (more (World.alloc (more w l0) o1) l2) o3) ⟨n, i, none⟩ = w.cell? ⟨n, i, none⟩ :=
  ((World.cell?_alloc_past o3 n i (more_lt (lt_alloc (more_lt h l0) o1) l2)).trans ((cell?_more l2 n i _ (lt_alloc (more_lt h l0) o1)).trans ((World.cell?_alloc_past o1 n i (more_lt h l0)).trans (cell?_more l0 n i _ h))))
theorem frozenMAMA (l0 : List Obj) (o1 : Obj) (l2 : List Obj) (o3 : Obj) (n i : Nat) (w : World) (h : n < w.heap.size) : World.frozen? (World.alloc (more (World.alloc (more w l0) o1) l2) o3) ⟨n, i, none⟩ = w.frozen? ⟨n, i, none⟩ :=
  ((World.frozen?_alloc_past o3 n i (more_lt (lt_alloc (more_lt h l0) o1) l2)).trans ((frozen?_more l2 n i _ (lt_alloc (more_lt h l0) o1)).trans ((World.frozen?_alloc_past o1 n i (more_lt h l0)).trans (frozen?_more l0 n i _ h))))
theorem setMAMA (l0 : List Obj) (o1 : Obj) (l2 : List Obj) (o3 : Obj) (n i : Nat) (v : Value) (w : World) (h : n < w.heap.size) : World.setCell (World.alloc (more (World.alloc (more w l0) o1) l2) o3) ⟨n, i, none⟩ v = (World.alloc (more (World.alloc (more (w.setCell ⟨n, i, none⟩ v) l0) o1) l2) o3) := by
  rw [World.setCell_alloc_past o3 n i v (more_lt (lt_alloc (more_lt h l0) o1) l2), setCell_more l2 n i v _ (lt_alloc (more_lt h l0) o1), World.setCell_alloc_past o1 n i v (more_lt h l0), setCell_more l0 n i v _ h]

theorem cellMAMAM (l0 : List Obj) (o1 : Obj) (l2 : List Obj) (o3 : Obj) (l4 : List Obj) (n i : Nat) (w : World) (h : n < w.heap.size) : World.cell? (more (World.alloc (more (World.alloc (more w l0) o1) l2) o3) l4) ⟨n, i, none⟩ = w.cell? ⟨n, i, none⟩ :=
  ((cell?_more l4 n i _ (lt_alloc (more_lt (lt_alloc (more_lt h l0) o1) l2) o3)).trans ((World.cell?_alloc_past o3 n i (more_lt (lt_alloc (more_lt h l0) o1) l2)).trans ((cell?_more l2 n i _ (lt_alloc (more_lt h l0) o1)).trans ((World.cell?_alloc_past o1 n i (more_lt h l0)).trans (cell?_more l0 n i _ h)))))
theorem frozenMAMAM (l0 : List Obj) (o1 : Obj) (l2 : List Obj) (o3 : Obj) (l4 : List Obj) (n i : Nat) (w : World) (h : n < w.heap.size) : World.frozen? (more (World.alloc (more (World.alloc (more w l0) o1) l2) o3) l4) ⟨n, i, none⟩ = w.frozen? ⟨n, i, none⟩ :=
  ((frozen?_more l4 n i _ (lt_alloc (more_lt (lt_alloc (more_lt h l0) o1) l2) o3)).trans ((World.frozen?_alloc_past o3 n i (more_lt (lt_alloc (more_lt h l0) o1) l2)).trans ((frozen?_more l2 n i _ (lt_alloc (more_lt h l0) o1)).trans ((World.frozen?_alloc_past o1 n i (more_lt h l0)).trans (frozen?_more l0 n i _ h)))))
theorem setMAMAM (l0 : List Obj) (o1 : Obj) (l2 : List Obj) (o3 : Obj) (l4 : List Obj) (n i : Nat) (v : Value) (w : World) (h : n < w.heap.size) : World.setCell (more (World.alloc (more (World.alloc (more w l0) o1) l2) o3) l4) ⟨n, i, none⟩ v = (more (World.alloc (more (World.alloc (more (w.setCell ⟨n, i, none⟩ v) l0) o1) l2) o3) l4) := by
  rw [setCell_more l4 n i v _ (lt_alloc (more_lt (lt_alloc (more_lt h l0) o1) l2) o3), World.setCell_alloc_past o3 n i v (more_lt (lt_alloc (more_lt h l0) o1) l2), setCell_more l2 n i v _ (lt_alloc (more_lt h l0) o1), World.setCell_alloc_past o1 n i v (more_lt h l0), setCell_more l0 n i v _ h]

theorem cellMAMAMA (l0 : List Obj) (o1 : Obj) (l2 : List Obj) (o3 : Obj) (l4 : List Obj) (o5 : Obj) (n i : Nat) (w : World) (h : n < w.heap.size) : World.cell? (World.alloc (more (World.alloc (more (World.alloc (more w l0) o1) l2) o3) l4) o5) ⟨n, i, none⟩ = w.cell? ⟨n, i, none⟩ :=
  ((World.cell?_alloc_past o5 n i (more_lt (lt_alloc (more_lt (lt_alloc (more_lt h l0) o1) l2) o3) l4)).trans ((cell?_more l4 n i _ (lt_alloc (more_lt (lt_alloc (more_lt h l0) o1) l2) o3)).trans ((World.cell?_alloc_past o3 n i (more_lt (lt_alloc (more_lt h l0) o1) l2)).trans ((cell?_more l2 n i _ (lt_alloc (more_lt h l0) o1)).trans ((World.cell?_alloc_past o1 n i (more_lt h l0)).trans (cell?_more l0 n i _ h))))))
theorem frozenMAMAMA (l0 : List Obj) (o1 : Obj) (l2 : List Obj) (o3 : Obj) (l4 : List Obj) (o5 : Obj) (n i : Nat) (w : World) (h : n < w.heap.size) : World.frozen? (World.alloc (more (World.alloc (more (World.alloc (more w l0) o1) l2) o3) l4) o5) ⟨n, i, none⟩ = w.frozen? ⟨n, i, none⟩ :=
  ((World.frozen?_alloc_past o5 n i (more_lt (lt_alloc (more_lt (lt_alloc (more_lt h l0) o1) l2) o3) l4)).trans ((frozen?_more l4 n i _ (lt_alloc (more_lt (lt_alloc (more_lt h l0) o1) l2) o3)).trans ((World.frozen?_alloc_past o3 n i (more_lt (lt_alloc (more_lt h l0) o1) l2)).trans ((frozen?_more l2 n i _ (lt_alloc (more_lt h l0) o1)).trans ((World.frozen?_alloc_past o1 n i (more_lt h l0)).trans (frozen?_more l0 n i _ h))))))
theorem setMAMAMA (l0 : List Obj) (o1 : Obj) (l2 : List Obj) (o3 : Obj) (l4 : List Obj) (o5 : Obj) (n i : Nat) (v : Value) (w : World) (h : n < w.heap.size) : World.setCell (World.alloc (more (World.alloc (more (World.alloc (more w l0) o1) l2) o3) l4) o5) ⟨n, i, none⟩ v = (World.alloc (more (World.alloc (more (World.alloc (more (w.setCell ⟨n, i, none⟩ v) l0) o1) l2) o3) l4) o5) := by
  rw [World.setCell_alloc_past o5 n i v (more_lt (lt_alloc (more_lt (lt_alloc (more_lt h l0) o1) l2) o3) l4), setCell_more l4 n i v _ (lt_alloc (more_lt (lt_alloc (more_lt h l0) o1) l2) o3), World.setCell_alloc_past o3 n i v (more_lt (lt_alloc (more_lt h l0) o1) l2), setCell_more l2 n i v _ (lt_alloc (more_lt h l0) o1), World.setCell_alloc_past o1 n i v (more_lt h l0), setCell_more l0 n i v _ h]

theorem cellMAMAMAM (l0 : List Obj) (o1 : Obj) (l2 : List Obj) (o3 : Obj) (l4 : List Obj) (o5 : Obj) (l6 : List Obj) (n i : Nat) (w : World) (h : n < w.heap.size) : World.cell? (more (World.alloc (more (World.alloc (more (World.alloc (more w l0) o1) l2) o3) l4) o5) l6) ⟨n, i, none⟩ = w.cell? ⟨n, i, none⟩ :=
  ((cell?_more l6 n i _ (lt_alloc (more_lt (lt_alloc (more_lt (lt_alloc (more_lt h l0) o1) l2) o3) l4) o5)).trans ((World.cell?_alloc_past o5 n i (more_lt (lt_alloc (more_lt (lt_alloc (more_lt h l0) o1) l2) o3) l4)).trans ((cell?_more l4 n i _ (lt_alloc (more_lt (lt_alloc (more_lt h l0) o1) l2) o3)).trans ((World.cell?_alloc_past o3 n i (more_lt (lt_alloc (more_lt h l0) o1) l2)).trans ((cell?_more l2 n i _ (lt_alloc (more_lt h l0) o1)).trans ((World.cell?_alloc_past o1 n i (more_lt h l0)).trans (cell?_more l0 n i _ h)))))))
theorem frozenMAMAMAM (l0 : List Obj) (o1 : Obj) (l2 : List Obj) (o3 : Obj) (l4 : List Obj) (o5 : Obj) (l6 : List Obj) (n i : Nat) (w : World) (h : n < w.heap.size) : World.frozen? (more (World.alloc (more (World.alloc (more (World.alloc (more w l0) o1) l2) o3) l4) o5) l6) ⟨n, i, none⟩ = w.frozen? ⟨n, i, none⟩ :=
  ((frozen?_more l6 n i _ (lt_alloc (more_lt (lt_alloc (more_lt (lt_alloc (more_lt h l0) o1) l2) o3) l4) o5)).trans ((World.frozen?_alloc_past o5 n i (more_lt (lt_alloc (more_lt (lt_alloc (more_lt h l0) o1) l2) o3) l4)).trans ((frozen?_more l4 n i _ (lt_alloc (more_lt (lt_alloc (more_lt h l0) o1) l2) o3)).trans ((World.frozen?_alloc_past o3 n i (more_lt (lt_alloc (more_lt h l0) o1) l2)).trans ((frozen?_more l2 n i _ (lt_alloc (more_lt h l0) o1)).trans ((World.frozen?_alloc_past o1 n i (more_lt h l0)).trans (frozen?_more l0 n i _ h)))))))
theorem setMAMAMAM (l0 : List Obj) (o1 : Obj) (l2 : List Obj) (o3 : Obj) (l4 : List Obj) (o5 : Obj) (l6 : List Obj) (n i : Nat) (v : Value) (w : World) (h : n < w.heap.size) : World.setCell (more (World.alloc (more (World.alloc (more (World.alloc (more w l0) o1) l2) o3) l4) o5) l6) ⟨n, i, none⟩ v = (more (World.alloc (more (World.alloc (more (World.alloc (more (w.setCell ⟨n, i, none⟩ v) l0) o1) l2) o3) l4) o5) l6) := by
  rw [setCell_more l6 n i v _ (lt_alloc (more_lt (lt_alloc (more_lt (lt_alloc (more_lt h l0) o1) l2) o3) l4) o5), World.setCell_alloc_past o5 n i v (more_lt (lt_alloc (more_lt (lt_alloc (more_lt h l0) o1) l2) o3) l4), setCell_more l4 n i v _ (lt_alloc (more_lt (lt_alloc (more_lt h l0) o1) l2) o3), World.setCell_alloc_past o3 n i v (more_lt (lt_alloc (more_lt h l0) o1) l2), setCell_more l2 n i v _ (lt_alloc (more_lt h l0) o1), World.setCell_alloc_past o1 n i v (more_lt h l0), setCell_more l0 n i v _ h]

end Go.Proofs.YtibbenhplmmmiaaDoor
