/-
  Points of the plane with whole coordinates as numbers: the nearest quotient, the rest and their sizes. Nothing of the program is in it.
  Worlds of several layers: how a cell of an older block reads, and how a store into it goes inward. Nothing of the program is in it.
-/
import Derived.WalkKit
import Derived.Test.YtgapmofhnjfdiaaGreatDoorMeDWide3
namespace Go.Proofs.YtgapmofhnjfdiaaGreatDoor.Ga

theorem mul_bdp {x u A B : Int} (hA : 0 ≤ A) (x1 : -A ≤ x) (x2 : x ≤ A) (u1 : -B ≤ u) (u2 : u ≤ B) : -(A * B) ≤ x * u ∧ x * u ≤ A * B := by
  have hB : 0 ≤ B := by omega
  have h1 : (x * u).natAbs ≤ A.natAbs * B.natAbs := by rw [Int.natAbs_mul]; exact Nat.mul_le_mul (by omega) (by omega)
  have h2 : ((A.natAbs * B.natAbs : Nat) : Int) = A * B := by rw [Int.natCast_mul, Int.natAbs_of_nonneg hA, Int.natAbs_of_nonneg hB]
  omega

/-- The nearest whole number, of two as near the greater one. -/
def nst (o u : Int) : Int := (2 * o + u) / (2 * u)

theorem nst_bd (o n : Int) (hn : 0 < n) : 2 * (n * nst o n) ≤ 2 * o + n ∧ 2 * o < 2 * (n * nst o n) + n := by
  unfold nst
  have h1 := Int.mul_ediv_add_emod (2 * o + n) (2 * n)
  have h2 := Int.emod_nonneg (2 * o + n) (show 2 * n ≠ 0 by omega)
  have h3 := Int.emod_lt_of_pos (2 * o + n) (show 0 < 2 * n by omega)
  rw [Int.mul_assoc] at h1
  omega
theorem sq_le {r A : Int} (hA : 0 ≤ A) (h : r * r ≤ A * A) : -A ≤ r ∧ r ≤ A := by
  have h1 : r.natAbs * r.natAbs ≤ A.natAbs * A.natAbs := by
    have e1 := Int.natAbs_mul_self (a := r)
    have e2 := Int.natAbs_mul_self (a := A)
    have : ((r.natAbs * r.natAbs : Nat) : Int) ≤ ((A.natAbs * A.natAbs : Nat) : Int) := by rw [e1, e2]; exact h
    exact_mod_cast this
  have := Nat.mul_self_le_mul_self_iff.1 h1
  omega
theorem sq_nn (r : Int) : 0 ≤ r * r := by
  have e1 := Int.natAbs_mul_self (a := r)
  have : 0 ≤ ((r.natAbs * r.natAbs : Nat) : Int) := Int.natCast_nonneg _
  push_cast at this
  omega
theorem norm_zero {u v : Int} (h : u * u + v * v = 0) : u = 0 ∧ v = 0 := by
  have h1 := sq_nn u
  have h2 := sq_nn v
  have a := sq_le (r := u) (A := 0) (by decide) (by omega)
  have b := sq_le (r := v) (A := 0) (by decide) (by omega)
  omega
theorem norm_pos {u v : Int} (h : ¬ (u = 0 ∧ v = 0)) : 0 < u * u + v * v := by
  have h1 := sq_nn u
  have h2 := sq_nn v
  rcases Int.lt_or_le 0 (u * u + v * v) with h' | h'
  · exact h'
  · exact absurd (norm_zero (u := u) (v := v) (by omega)) h

/-- The quotient of two points and the rest. -/
def qX (x y u v : Int) : Int := nst (x * u + y * v) (u * u + v * v)
def qY (x y u v : Int) : Int := nst (y * u - x * v) (u * u + v * v)
def rX (x y u v : Int) : Int := x - (u * qX x y u v - v * qY x y u v)
def rY (x y u v : Int) : Int := y - (u * qY x y u v + v * qX x y u v)

/-- The rest's norm is at most half of the divisor's. -/
theorem rest_half (x y u v : Int) (h : 0 < u * u + v * v) : 2 * (rX x y u v * rX x y u v + rY x y u v * rY x y u v) ≤ u * u + v * v := by
  obtain ⟨a1, a2⟩ := nst_bd (x * u + y * v) (u * u + v * v) h
  obtain ⟨b1, b2⟩ := nst_bd (y * u - x * v) (u * u + v * v) h
  unfold rX rY
  rw [show nst (x * u + y * v) (u * u + v * v) = qX x y u v from rfl] at a1 a2
  rw [show nst (y * u - x * v) (u * u + v * v) = qY x y u v from rfl] at b1 b2
  generalize qX x y u v = c at *
  generalize qY x y u v = d at *
  have m1 := mul_bdp (x := 2 * ((x * u + y * v) - (u * u + v * v) * c)) (u := 2 * ((x * u + y * v) - (u * u + v * v) * c)) (A := u * u + v * v) (B := u * u + v * v) (by omega) (by omega) (by omega) (by omega) (by omega)
  have m2 := mul_bdp (x := 2 * ((y * u - x * v) - (u * u + v * v) * d)) (u := 2 * ((y * u - x * v) - (u * u + v * v) * d)) (A := u * u + v * v) (B := u * u + v * v) (by omega) (by omega) (by omega) (by omega) (by omega)
  have id : 2 * ((x * u + y * v) - (u * u + v * v) * c) * (2 * ((x * u + y * v) - (u * u + v * v) * c)) + 2 * ((y * u - x * v) - (u * u + v * v) * d) * (2 * ((y * u - x * v) - (u * u + v * v) * d))
      = (u * u + v * v) * (4 * ((x - (u * c - v * d)) * (x - (u * c - v * d)) + (y - (u * d + v * c)) * (y - (u * d + v * c)))) := by grind
  have k : (u * u + v * v) * (4 * ((x - (u * c - v * d)) * (x - (u * c - v * d)) + (y - (u * d + v * c)) * (y - (u * d + v * c)))) ≤ (u * u + v * v) * (2 * (u * u + v * v)) := by
    rw [← id]
    have : (u * u + v * v) * (2 * (u * u + v * v)) = (u * u + v * v) * (u * u + v * v) + (u * u + v * v) * (u * u + v * v) := by grind
    omega
  have := Int.le_of_mul_le_mul_left k h
  omega

theorem unit_cases {u v : Int} (h : u * u + v * v = 1) : (u = 1 ∧ v = 0) ∨ (u = -1 ∧ v = 0) ∨ (u = 0 ∧ v = 1) ∨ (u = 0 ∧ v = -1) := by
  have h1 := sq_nn u
  have h2 := sq_nn v
  have a := sq_le (r := u) (A := 1) (by decide) (by omega)
  have b := sq_le (r := v) (A := 1) (by decide) (by omega)
  have ha : u = -1 ∨ u = 0 ∨ u = 1 := by omega
  have hb : v = -1 ∨ v = 0 ∨ v = 1 := by omega
  rcases ha with rfl | rfl | rfl <;> rcases hb with rfl | rfl | rfl <;> simp_all

theorem quo_bd1 (o n A : Int) (hn : 0 < n) (h1 : -(A * n) ≤ o) (h2 : o ≤ A * n) : -A ≤ nst o n ∧ nst o n ≤ A := by
  obtain ⟨a1, a2⟩ := nst_bd o n hn
  generalize nst o n = c at *
  constructor
  · rcases Int.lt_or_le c (-A) with h | h
    · have : n * c ≤ n * (-A - 1) := Int.mul_le_mul_of_nonneg_left (by omega) (by omega)
      have e : n * (-A - 1) = -(A * n) - n := by grind
      omega
    · exact h
  · rcases Int.lt_or_le A c with h | h
    · have : n * (A + 1) ≤ n * c := Int.mul_le_mul_of_nonneg_left (by omega) (by omega)
      have e : n * (A + 1) = A * n + n := by grind
      omega
    · exact h

/-- The quotient and the rest of two points that may be may be. -/
theorem quo_ok (x y u v : Int) (hx : -1048576 ≤ x ∧ x ≤ 1048576) (hy : -1048576 ≤ y ∧ y ≤ 1048576) (h : 0 < u * u + v * v) :
    (-1048576 ≤ qX x y u v ∧ qX x y u v ≤ 1048576) ∧ (-1048576 ≤ qY x y u v ∧ qY x y u v ≤ 1048576) := by
  by_cases h1 : u * u + v * v = 1
  · unfold qX qY
    rw [h1]
    rcases unit_cases h1 with ⟨rfl, rfl⟩ | ⟨rfl, rfl⟩ | ⟨rfl, rfl⟩ | ⟨rfl, rfl⟩ <;> unfold nst <;> omega
  · have mx := mul_bdp (A := 1048576) (B := 1048576) (by decide) hx.1 hx.2 hx.1 hx.2
    have my := mul_bdp (A := 1048576) (B := 1048576) (by decide) hy.1 hy.2 hy.1 hy.2
    have id : (x * u + y * v) * (x * u + y * v) + (y * u - x * v) * (y * u - x * v) = (x * x + y * y) * (u * u + v * v) := by grind
    have s1 := sq_nn (x * u + y * v)
    have s2 := sq_nn (y * u - x * v)
    have hb : (x * x + y * y) * (u * u + v * v) ≤ (1048576 * (u * u + v * v)) * (1048576 * (u * u + v * v)) := by
      have e1 : (x * x + y * y) * (u * u + v * v) ≤ 2199023255552 * (u * u + v * v) := Int.mul_le_mul_of_nonneg_right (by omega) (by omega)
      have e2 : 2199023255552 * (u * u + v * v) ≤ (1099511627776 * (u * u + v * v)) * (u * u + v * v) := by
        have : 2 * (1099511627776 * (u * u + v * v)) ≤ (u * u + v * v) * (1099511627776 * (u * u + v * v)) := Int.mul_le_mul_of_nonneg_right (by omega) (by omega)
        have e : (u * u + v * v) * (1099511627776 * (u * u + v * v)) = (1099511627776 * (u * u + v * v)) * (u * u + v * v) := Int.mul_comm _ _
        omega
      have e3 : (1048576 * (u * u + v * v)) * (1048576 * (u * u + v * v)) = (1099511627776 * (u * u + v * v)) * (u * u + v * v) := by grind
      omega
    have k1 := sq_le (r := x * u + y * v) (A := 1048576 * (u * u + v * v)) (by omega) (by omega)
    have k2 := sq_le (r := y * u - x * v) (A := 1048576 * (u * u + v * v)) (by omega) (by omega)
    exact ⟨quo_bd1 _ _ 1048576 h k1.1 k1.2, quo_bd1 _ _ 1048576 h k2.1 k2.2⟩

theorem rest_ok (x y u v : Int) (hu : -1048576 ≤ u ∧ u ≤ 1048576) (hv : -1048576 ≤ v ∧ v ≤ 1048576) (h : 0 < u * u + v * v) :
    (-1048576 ≤ rX x y u v ∧ rX x y u v ≤ 1048576) ∧ (-1048576 ≤ rY x y u v ∧ rY x y u v ≤ 1048576) := by
  have hh := rest_half x y u v h
  have mu := mul_bdp (A := 1048576) (B := 1048576) (by decide) hu.1 hu.2 hu.1 hu.2
  have mv := mul_bdp (A := 1048576) (B := 1048576) (by decide) hv.1 hv.2 hv.1 hv.2
  have s1 := sq_nn (rX x y u v)
  have s2 := sq_nn (rY x y u v)
  exact ⟨sq_le (A := 1048576) (by decide) (by omega), sq_le (A := 1048576) (by decide) (by omega)⟩
end Go.Proofs.YtgapmofhnjfdiaaGreatDoor.Ga

namespace Go.Proofs.YtgapmofhnjfdiaaGreatDoor.Ga
open Go.RowKit

theorem lt_alloc {n : Nat} {w : World} (h : n < w.heap.size) (o : Obj) : n < (w.alloc o).heap.size := by simp; omega

theorem cellMA (l0 : List Obj) (o1 : Obj) (n i : Nat) (w : World) (h : n < w.heap.size) : World.cell? (World.alloc (more w l0) o1) ⟨n, i, none⟩ = w.cell? ⟨n, i, none⟩ :=
  ((World.cell?_alloc_past o1 n i (more_lt h l0)).trans (cell?_more l0 n i _ h))
theorem frozenMA (l0 : List Obj) (o1 : Obj) (n i : Nat) (w : World) (h : n < w.heap.size) : World.frozen? (World.alloc (more w l0) o1) ⟨n, i, none⟩ = w.frozen? ⟨n, i, none⟩ :=
  ((World.frozen?_alloc_past o1 n i (more_lt h l0)).trans (frozen?_more l0 n i _ h))
theorem setMA (l0 : List Obj) (o1 : Obj) (n i : Nat) (v : Value) (w : World) (h : n < w.heap.size) : World.setCell (World.alloc (more w l0) o1) ⟨n, i, none⟩ v = (World.alloc (more (w.setCell ⟨n, i, none⟩ v) l0) o1) := by
  rw [World.setCell_alloc_past o1 n i v (more_lt h l0), setCell_more l0 n i v _ h]

theorem cellMAM (l0 : List Obj) (o1 : Obj) (l2 : List Obj) (n i : Nat) (w : World) (h : n < w.heap.size) : World.cell? (more (World.alloc (more w l0) o1) l2) ⟨n, i, none⟩ = w.cell? ⟨n, i, none⟩ :=
  ((cell?_more l2 n i _ (lt_alloc (more_lt h l0) o1)).trans ((World.cell?_alloc_past o1 n i (more_lt h l0)).trans (cell?_more l0 n i _ h)))
theorem frozenMAM (l0 : List Obj) (o1 : Obj) (l2 : List Obj) (n i : Nat) (w : World) (h : n < w.heap.size) : World.frozen? (more (World.alloc (more w l0) o1) l2) ⟨n, i, none⟩ = w.frozen? ⟨n, i, none⟩ :=
  ((frozen?_more l2 n i _ (lt_alloc (more_lt h l0) o1)).trans ((World.frozen?_alloc_past o1 n i (more_lt h l0)).trans (frozen?_more l0 n i _ h)))
theorem setMAM (l0 : List Obj) (o1 : Obj) (l2 : List Obj) (n i : Nat) (v : Value) (w : World) (h : n < w.heap.size) : World.setCell (more (World.alloc (more w l0) o1) l2) ⟨n, i, none⟩ v = (more (World.alloc (more (w.setCell ⟨n, i, none⟩ v) l0) o1) l2) := by
  rw [setCell_more l2 n i v _ (lt_alloc (more_lt h l0) o1), World.setCell_alloc_past o1 n i v (more_lt h l0), setCell_more l0 n i v _ h]

theorem cellMAA (l0 : List Obj) (o1 : Obj) (o2 : Obj) (n i : Nat) (w : World) (h : n < w.heap.size) : World.cell? (World.alloc (World.alloc (more w l0) o1) o2) ⟨n, i, none⟩ = w.cell? ⟨n, i, none⟩ :=
  ((World.cell?_alloc_past o2 n i (lt_alloc (more_lt h l0) o1)).trans ((World.cell?_alloc_past o1 n i (more_lt h l0)).trans (cell?_more l0 n i _ h)))
theorem frozenMAA (l0 : List Obj) (o1 : Obj) (o2 : Obj) (n i : Nat) (w : World) (h : n < w.heap.size) : World.frozen? (World.alloc (World.alloc (more w l0) o1) o2) ⟨n, i, none⟩ = w.frozen? ⟨n, i, none⟩ :=
  ((World.frozen?_alloc_past o2 n i (lt_alloc (more_lt h l0) o1)).trans ((World.frozen?_alloc_past o1 n i (more_lt h l0)).trans (frozen?_more l0 n i _ h)))
theorem setMAA (l0 : List Obj) (o1 : Obj) (o2 : Obj) (n i : Nat) (v : Value) (w : World) (h : n < w.heap.size) : World.setCell (World.alloc (World.alloc (more w l0) o1) o2) ⟨n, i, none⟩ v = (World.alloc (World.alloc (more (w.setCell ⟨n, i, none⟩ v) l0) o1) o2) := by
  rw [World.setCell_alloc_past o2 n i v (lt_alloc (more_lt h l0) o1), World.setCell_alloc_past o1 n i v (more_lt h l0), setCell_more l0 n i v _ h]

theorem cellMAAM (l0 : List Obj) (o1 : Obj) (o2 : Obj) (l3 : List Obj) (n i : Nat) (w : World) (h : n < w.heap.size) : World.cell? (more (World.alloc (World.alloc (more w l0) o1) o2) l3) ⟨n, i, none⟩ = w.cell? ⟨n, i, none⟩ :=
  ((cell?_more l3 n i _ (lt_alloc (lt_alloc (more_lt h l0) o1) o2)).trans ((World.cell?_alloc_past o2 n i (lt_alloc (more_lt h l0) o1)).trans ((World.cell?_alloc_past o1 n i (more_lt h l0)).trans (cell?_more l0 n i _ h))))
theorem frozenMAAM (l0 : List Obj) (o1 : Obj) (o2 : Obj) (l3 : List Obj) (n i : Nat) (w : World) (h : n < w.heap.size) : World.frozen? (more (World.alloc (World.alloc (more w l0) o1) o2) l3) ⟨n, i, none⟩ = w.frozen? ⟨n, i, none⟩ :=
  ((frozen?_more l3 n i _ (lt_alloc (lt_alloc (more_lt h l0) o1) o2)).trans ((World.frozen?_alloc_past o2 n i (lt_alloc (more_lt h l0) o1)).trans ((World.frozen?_alloc_past o1 n i (more_lt h l0)).trans (frozen?_more l0 n i _ h))))
theorem setMAAM (l0 : List Obj) (o1 : Obj) (o2 : Obj) (l3 : List Obj) (n i : Nat) (v : Value) (w : World) (h : n < w.heap.size) : World.setCell (more (World.alloc (World.alloc (more w l0) o1) o2) l3) ⟨n, i, none⟩ v = (more (World.alloc (World.alloc (more (w.setCell ⟨n, i, none⟩ v) l0) o1) o2) l3) := by
  rw [setCell_more l3 n i v _ (lt_alloc (lt_alloc (more_lt h l0) o1) o2), World.setCell_alloc_past o2 n i v (lt_alloc (more_lt h l0) o1), World.setCell_alloc_past o1 n i v (more_lt h l0), setCell_more l0 n i v _ h]

theorem cellMAMA (l0 : List Obj) (o1 : Obj) (l2 : List Obj) (o3 : Obj) (n i : Nat) (w : World) (h : n < w.heap.size) : World.cell? (World.alloc (more (World.alloc (more w l0) o1) l2) o3) ⟨n, i, none⟩ = w.cell? ⟨n, i, none⟩ :=
  ((World.cell?_alloc_past o3 n i (more_lt (lt_alloc (more_lt h l0) o1) l2)).trans ((cell?_more l2 n i _ (lt_alloc (more_lt h l0) o1)).trans ((World.cell?_alloc_past o1 n i (more_lt h l0)).trans (cell?_more l0 n i _ h))))
theorem frozenMAMA (l0 : List Obj) (o1 : Obj) (l2 : List Obj) (o3 : Obj) (n i : Nat) (w : World) (h : n < w.heap.size) : World.frozen? (World.alloc (more (World.alloc (more w l0) o1) l2) o3) ⟨n, i, none⟩ = w.frozen? ⟨n, i, none⟩ :=
  ((World.frozen?_alloc_past o3 n i (more_lt (lt_alloc (more_lt h l0) o1) l2)).trans ((frozen?_more l2 n i _ (lt_alloc (more_lt h l0) o1)).trans ((World.frozen?_alloc_past o1 n i (more_lt h l0)).trans (frozen?_more l0 n i _ h))))
theorem setMAMA (l0 : List Obj) (o1 : Obj) (l2 : List Obj) (o3 : Obj) (n i : Nat) (v : Value) (w : World) (h : n < w.heap.size) : World.setCell (World.alloc (more (World.alloc (more w l0) o1) l2) o3) ⟨n, i, none⟩ v = (World.alloc (more (World.alloc (more (w.setCell ⟨n, i, none⟩ v) l0) o1) l2) o3) := by
  rw [World.setCell_alloc_past o3 n i v (more_lt (lt_alloc (more_lt h l0) o1) l2), setCell_more l2 n i v _ (lt_alloc (more_lt h l0) o1), World.setCell_alloc_past o1 n i v (more_lt h l0), setCell_more l0 n i v _ h]

theorem cellMAMAM (l0 : List Obj) (o1 : Obj) (l2 : List Obj) (o3 : Obj) (l4 : List Obj) (n i : Nat) (w : World) (h : n < w.heap.size) : World.cell? (more (World.alloc (more (World.alloc (more w l0) o1) l2) o3) l4) ⟨n, i, none⟩ = w.cell? ⟨n, i, none⟩ :=
  ((cell?_more l4 n i _ (lt_alloc (more_lt (lt_alloc (more_lt h l0) o1) l2) o3)).trans ((World.cell?_alloc_past o3 n i (more_lt (lt_alloc (more_lt h l0) o1) l2)).trans ((cell?_more l2 n i _ (lt_alloc (more_lt h l0) o1)).trans ((World.cell?_alloc_past o1 n i (more_lt h l0)).trans (cell?_more l0 n i _ h)))))
theorem frozenMAMAM (l0 : List Obj) (o1 : Obj) (l2 : List Obj) (o3 : Obj) (l4 : List Obj) (n i : Nat) (w : World) (h : n < w.heap.size) : World.frozen? (more (World.alloc (more (World.alloc (more w l0) o1) l2) o3) l4) ⟨n, i, none⟩ = w.frozen? ⟨n, i, none⟩ :=
  ((frozen?_more l4 n i _ (lt_alloc (more_lt (lt_alloc (more_lt h l0) o1) l2) o3)).trans ((World.frozen?_alloc_past o3 n i (more_lt (lt_alloc (more_lt h l0) o1) l2)).trans ((frozen?_more l2 n i _ (lt_alloc (more_lt h l0) o1)).trans ((World.frozen?_alloc_past o1 n i (more_lt h l0)).trans (frozen?_more l0 n i _ h)))))
theorem setMAMAM (l0 : List Obj) (o1 : Obj) (l2 : List Obj) (o3 : Obj) (l4 : List Obj) (n i : Nat) (v : Value) (w : World) (h : n < w.heap.size) : World.setCell (more (World.alloc (more (World.alloc (more w l0) o1) l2) o3) l4) ⟨n, i, none⟩ v = (more (World.alloc (more (World.alloc (more (w.setCell ⟨n, i, none⟩ v) l0) o1) l2) o3) l4) := by
  rw [setCell_more l4 n i v _ (lt_alloc (more_lt (lt_alloc (more_lt h l0) o1) l2) o3), World.setCell_alloc_past o3 n i v (more_lt (lt_alloc (more_lt h l0) o1) l2), setCell_more l2 n i v _ (lt_alloc (more_lt h l0) o1), World.setCell_alloc_past o1 n i v (more_lt h l0), setCell_more l0 n i v _ h]

theorem cellMAMAMA (l0 : List Obj) (o1 : Obj) (l2 : List Obj) (o3 : Obj) (l4 : List Obj) (o5 : Obj) (n i : Nat) (w : World) (h : n < w.heap.size) : World.cell? (World.alloc (more (World.alloc (more (World.alloc (more w l0) o1) l2) o3) l4) o5) ⟨n, i, none⟩ = w.cell? ⟨n, i, none⟩ :=
  ((World.cell?_alloc_past o5 n i (more_lt (lt_alloc (more_lt (lt_alloc (more_lt h l0) o1) l2) o3) l4)).trans ((cell?_more l4 n i _ (lt_alloc (more_lt (lt_alloc (more_lt h l0) o1) l2) o3)).trans ((World.cell?_alloc_past o3 n i (more_lt (lt_alloc (more_lt h l0) o1) l2)).trans ((cell?_more l2 n i _ (lt_alloc (more_lt h l0) o1)).trans ((World.cell?_alloc_past o1 n i (more_lt h l0)).trans (cell?_more l0 n i _ h))))))
theorem frozenMAMAMA (l0 : List Obj) (o1 : Obj) (l2 : List Obj) (o3 : Obj) (l4 : List Obj) (o5 : Obj) (n i : Nat) (w : World) (h : n < w.heap.size) : World.frozen? (World.alloc (more (World.alloc (more (World.alloc (more w l0) o1) l2) o3) l4) o5) ⟨n, i, none⟩ = w.frozen? ⟨n, i, none⟩ :=
  ((World.frozen?_alloc_past o5 n i (more_lt (lt_alloc (more_lt (lt_alloc (more_lt h l0) o1) l2) o3) l4)).trans ((frozen?_more l4 n i _ (lt_alloc (more_lt (lt_alloc (more_lt h l0) o1) l2) o3)).trans ((World.frozen?_alloc_past o3 n i (more_lt (lt_alloc (more_lt h l0) o1) l2)).trans ((frozen?_more l2 n i _ (lt_alloc (more_lt h l0) o1)).trans ((World.frozen?_alloc_past o1 n i (more_lt h l0)).trans (frozen?_more l0 n i _ h))))))
theorem setMAMAMA (l0 : List Obj) (o1 : Obj) (l2 : List Obj) (o3 : Obj) (l4 : List Obj) (o5 : Obj) (n i : Nat) (v : Value) (w : World) (h : n < w.heap.size) : World.setCell (World.alloc (more (World.alloc (more (World.alloc (more w l0) o1) l2) o3) l4) o5) ⟨n, i, none⟩ v = (World.alloc (more (World.alloc (more (World.alloc (more (w.setCell ⟨n, i, none⟩ v) l0) o1) l2) o3) l4) o5) := by
  rw [World.setCell_alloc_past o5 n i v (more_lt (lt_alloc (more_lt (lt_alloc (more_lt h l0) o1) l2) o3) l4), setCell_more l4 n i v _ (lt_alloc (more_lt (lt_alloc (more_lt h l0) o1) l2) o3), World.setCell_alloc_past o3 n i v (more_lt (lt_alloc (more_lt h l0) o1) l2), setCell_more l2 n i v _ (lt_alloc (more_lt h l0) o1), World.setCell_alloc_past o1 n i v (more_lt h l0), setCell_more l0 n i v _ h]

theorem cellMAMAMAM (l0 : List Obj) (o1 : Obj) (l2 : List Obj) (o3 : Obj) (l4 : List Obj) (o5 : Obj) (l6 : List Obj) (n i : Nat) (w : World) (h : n < w.heap.size) : World.cell? (more (World.alloc (more (World.alloc (more (World.alloc (more w l0) o1) l2) o3) l4) o5) l6) ⟨n, i, none⟩ = w.cell? ⟨n, i, none⟩ :=
  ((cell?_more l6 n i _ (lt_alloc (more_lt (lt_alloc (more_lt (lt_alloc (more_lt h l0) o1) l2) o3) l4) o5)).trans ((World.cell?_alloc_past o5 n i (more_lt (lt_alloc (more_lt (lt_alloc (more_lt h l0) o1) l2) o3) l4)).trans ((cell?_more l4 n i _ (lt_alloc (more_lt (lt_alloc (more_lt h l0) o1) l2) o3)).trans ((World.cell?_alloc_past o3 n i (more_lt (lt_alloc (more_lt h l0) o1) l2)).trans ((cell?_more l2 n i _ (lt_alloc (more_lt h l0) o1)).trans ((World.cell?_alloc_past o1 n i (more_lt h l0)).trans (cell?_more l0 n i _ h)))))))
theorem frozenMAMAMAM (l0 : List Obj) (o1 : Obj) (l2 : List Obj) (o3 : Obj) (l4 : List Obj) (o5 : Obj) (l6 : List Obj) (n i : Nat) (w : World) (h : n < w.heap.size) : World.frozen? (more (World.alloc (more (World.alloc (more (World.alloc (more w l0) o1) l2) o3) l4) o5) l6) ⟨n, i, none⟩ = w.frozen? ⟨n, i, none⟩ :=
  ((frozen?_more l6 n i _ (lt_alloc (more_lt (lt_alloc (more_lt (lt_alloc (more_lt h l0) o1) l2) o3) l4) o5)).trans ((World.frozen?_alloc_past o5 n i (more_lt (lt_alloc (more_lt (lt_alloc (more_lt h l0) o1) l2) o3) l4)).trans ((frozen?_more l4 n i _ (lt_alloc (more_lt (lt_alloc (more_lt h l0) o1) l2) o3)).trans ((World.frozen?_alloc_past o3 n i (more_lt (lt_alloc (more_lt h l0) o1) l2)).trans ((frozen?_more l2 n i _ (lt_alloc (more_lt h l0) o1)).trans ((World.frozen?_alloc_past o1 n i (more_lt h l0)).trans (frozen?_more l0 n i _ h)))))))
theorem setMAMAMAM (l0 : List Obj) (o1 : Obj) (l2 : List Obj) (o3 : Obj) (l4 : List Obj) (o5 : Obj) (l6 : List Obj) (n i : Nat) (v : Value) (w : World) (h : n < w.heap.size) : World.setCell (more (World.alloc (more (World.alloc (more (World.alloc (more w l0) o1) l2) o3) l4) o5) l6) ⟨n, i, none⟩ v = (more (World.alloc (more (World.alloc (more (World.alloc (more (w.setCell ⟨n, i, none⟩ v) l0) o1) l2) o3) l4) o5) l6) := by
  rw [setCell_more l6 n i v _ (lt_alloc (more_lt (lt_alloc (more_lt (lt_alloc (more_lt h l0) o1) l2) o3) l4) o5), World.setCell_alloc_past o5 n i v (more_lt (lt_alloc (more_lt (lt_alloc (more_lt h l0) o1) l2) o3) l4), setCell_more l4 n i v _ (lt_alloc (more_lt (lt_alloc (more_lt h l0) o1) l2) o3), World.setCell_alloc_past o3 n i v (more_lt (lt_alloc (more_lt h l0) o1) l2), setCell_more l2 n i v _ (lt_alloc (more_lt h l0) o1), World.setCell_alloc_past o1 n i v (more_lt h l0), setCell_more l0 n i v _ h]

theorem more_count (os : List Obj) : ∀ w : World, (more w os).heap.size = w.heap.size + os.length := by
  induction os with
  | nil => intro w; rfl
  | cons o os ih => intro w; show (more (w.alloc o) os).heap.size = _; rw [ih]; simp; omega
/-- A block of which nothing is said but that it is there: how many blocks there are does not hang on what lies in them. -/
def blank : Obj := Obj.cells #[] 0
theorem size_blank (cs : Array Value) (t : TypeId) (l : List Obj) (w : World) : (more (w.alloc (Obj.cells cs t)) l).heap.size = (more (w.alloc blank) l).heap.size := by
  rw [more_count, more_count]; simp
end Go.Proofs.YtgapmofhnjfdiaaGreatDoor.Ga
