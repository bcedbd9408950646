/-
  A world with some blocks more and some draws behind it: how its cells read and how a store into an older block goes inward. Nothing of the program is in it.
  The contracts of datum's truths: And, Or, Not, Of, and the document's.
  Plain facts on numbers that the walks of package decimal lean on: signs and magnitudes, rounding to the nearest and to the even one, and the school's division of two words by one. Nothing of the program is in it.
  The contracts of math/bits.Add64, Sub64 and Mul64, as the walks of package decimal meet them: for every word.
-/
import Derived.WalkKit
import Derived.WalkSmall
import Derived.Laws.NewBlocks
import Derived.Deep.Draws
import Derived.Test.YtnpdecbgakgbgaaGreatDoorProg
import Derived.WalkMore
import Derived.WalkSpells
import Derived.WalkLawsBesides
import Derived.RowKit
import Derived.Below
import Derived.Test.YtnpdecbgakgbgaaGreatDoorMbVMath
import Derived.Lib.Mul64
import Derived.Laws.Bits64b
import Derived.Laws.Externs
namespace Go.Proofs.YtnpdecbgakgbgaaGreatDoor
open Go.RowKit

def more (w : World) : List Obj → World
  | [] => w
  | o :: os => more (w.alloc o) os

theorem more_size (os : List Obj) : ∀ w : World, w.heap.size ≤ (more w os).heap.size := by
  induction os with
  | nil => intro w; exact Nat.le_refl _
  | cons o os ih => intro w; exact Nat.le_trans (by simp) (ih (w.alloc o))
theorem more_lt {n : Nat} {w : World} (h : n < w.heap.size) (os : List Obj) : n < (more w os).heap.size := Nat.lt_of_lt_of_le h (more_size os w)
theorem cell?_more (os : List Obj) (n i : Nat) : ∀ (w : World) (_ : n < w.heap.size), (more w os).cell? ⟨n, i, none⟩ = w.cell? ⟨n, i, none⟩ := by
  induction os with
  | nil => intro w _; rfl
  | cons o os ih => intro w h; exact (ih (w.alloc o) (by simp; omega)).trans (World.cell?_alloc_past o n i h)
theorem frozen?_more (os : List Obj) (n i : Nat) : ∀ (w : World) (_ : n < w.heap.size), (more w os).frozen? ⟨n, i, none⟩ = w.frozen? ⟨n, i, none⟩ := by
  induction os with
  | nil => intro w _; rfl
  | cons o os ih => intro w h; exact (ih (w.alloc o) (by simp; omega)).trans (World.frozen?_alloc_past o n i h)
theorem setCell_more (os : List Obj) (n i : Nat) (v : Value) : ∀ (w : World) (_ : n < w.heap.size), (more w os).setCell ⟨n, i, none⟩ v = more (w.setCell ⟨n, i, none⟩ v) os := by
  induction os with
  | nil => intro w _; rfl
  | cons o os ih =>
    intro w h
    show (more (w.alloc o) os).setCell _ v = more ((w.setCell _ v).alloc o) os
    rw [ih (w.alloc o) (by simp; omega), World.setCell_alloc_past o n i v h]
theorem more_snoc (os : List Obj) (o : Obj) : ∀ w : World, more w (os ++ [o]) = (more w os).alloc o := by
  induction os with
  | nil => intro w; rfl
  | cons p os ih => intro w; exact ih (w.alloc p)
theorem more_more (a b : List Obj) : ∀ w : World, more (more w a) b = more w (a ++ b) := by
  induction a with
  | nil => intro w; rfl
  | cons p a ih => intro w; exact ih (w.alloc p)
theorem more_drewN (os : List Obj) (n : Nat) : ∀ w : World, more (w.drewN n) os = (more w os).drewN n := by
  induction os with
  | nil => intro w; rfl
  | cons p a ih => intro w; exact ih (w.alloc p)
theorem more_drew (os : List Obj) (w : World) : more w.drew os = (more w os).drew := more_drewN os 1 w
theorem setCell_drewN (w : World) (n : Nat) (a : Addr) (v : Value) : (w.drewN n).setCell a v = (w.setCell a v).drewN n := by
  have : ∀ n, w.drewN n = { w with drawn := w.drawn + n } := fun _ => rfl
  unfold World.setCell World.drewN
  split <;> rfl
theorem alloc_drewN (w : World) (n : Nat) (o : Obj) : (w.drewN n).alloc o = (w.alloc o).drewN n := rfl

/-- Some blocks more, some draws. -/
def Grew (w w' : World) : Prop := ∃ (os : List Obj) (n : Nat), w' = (more w os).drewN n
theorem Grew.refl (w : World) : Grew w w := ⟨[], 0, rfl⟩
theorem Grew.alloc {a w : World} (h : Grew a w) (o : Obj) : Grew a (w.alloc o) := by
  obtain ⟨os, n, rfl⟩ := h
  exact ⟨os ++ [o], n, by rw [more_snoc, alloc_drewN]⟩
theorem Grew.drewN {a w : World} (h : Grew a w) (m : Nat) : Grew a (w.drewN m) := by
  obtain ⟨os, n, rfl⟩ := h
  exact ⟨os, n + m, by rw [World.drewN_drewN]⟩
theorem Grew.drew {a w : World} (h : Grew a w) : Grew a w.drew := h.drewN 1
theorem Grew.trans {a b c : World} (h : Grew a b) (k : Grew b c) : Grew a c := by
  obtain ⟨os, n, rfl⟩ := h
  obtain ⟨ps, m, rfl⟩ := k
  exact ⟨os ++ ps, n + m, by rw [more_drewN, more_more, World.drewN_drewN]⟩
theorem Grew.more {a w : World} (h : Grew a w) (os : List Obj) : Grew a (more w os) := h.trans ⟨os, 0, rfl⟩
theorem more_below (os : List Obj) : ∀ (w a : World) (B : Nat), Below B a w → B ≤ w.heap.size → Below B a (more w os) := by
  induction os with
  | nil => intro w a B h _; exact h
  | cons o os ih => intro w a B h hB; exact ih (w.alloc o) a B (h.alloc hB o) (by simp; omega)
theorem Grew.below {w w' : World} (h : Grew w w') : Below w.heap.size w w' := by
  obtain ⟨os, n, rfl⟩ := h
  exact below_drewN (more_below os w w _ (Below.refl _ _) (Nat.le_refl _)) n
theorem Grew.size {w w' : World} (h : Grew w w') : w.heap.size ≤ w'.heap.size := h.below.size
end Go.Proofs.YtnpdecbgakgbgaaGreatDoor

namespace Go.Proofs.YtnpdecbgakgbgaaGreatDoor
open Go.RowKit
attribute [local go_sem] cell?_more frozen?_more setCell_more more_lt more_more more_drew more_drewN setCell_drewN alloc_drewN

def tand (a b : Int) : Int := if a = 0 ∨ b = 0 then 0 else if a = 1 ∧ b = 1 then 1 else 2
def tnot (a : Int) : Int := if a = 0 then 1 else if a = 1 then 0 else 2
def tor (a b : Int) : Int := if a = 1 ∨ b = 1 then 1 else if a = 0 ∧ b = 0 then 0 else 2
theorem tor_eq (a b : Int) : tnot (tand (tnot a) (tnot b)) = tor a b := by
  unfold tnot tand tor
  by_cases h0 : a = 0 <;> by_cases h1 : a = 1 <;> by_cases g0 : b = 0 <;> by_cases g1 : b = 1 <;> simp_all

theorem and_any (a b : Int) (w : World) : Calls Tryz.prog 101 #[.int .i64 a, .int .i64 b] w fun e w' => e = .returned (.int .i64 (tand a b)) ∧ w = w' := by
  by_cases a0 : a = 0
  · subst a0
    by_cases b0 : b = 0
    · subst b0
      rw [show tand 0 0 = 0 by (unfold tand; repeat' split) <;> omega]
      go_enter Tryz.func101, Tryz.ntmps101
      go_wp2
      all_goals go_ret
      all_goals exact ⟨rfl, rfl⟩
    have d0 : (b == 0) = false := by simpa using b0
    by_cases b1 : b = 1
    · subst b1
      rw [show tand 0 1 = 0 by (unfold tand; repeat' split) <;> omega]
      go_enter Tryz.func101, Tryz.ntmps101
      go_wp2
      all_goals go_ret
      all_goals exact ⟨rfl, rfl⟩
    have d1 : (b == 1) = false := by simpa using b1
    rw [show tand 0 b = 0 by (unfold tand; repeat' split) <;> omega]
    go_enter Tryz.func101, Tryz.ntmps101
    go_wp2
    all_goals go_ret
    all_goals exact ⟨rfl, rfl⟩
  have c0 : (a == 0) = false := by simpa using a0
  by_cases a1 : a = 1
  · subst a1
    by_cases b0 : b = 0
    · subst b0
      rw [show tand 1 0 = 0 by (unfold tand; repeat' split) <;> omega]
      go_enter Tryz.func101, Tryz.ntmps101
      go_wp2
      all_goals go_ret
      all_goals exact ⟨rfl, rfl⟩
    have d0 : (b == 0) = false := by simpa using b0
    by_cases b1 : b = 1
    · subst b1
      rw [show tand 1 1 = 1 by (unfold tand; repeat' split) <;> omega]
      go_enter Tryz.func101, Tryz.ntmps101
      go_wp2
      all_goals go_ret
      all_goals exact ⟨rfl, rfl⟩
    have d1 : (b == 1) = false := by simpa using b1
    rw [show tand 1 b = 2 by (unfold tand; repeat' split) <;> omega]
    go_enter Tryz.func101, Tryz.ntmps101
    go_wp2
    all_goals go_ret
    all_goals exact ⟨rfl, rfl⟩
  have c1 : (a == 1) = false := by simpa using a1
  by_cases b0 : b = 0
  · subst b0
    rw [show tand a 0 = 0 by (unfold tand; repeat' split) <;> omega]
    go_enter Tryz.func101, Tryz.ntmps101
    go_wp2
    all_goals go_ret
    all_goals exact ⟨rfl, rfl⟩
  have d0 : (b == 0) = false := by simpa using b0
  by_cases b1 : b = 1
  · subst b1
    rw [show tand a 1 = 2 by (unfold tand; repeat' split) <;> omega]
    go_enter Tryz.func101, Tryz.ntmps101
    go_wp2
    all_goals go_ret
    all_goals exact ⟨rfl, rfl⟩
  have d1 : (b == 1) = false := by simpa using b1
  rw [show tand a b = 2 by (unfold tand; repeat' split) <;> omega]
  go_enter Tryz.func101, Tryz.ntmps101
  go_wp2
  all_goals go_ret
  all_goals exact ⟨rfl, rfl⟩

theorem rand_any (a b : Int) (w : World) : Calls Tryz.prog 59 #[.int .i64 a, .int .i64 b] w fun e w' => e = .returned (.int .i64 (tand a b)) ∧ w = w' := by
  by_cases a0 : a = 0
  · subst a0
    by_cases b0 : b = 0
    · subst b0
      rw [show tand 0 0 = 0 by (unfold tand; repeat' split) <;> omega]
      go_enter Tryz.func59, Tryz.ntmps59
      go_wp2
      all_goals go_ret
      all_goals exact ⟨rfl, rfl⟩
    have d0 : (b == 0) = false := by simpa using b0
    by_cases b1 : b = 1
    · subst b1
      rw [show tand 0 1 = 0 by (unfold tand; repeat' split) <;> omega]
      go_enter Tryz.func59, Tryz.ntmps59
      go_wp2
      all_goals go_ret
      all_goals exact ⟨rfl, rfl⟩
    have d1 : (b == 1) = false := by simpa using b1
    rw [show tand 0 b = 0 by (unfold tand; repeat' split) <;> omega]
    go_enter Tryz.func59, Tryz.ntmps59
    go_wp2
    all_goals go_ret
    all_goals exact ⟨rfl, rfl⟩
  have c0 : (a == 0) = false := by simpa using a0
  by_cases a1 : a = 1
  · subst a1
    by_cases b0 : b = 0
    · subst b0
      rw [show tand 1 0 = 0 by (unfold tand; repeat' split) <;> omega]
      go_enter Tryz.func59, Tryz.ntmps59
      go_wp2
      all_goals go_ret
      all_goals exact ⟨rfl, rfl⟩
    have d0 : (b == 0) = false := by simpa using b0
    by_cases b1 : b = 1
    · subst b1
      rw [show tand 1 1 = 1 by (unfold tand; repeat' split) <;> omega]
      go_enter Tryz.func59, Tryz.ntmps59
      go_wp2
      all_goals go_ret
      all_goals exact ⟨rfl, rfl⟩
    have d1 : (b == 1) = false := by simpa using b1
    rw [show tand 1 b = 2 by (unfold tand; repeat' split) <;> omega]
    go_enter Tryz.func59, Tryz.ntmps59
    go_wp2
    all_goals go_ret
    all_goals exact ⟨rfl, rfl⟩
  have c1 : (a == 1) = false := by simpa using a1
  by_cases b0 : b = 0
  · subst b0
    rw [show tand a 0 = 0 by (unfold tand; repeat' split) <;> omega]
    go_enter Tryz.func59, Tryz.ntmps59
    go_wp2
    all_goals go_ret
    all_goals exact ⟨rfl, rfl⟩
  have d0 : (b == 0) = false := by simpa using b0
  by_cases b1 : b = 1
  · subst b1
    rw [show tand a 1 = 2 by (unfold tand; repeat' split) <;> omega]
    go_enter Tryz.func59, Tryz.ntmps59
    go_wp2
    all_goals go_ret
    all_goals exact ⟨rfl, rfl⟩
  have d1 : (b == 1) = false := by simpa using b1
  rw [show tand a b = 2 by (unfold tand; repeat' split) <;> omega]
  go_enter Tryz.func59, Tryz.ntmps59
  go_wp2
  all_goals go_ret
  all_goals exact ⟨rfl, rfl⟩

theorem ror_any (a b : Int) (w : World) : Calls Tryz.prog 60 #[.int .i64 a, .int .i64 b] w fun e w' => e = .returned (.int .i64 (tor a b)) ∧ w = w' := by
  by_cases a0 : a = 0
  · subst a0
    by_cases b0 : b = 0
    · subst b0
      rw [show tor 0 0 = 0 by (unfold tor; repeat' split) <;> omega]
      go_enter Tryz.func60, Tryz.ntmps60
      go_wp2
      all_goals go_ret
      all_goals exact ⟨rfl, rfl⟩
    have d0 : (b == 0) = false := by simpa using b0
    by_cases b1 : b = 1
    · subst b1
      rw [show tor 0 1 = 1 by (unfold tor; repeat' split) <;> omega]
      go_enter Tryz.func60, Tryz.ntmps60
      go_wp2
      all_goals go_ret
      all_goals exact ⟨rfl, rfl⟩
    have d1 : (b == 1) = false := by simpa using b1
    rw [show tor 0 b = 2 by (unfold tor; repeat' split) <;> omega]
    go_enter Tryz.func60, Tryz.ntmps60
    go_wp2
    all_goals go_ret
    all_goals exact ⟨rfl, rfl⟩
  have c0 : (a == 0) = false := by simpa using a0
  by_cases a1 : a = 1
  · subst a1
    by_cases b0 : b = 0
    · subst b0
      rw [show tor 1 0 = 1 by (unfold tor; repeat' split) <;> omega]
      go_enter Tryz.func60, Tryz.ntmps60
      go_wp2
      all_goals go_ret
      all_goals exact ⟨rfl, rfl⟩
    have d0 : (b == 0) = false := by simpa using b0
    by_cases b1 : b = 1
    · subst b1
      rw [show tor 1 1 = 1 by (unfold tor; repeat' split) <;> omega]
      go_enter Tryz.func60, Tryz.ntmps60
      go_wp2
      all_goals go_ret
      all_goals exact ⟨rfl, rfl⟩
    have d1 : (b == 1) = false := by simpa using b1
    rw [show tor 1 b = 1 by (unfold tor; repeat' split) <;> omega]
    go_enter Tryz.func60, Tryz.ntmps60
    go_wp2
    all_goals go_ret
    all_goals exact ⟨rfl, rfl⟩
  have c1 : (a == 1) = false := by simpa using a1
  by_cases b0 : b = 0
  · subst b0
    rw [show tor a 0 = 2 by (unfold tor; repeat' split) <;> omega]
    go_enter Tryz.func60, Tryz.ntmps60
    go_wp2
    all_goals go_ret
    all_goals exact ⟨rfl, rfl⟩
  have d0 : (b == 0) = false := by simpa using b0
  by_cases b1 : b = 1
  · subst b1
    rw [show tor a 1 = 1 by (unfold tor; repeat' split) <;> omega]
    go_enter Tryz.func60, Tryz.ntmps60
    go_wp2
    all_goals go_ret
    all_goals exact ⟨rfl, rfl⟩
  have d1 : (b == 1) = false := by simpa using b1
  rw [show tor a b = 2 by (unfold tor; repeat' split) <;> omega]
  go_enter Tryz.func60, Tryz.ntmps60
  go_wp2
  all_goals go_ret
  all_goals exact ⟨rfl, rfl⟩

theorem not_any (a : Int) (w : World) : Calls Tryz.prog 92 #[.int .i64 a] w fun e w' => e = .returned (.int .i64 (tnot a)) ∧ w = w' := by
  by_cases a0 : a = 0
  · subst a0
    rw [show tnot 0 = 1 by (unfold tnot; repeat' split) <;> omega]
    go_enter Tryz.func92, Tryz.ntmps92
    go_wp2
    all_goals go_ret
    all_goals exact ⟨rfl, rfl⟩
  have c0 : (a == 0) = false := by simpa using a0
  by_cases a1 : a = 1
  · subst a1
    rw [show tnot 1 = 0 by (unfold tnot; repeat' split) <;> omega]
    go_enter Tryz.func92, Tryz.ntmps92
    go_wp2
    all_goals go_ret
    all_goals exact ⟨rfl, rfl⟩
  have c1 : (a == 1) = false := by simpa using a1
  rw [show tnot a = 2 by (unfold tnot; repeat' split) <;> omega]
  go_enter Tryz.func92, Tryz.ntmps92
  go_wp2
  all_goals go_ret
  all_goals exact ⟨rfl, rfl⟩

theorem rnot_any (a : Int) (w : World) : Calls Tryz.prog 42 #[.int .i64 a] w fun e w' => e = .returned (.int .i64 (tnot a)) ∧ w = w' := by
  by_cases a0 : a = 0
  · subst a0
    rw [show tnot 0 = 1 by (unfold tnot; repeat' split) <;> omega]
    go_enter Tryz.func42, Tryz.ntmps42
    go_wp2
    all_goals go_ret
    all_goals exact ⟨rfl, rfl⟩
  have c0 : (a == 0) = false := by simpa using a0
  by_cases a1 : a = 1
  · subst a1
    rw [show tnot 1 = 0 by (unfold tnot; repeat' split) <;> omega]
    go_enter Tryz.func42, Tryz.ntmps42
    go_wp2
    all_goals go_ret
    all_goals exact ⟨rfl, rfl⟩
  have c1 : (a == 1) = false := by simpa using a1
  rw [show tnot a = 2 by (unfold tnot; repeat' split) <;> omega]
  go_enter Tryz.func42, Tryz.ntmps42
  go_wp2
  all_goals go_ret
  all_goals exact ⟨rfl, rfl⟩

theorem or_any (a b : Int) (w : World) : Calls Tryz.prog 102 #[.int .i64 a, .int .i64 b] w fun e w' => e = .returned (.int .i64 (tor a b)) ∧ w = w' := by
  rw [← tor_eq]
  go_enter Tryz.func102, Tryz.ntmps102
  go_wp2_with fail
  refine (not_any a _).mono ?_
  rintro e w' ⟨rfl, rfl⟩
  go_wp2_with fail
  refine (not_any b _).mono ?_
  rintro e w' ⟨rfl, rfl⟩
  go_wp2_with fail
  refine (and_any _ _ _).mono ?_
  rintro e w' ⟨rfl, rfl⟩
  go_wp2_with fail
  refine (not_any _ _).mono ?_
  rintro e w' ⟨rfl, rfl⟩
  go_wp2
  go_ret
  exact ⟨rfl, rfl⟩

/-- A value as the program has it. -/
abbrev va (k n m : Int) (b : ByteArray) : Value := .agg #[.int .i64 k, .int .i64 n, .int .i64 m, .string b]
/-- The value that stands for a truth. -/
def vof (a : Int) : Value := if a = 0 ∨ a = 1 then va 4 a 0 ⟨#[]⟩ else va 0 0 0 ⟨#[]⟩

theorem of_any (a : Int) (w : World) : Calls Tryz.prog 90 #[.int .i64 a] w fun e w' => e = .returned (vof a) ∧ Grew w w' := by
  by_cases a0 : a = 0
  · subst a0
    rw [show vof 0 = va 4 0 0 ⟨#[]⟩ by simp [vof]]
    go_enter Tryz.func90, Tryz.ntmps90
    go_wp2
    refine bodyPost_ret_by (v := va 4 0 0 ⟨#[]⟩) ?_ rfl ⟨rfl, ?_⟩
    · simp [results, Tryz.results90, go_sem]
    · repeat (first | exact Grew.refl _ | apply Grew.drew | apply Grew.drewN | apply Grew.alloc | apply Grew.more)
  have c0 : (a == 0) = false := by simpa using a0
  by_cases a1 : a = 1
  · subst a1
    rw [show vof 1 = va 4 1 0 ⟨#[]⟩ by simp [vof]]
    go_enter Tryz.func90, Tryz.ntmps90
    go_wp2
    refine bodyPost_ret_by (v := va 4 1 0 ⟨#[]⟩) ?_ rfl ⟨rfl, ?_⟩
    · simp [results, Tryz.results90, go_sem]
    · repeat (first | exact Grew.refl _ | apply Grew.drew | apply Grew.drewN | apply Grew.alloc | apply Grew.more)
  have c1 : (a == 1) = false := by simpa using a1
  rw [show vof a = va 0 0 0 ⟨#[]⟩ by simp [vof, a0, a1]]
  go_enter Tryz.func90, Tryz.ntmps90
  go_wp2
  refine bodyPost_ret_by (v := va 0 0 0 ⟨#[]⟩) ?_ rfl ⟨rfl, ?_⟩
  · simp [results, Tryz.results90, go_sem]
  · repeat (first | exact Grew.refl _ | apply Grew.drew | apply Grew.drewN | apply Grew.alloc | apply Grew.more)

theorem rof_any (a : Int) (w : World) : Calls Tryz.prog 40 #[.int .i64 a] w fun e w' => e = .returned (vof a) ∧ Grew w w' := by
  by_cases a0 : a = 0
  · subst a0
    rw [show vof 0 = va 4 0 0 ⟨#[]⟩ by simp [vof]]
    go_enter Tryz.func40, Tryz.ntmps40
    go_wp2
    refine bodyPost_ret_by (v := va 4 0 0 ⟨#[]⟩) ?_ rfl ⟨rfl, ?_⟩
    · simp [results, Tryz.results40, go_sem]
    · repeat (first | exact Grew.refl _ | apply Grew.drew | apply Grew.drewN | apply Grew.alloc | apply Grew.more)
  have c0 : (a == 0) = false := by simpa using a0
  by_cases a1 : a = 1
  · subst a1
    rw [show vof 1 = va 4 1 0 ⟨#[]⟩ by simp [vof]]
    go_enter Tryz.func40, Tryz.ntmps40
    go_wp2
    refine bodyPost_ret_by (v := va 4 1 0 ⟨#[]⟩) ?_ rfl ⟨rfl, ?_⟩
    · simp [results, Tryz.results40, go_sem]
    · repeat (first | exact Grew.refl _ | apply Grew.drew | apply Grew.drewN | apply Grew.alloc | apply Grew.more)
  have c1 : (a == 1) = false := by simpa using a1
  rw [show vof a = va 0 0 0 ⟨#[]⟩ by simp [vof, a0, a1]]
  go_enter Tryz.func40, Tryz.ntmps40
  go_wp2
  refine bodyPost_ret_by (v := va 0 0 0 ⟨#[]⟩) ?_ rfl ⟨rfl, ?_⟩
  · simp [results, Tryz.results40, go_sem]
  · repeat (first | exact Grew.refl _ | apply Grew.drew | apply Grew.drewN | apply Grew.alloc | apply Grew.more)

end Go.Proofs.YtnpdecbgakgbgaaGreatDoor

namespace Go.Proofs.YtnpdecbgakgbgaaGreatDoor
open Go.RowKit

/-- A magnitude with its sign. -/
def sval (b : Bool) (m : Nat) : Int := if b then -(m : Int) else (m : Int)
theorem sval_false (m : Nat) : sval false m = (m : Int) := rfl
theorem sval_true (m : Nat) : sval true m = -(m : Int) := rfl
theorem sval_zero (b : Bool) : sval b 0 = 0 := by cases b <;> rfl
theorem sval_natAbs (b : Bool) (m : Nat) : (sval b m).natAbs = m := by cases b <;> simp [sval]
theorem sval_of (n : Int) : sval (decide (n < 0)) n.natAbs = n := by
  unfold sval; by_cases h : n < 0 <;> simp [h] <;> omega
theorem sval_mul (a b : Int) : sval (decide (a < 0) != decide (b < 0)) (a.natAbs * b.natAbs) = a * b := by
  rw [← Int.natAbs_mul]
  by_cases ha : a < 0 <;> by_cases hb : b < 0
  · have h := Int.mul_nonneg_of_nonpos_of_nonpos (Int.le_of_lt ha) (Int.le_of_lt hb)
    simp [sval, ha, hb]; omega
  · have h := Int.mul_nonpos_of_nonpos_of_nonneg (Int.le_of_lt ha) (Int.not_lt.1 hb)
    simp [sval, ha, hb]; omega
  · have h := Int.mul_nonpos_of_nonneg_of_nonpos (Int.not_lt.1 ha) (Int.le_of_lt hb)
    simp [sval, ha, hb]; omega
  · have h := Int.mul_nonneg (Int.not_lt.1 ha) (Int.not_lt.1 hb)
    simp [sval, ha, hb]; omega

/-- Does it fit? What is answered, and with which error. -/
def fits (z : Int) : Bool := decide (-9223372036854775808 ≤ z ∧ z ≤ 9223372036854775807)
def nz (z : Int) : Int := if fits z then z else 0
def nErr (z : Int) : Int := if fits z then 0 else 32
theorem fits_iff (z : Int) : fits z = true ↔ (-9223372036854775808 ≤ z ∧ z ≤ 9223372036854775807) := by simp [fits]

/-- n by d, rounded to the nearest, of two as near to the even one. -/
def rnd (n d : Nat) : Nat := if d < 2 * (n % d) ∨ (2 * (n % d) = d ∧ n / d % 2 = 1) then n / d + 1 else n / d
theorem rnd_one (n : Nat) : rnd n 1 = n := by unfold rnd; simp [Nat.mod_one]
theorem rnd_zero (d : Nat) : rnd 0 d = 0 := by unfold rnd; simp
theorem rnd_mul (a d : Nat) (h : 0 < d) : rnd (a * d) d = a := by
  unfold rnd; rw [Nat.mul_mod_left, Nat.mul_div_cancel _ h]; rw [if_neg]; rintro (h' | h') <;> omega
/-- Nearest: no more than half a unit away, and even where it is just half. -/
theorem rnd_near (n d : Nat) (h : 0 < d) : 2 * n ≤ 2 * (rnd n d * d) + d ∧ 2 * (rnd n d * d) ≤ 2 * n + d ∧ ((2 * n = 2 * (rnd n d * d) + d ∨ 2 * (rnd n d * d) = 2 * n + d) → rnd n d % 2 = 0) := by
  have e := Nat.div_add_mod n d
  have hm := Nat.mod_lt n h
  unfold rnd
  split
  · rename_i hc
    rw [Nat.mul_comm d] at e
    rw [Nat.add_mul, Nat.one_mul]
    generalize n / d * d = x at *
    refine ⟨by omega, by omega, fun hh => ?_⟩
    rcases hc with hc | hc <;> omega
  · rename_i hc
    rw [Nat.mul_comm d] at e
    generalize n / d * d = x at *
    refine ⟨by omega, by omega, fun hh => ?_⟩
    have : ¬ (2 * (n % d) = d ∧ n / d % 2 = 1) := fun h' => hc (.inr h')
    have h2 : ¬ d < 2 * (n % d) := fun h' => hc (.inl h')
    by_cases h3 : n / d % 2 = 1
    · have : ¬ 2 * (n % d) = d := fun h' => this ⟨h', h3⟩
      omega
    · omega
theorem rnd_small (n d : Nat) (h : 2 * n ≤ d) (hd : 0 < d) : rnd n d = 0 := by
  unfold rnd
  have hlt : n < d := by omega
  rw [Nat.mod_eq_of_lt hlt, Nat.div_eq_of_lt hlt]
  rw [if_neg]
  rintro (h' | h') <;> omega

/-! ### the school's division: one digit -/
def DivInv (u d y1 y0 q r : Nat) : Prop := q * y1 + r = u ∧ u * 4294967296 + d < (q + 1) * (y1 * 4294967296 + y0)

theorem div_start (u d y1 y0 : Nat) (h : 0 < y1) (hd : d < 4294967296) : DivInv u d y1 y0 (u / y1) (u % y1) := by
  have e := Nat.div_add_mod u y1
  have hm := Nat.mod_lt u h
  refine ⟨by rw [Nat.mul_comm]; exact e, ?_⟩
  have e2 : (u / y1 + 1) * (y1 * 4294967296 + y0) = y1 * (u / y1) * 4294967296 + y1 * 4294967296 + (u / y1) * y0 + y0 := by
    rw [Nat.add_mul, Nat.mul_add, Nat.one_mul, ← Nat.mul_assoc, Nat.mul_comm (u / y1) y1]; omega
  rw [e2]
  generalize y1 * (u / y1) = A at *
  generalize u / y1 * y0 = C
  omega

theorem div_dec (u d y1 y0 q r : Nat) (hI : DivInv u d y1 y0 q r) (hu : u < y1 * 4294967296 + y0) (hd : d < 4294967296)
    (hc : 4294967296 ≤ q ∨ 4294967296 * r + d < q * y0) : 0 < q ∧ DivInv u d y1 y0 (q - 1) (r + y1) := by
  obtain ⟨h1, h2⟩ := hI
  have hq : 0 < q := by
    rcases hc with h | h
    · omega
    · rcases Nat.eq_zero_or_pos q with h0 | h0
      · rw [h0, Nat.zero_mul] at h; omega
      · exact h0
  obtain ⟨p, rfl⟩ : ∃ p, q = p + 1 := ⟨q - 1, by omega⟩
  refine ⟨hq, ?_, ?_⟩
  · simp only [Nat.add_sub_cancel]; rw [Nat.add_mul, Nat.one_mul] at h1; omega
  · simp only [Nat.add_sub_cancel]
    have e : (p + 1) * (y1 * 4294967296 + y0) = (p + 1) * y1 * 4294967296 + (p + 1) * y0 := by rw [Nat.mul_add, ← Nat.mul_assoc]
    rcases hc with h | h
    · have h3 : 4294967296 * (y1 * 4294967296 + y0) ≤ (p + 1) * (y1 * 4294967296 + y0) := Nat.mul_le_mul_right _ h
      omega
    · rw [e]
      generalize (p + 1) * y1 = A at *
      generalize (p + 1) * y0 = C at *
      omega

theorem div_out (u d y1 y0 q r : Nat) (hI : DivInv u d y1 y0 q r) (hc : q * y0 ≤ 4294967296 * r + d) :
    q = (u * 4294967296 + d) / (y1 * 4294967296 + y0) ∧ q * (y1 * 4294967296 + y0) ≤ u * 4294967296 + d := by
  obtain ⟨h1, h2⟩ := hI
  have e : q * (y1 * 4294967296 + y0) = q * y1 * 4294967296 + q * y0 := by rw [Nat.mul_add, ← Nat.mul_assoc]
  have hle : q * (y1 * 4294967296 + y0) ≤ u * 4294967296 + d := by
    rw [e]
    generalize q * y1 = A at *
    generalize q * y0 = C at *
    omega
  exact ⟨(Nat.div_eq_of_lt_le hle h2).symm, hle⟩

theorem div_broke (u d y1 y0 q r : Nat) (hI : DivInv u d y1 y0 q r) (hu : u < y1 * 4294967296 + y0) (hy0 : y0 < 4294967296) (hr : 4294967296 ≤ r) :
    q * y0 ≤ 4294967296 * r + d ∧ q < 4294967296 := by
  obtain ⟨h1, h2⟩ := hI
  have hq : q < 4294967296 := by
    apply Nat.lt_of_not_le
    intro h
    have := Nat.mul_le_mul_right y1 h
    generalize q * y1 = A at *
    omega
  refine ⟨?_, hq⟩
  have := Nat.mul_le_mul (Nat.le_of_lt_succ hq) (Nat.le_of_lt_succ hy0)
  generalize q * y0 = C at *
  omega

/-- Two digits, one behind the other. -/
theorem div_two (u d1 d0 y : Nat) (hy : 0 < y) :
    (u * 4294967296 + d1) / y * 4294967296 + ((u * 4294967296 + d1) % y * 4294967296 + d0) / y = (u * 18446744073709551616 + (d1 * 4294967296 + d0)) / y ∧
    ((u * 4294967296 + d1) % y * 4294967296 + d0) % y = (u * 18446744073709551616 + (d1 * 4294967296 + d0)) % y := by
  have e := Nat.div_add_mod (u * 4294967296 + d1) y
  have hN : u * 18446744073709551616 + (d1 * 4294967296 + d0) = y * ((u * 4294967296 + d1) / y * 4294967296) + ((u * 4294967296 + d1) % y * 4294967296 + d0) := by
    rw [← Nat.mul_assoc]
    generalize y * ((u * 4294967296 + d1) / y) = A at *
    omega
  rw [hN, Nat.mul_add_div hy, Nat.mul_add_mod]
  exact ⟨rfl, rfl⟩
theorem digit_lt (u d y : Nat) (hu : u < y) (hd : d < 4294967296) : (u * 4294967296 + d) / y < 4294967296 := by
  rw [Nat.div_lt_iff_lt_mul (by omega)]
  omega

/-- A number by another, both moved up alike. -/
theorem div_shift (n y k : Nat) : n * 2 ^ k / (y * 2 ^ k) = n / y ∧ n * 2 ^ k % (y * 2 ^ k) / 2 ^ k = n % y := by
  have hk : 0 < 2 ^ k := Nat.pow_pos (by decide)
  refine ⟨Nat.mul_div_mul_right _ _ hk, ?_⟩
  rw [Nat.mul_mod_mul_right, Nat.mul_div_cancel _ hk]
end Go.Proofs.YtnpdecbgakgbgaaGreatDoor

namespace Go.Proofs.YtnpdecbgakgbgaaGreatDoor
open Go.RowKit

theorem add64_at (x y c : Int) (hx : 0 ≤ x) (hy : 0 ≤ y) (hc0 : 0 ≤ c) (hc : c ≤ 1) (w : World) : (callFunc 207 #[.int .u64 x, .int .u64 y, .int .u64 c]).run Tryz.prog w =
    .ok (.value (.tuple #[.int .u64 ((x + y + c) % 18446744073709551616), .int .u64 ((x + y + c) / 18446744073709551616)])) w := by
  rw [run_callFunc_extern Tryz.func207 (by kernel_rfl) (by kernel_rfl) (by kernel_rfl) (e := add64Entry) (by kernel_rfl), run_add64 x y c hx hy hc0 hc]
  rfl
theorem add64_0 (x y : Int) (hx : 0 ≤ x) (hy : 0 ≤ y) (w : World) : (callFunc 207 #[.int .u64 x, .int .u64 y, .int .u64 0]).run Tryz.prog w =
    .ok (.value (.tuple #[.int .u64 ((x + y) % 18446744073709551616), .int .u64 ((x + y) / 18446744073709551616)])) w := by
  simpa using add64_at x y 0 hx hy (Int.le_refl 0) (by decide) w

def sub64E : Array Value → Sem Value := fun args => do
  let (x, y, b) ← Extern.MathBitsCarry.three "Sub64" args
  pure (Extern.MathBitsCarry.pair ((x + Extern.MathBitsCarry.m64 - y - b) % Extern.MathBitsCarry.m64) (if x < y + b then 1 else 0))
theorem run_sub64E {P : Program} (x y b : Nat) (hb : b ≤ 1) (w : World) :
    (sub64E #[.int .u64 x, .int .u64 y, .int .u64 b]).run P w =
      .ok (.tuple #[.int .u64 (((x + 18446744073709551616 - y - b) % 18446744073709551616 : Nat) : Int), .int .u64 ((if x < y + b then 1 else 0 : Nat) : Int)]) w := by
  have : b = 0 ∨ b = 1 := by omega
  rcases this with rfl | rfl <;> rfl
/-- The borrow, under a name: an open 'if' would part every walk behind it. -/
def bor (x y : Int) : Int := if x < y then 1 else 0
theorem bor_bd (x y : Int) : 0 ≤ bor x y ∧ bor x y ≤ 1 := by unfold bor; split <;> decide
theorem sub64_at (x y b : Int) (hx : 0 ≤ x) (hy : 0 ≤ y) (hy' : y < 18446744073709551616) (hb0 : 0 ≤ b) (hb : b ≤ 1) (w : World) : (callFunc 209 #[.int .u64 x, .int .u64 y, .int .u64 b]).run Tryz.prog w =
    .ok (.value (.tuple #[.int .u64 ((x - y - b) % 18446744073709551616), .int .u64 (bor x (y + b))])) w := by
  obtain ⟨x, rfl⟩ := Int.eq_ofNat_of_zero_le hx
  obtain ⟨y, rfl⟩ := Int.eq_ofNat_of_zero_le hy
  obtain ⟨b, rfl⟩ := Int.eq_ofNat_of_zero_le hb0
  have e1 : (((x + 18446744073709551616 - y - b) % 18446744073709551616 : Nat) : Int) = ((x : Int) - y - b) % 18446744073709551616 := by omega
  have e2 : ((if x < y + b then 1 else 0 : Nat) : Int) = bor (x : Int) ((y : Int) + b) := by unfold bor; split <;> split <;> omega
  rw [← e1, ← e2, run_callFunc_extern Tryz.func209 (by kernel_rfl) (by kernel_rfl) (by kernel_rfl) (e := sub64E) (by kernel_rfl), run_sub64E x y b (by omega)]
  rfl
theorem sub64_0 (x y : Int) (hx : 0 ≤ x) (hy : 0 ≤ y) (hy' : y < 18446744073709551616) (w : World) : (callFunc 209 #[.int .u64 x, .int .u64 y, .int .u64 0]).run Tryz.prog w =
    .ok (.value (.tuple #[.int .u64 ((x - y) % 18446744073709551616), .int .u64 (bor x y)])) w := by
  simpa using sub64_at x y 0 hx hy hy' (Int.le_refl 0) (by decide) w

namespace M64
theorem maskN (a : Nat) (ha : a < 18446744073709551616) : bits .and .u64 (a : Int) 4294967295 = ((a % 4294967296 : Nat) : Int) := by
  have h := bits_and_u64_nat a 4294967295 ha (by omega)
  have e : a &&& 4294967295 = a % 4294967296 := Nat.and_two_pow_sub_one_eq_mod a 32
  rw [e] at h
  exact h
theorem divN (a : Nat) : (a : Int) / 4294967296 = ((a / 4294967296 : Nat) : Int) := by omega
theorem mulN (a b : Nat) : (a : Int) * (b : Int) = ((a * b : Nat) : Int) := (Int.natCast_mul a b).symm
theorem addN (a b : Nat) : (a : Int) + (b : Int) = ((a + b : Nat) : Int) := (Int.natCast_add a b).symm
theorem wrapN (a : Nat) (ha : a < 18446744073709551616) : IntKind.u64.wrap (a : Int) = (a : Int) := by rw [IntKind.wrap_u64]; omega
theorem wrapM (a : Nat) : IntKind.u64.wrap (a : Int) = ((a % 18446744073709551616 : Nat) : Int) := by rw [IntKind.wrap_u64]; omega
end M64

set_option maxHeartbeats 1000000 in
theorem mul64_any (x y : Nat) (hx : x < 18446744073709551616) (hy : y < 18446744073709551616) (w : World) :
    Calls Tryz.prog 211 #[.int .u64 (x : Int), .int .u64 (y : Int)] w fun e w' => e = .returned (.tuple #[.int .u64 ((x * y / 18446744073709551616 : Nat) : Int), .int .u64 ((x * y % 18446744073709551616 : Nat) : Int)]) ∧ w' = w := by
  obtain ⟨bd, bt, bw, hhi⟩ := Lib.mul64_hi x y hx hy
  have ba := Lib.half_mul_le (a := x / 4294967296) (b := y / 4294967296) (by omega) (by omega)
  have bb := Lib.half_mul_le (a := x / 4294967296) (b := y % 4294967296) (by omega) (by omega)
  have bc := Lib.half_mul_le (a := x % 4294967296) (b := y / 4294967296) (by omega) (by omega)
  have ba' : x / 4294967296 * (y / 4294967296) < 18446744073709551616 := by omega
  have bb' : x / 4294967296 * (y % 4294967296) < 18446744073709551616 := by omega
  have bc' : x % 4294967296 * (y / 4294967296) < 18446744073709551616 := by omega
  have bh1 : x / 4294967296 * (y / 4294967296) + (x / 4294967296 * (y % 4294967296) + x % 4294967296 * (y % 4294967296) / 4294967296) / 4294967296 < 18446744073709551616 := by omega
  have bh : x / 4294967296 * (y / 4294967296) + (x / 4294967296 * (y % 4294967296) + x % 4294967296 * (y % 4294967296) / 4294967296) / 4294967296 + ((x / 4294967296 * (y % 4294967296) + x % 4294967296 * (y % 4294967296) / 4294967296) % 4294967296 + x % 4294967296 * (y / 4294967296)) / 4294967296 < 18446744073709551616 := by omega
  go_enter Tryz.func211, Tryz.ntmps211
  go_wp2
  simp only [M64.maskN x hx, M64.maskN y hy, M64.divN, M64.mulN, M64.addN, M64.wrapN _ bd, M64.wrapN _ bb', M64.wrapN _ bt, M64.maskN _ bt, M64.wrapN _ bc', M64.wrapN _ bw, M64.wrapN _ ba', M64.wrapN _ bh1, M64.wrapN _ bh, M64.wrapM (x * y)]
  rw [hhi]
  go_ret2
  exact ⟨rfl, rfl⟩
end Go.Proofs.YtnpdecbgakgbgaaGreatDoor
