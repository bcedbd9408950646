/-
  What the walks of package gauss lean on: a point as a value, complex numbers whose parts are whole, and the contracts of the smallest functions.
-/
import Derived.Test.YtnpdecbgakgbgaaGreatDoorChecked
import Derived.Test.YtnpdecbgakgbgaaGreatDoorMdVLogic
import Derived.Test.YtnpdecbgakgbgaaGreatDoorHDeep
import Derived.Test.YtnpdecbgakgbgaaGreatDoorHFloat
import Derived.Laws.ComplexArith
import Derived.WalkLawsBesides
import Derived.WalkKit
import Derived.WalkSpells
import Derived.Deep.RegionWith
import Derived.Deep.RegionHeld
import Derived.Deep.RegionHeld2
import Derived.Deep.Cut
namespace Go.Proofs.YtnpdecbgakgbgaaGreatDoor.Ga
open Go.RowKit
attribute [local go_sem] cell?_more frozen?_more setCell_more more_lt more_more more_drew more_drewN setCell_drewN alloc_drewN

/-- A call gives this value, whatever has been laid besides. -/
abbrev Gives (f : Nat) (args : Array Value) (w : World) (v : Value) : Prop := ∀ W : World, Grew w W → Calls Tryz.prog f args W fun e w' => e = .returned v ∧ Grew W w'

/-- Two cells of a block: a point lies there. -/
def Two (w : World) (p : Nat) (u s : Int) : Prop := w.cell? ⟨p, 0, none⟩ = some (.int .i64 u) ∧ w.cell? ⟨p, 1, none⟩ = some (.int .i64 s)
theorem Two.lt {w : World} {p : Nat} {u s : Int} (h : Two w p u s) : p < w.heap.size := World.block_lt_of_cell? w _ h.1
theorem Two.later {w w' : World} {p : Nat} {u s : Int} (h : Two w p u s) (hb : Grew w w') : Two w' p u s :=
  ⟨by rw [hb.below.cell (p := ⟨p, 0, none⟩) h.lt]; exact h.1, by rw [hb.below.cell (p := ⟨p, 1, none⟩) h.lt]; exact h.2⟩

/-- A point as a value. -/
abbrev pv (x y : Int) : Value := .agg #[.int .i64 x, .int .i64 y]
/-- A complex number as a value. -/
abbrev cv (a b : Nat) : Value := .complex .f64 a b
/-- May a point be? -/
def ok2 (x y : Int) : Bool := decide (-1048576 ≤ x ∧ x ≤ 1048576 ∧ -1048576 ≤ y ∧ y ≤ 1048576)
theorem ok2_iff (x y : Int) : ok2 x y = true ↔ (-1048576 ≤ x ∧ x ≤ 1048576 ∧ -1048576 ≤ y ∧ y ≤ 1048576) := by simp [ok2]

theorem fits_any (n : Int) (w : World) : Calls Tryz.prog 206 #[.int .i64 n] w fun e w' => e = .returned (.bool (decide (-1048576 ≤ n ∧ n ≤ 1048576))) ∧ w = w' := by
  by_cases h1 : -1048576 ≤ n
  · by_cases h2 : n ≤ 1048576
    · have h3 : decide (-1048576 ≤ n ∧ n ≤ 1048576) = true := by simp [h1, h2]
      rw [h3]
      go_enter Tryz.func206, Tryz.ntmps206
      go_wp2
      all_goals go_ret
      all_goals exact ⟨rfl, rfl⟩
    · have h3 : decide (-1048576 ≤ n ∧ n ≤ 1048576) = false := by simp [h2]
      rw [h3]
      go_enter Tryz.func206, Tryz.ntmps206
      go_wp2
      all_goals go_ret
      all_goals exact ⟨rfl, rfl⟩
  · have h3 : decide (-1048576 ≤ n ∧ n ≤ 1048576) = false := by simp [h1]
    rw [h3]
    go_enter Tryz.func206, Tryz.ntmps206
    go_wp2
    all_goals go_ret
    all_goals exact ⟨rfl, rfl⟩

theorem right_any (x y : Int) (w : World) : Calls Tryz.prog 158 #[pv x y] w fun e w' => e = .returned (.bool (ok2 x y)) ∧ Grew w w' := by
  by_cases h1 : -1048576 ≤ x ∧ x ≤ 1048576
  · have X : ∀ W, Calls Tryz.prog 206 #[.int .i64 x] W fun e w' => e = .returned (.bool true) ∧ W = w' := fun W => by have := fits_any x W; rwa [decide_eq_true h1] at this
    have Y := fun W => fits_any y W
    have h3 : ok2 x y = decide (-1048576 ≤ y ∧ y ≤ 1048576) := by unfold ok2; simp [h1.1, h1.2]
    rw [h3]
    generalize decide (-1048576 ≤ y ∧ y ≤ 1048576) = b at *
    clear h1 h3
    go_enter Tryz.func158, Tryz.ntmps158
    go_wp2_with (first
      | (go_at_call_of 206 (Value.int IntKind.i64 x); refine (X _).mono ?_; rintro e w' ⟨rfl, rfl⟩)
      | (go_at_call 206; refine (Y _).mono ?_; rintro e w' ⟨rfl, rfl⟩))
    all_goals go_ret
    all_goals exact ⟨rfl, by repeat (first | exact Grew.refl _ | apply Grew.drew | apply Grew.drewN | apply Grew.alloc | apply Grew.more)⟩
  · have X : ∀ W, Calls Tryz.prog 206 #[.int .i64 x] W fun e w' => e = .returned (.bool false) ∧ W = w' := fun W => by have := fits_any x W; rwa [decide_eq_false h1] at this
    have h3 : ok2 x y = false := by
      unfold ok2
      simp
      intro a b
      exact absurd ⟨a, b⟩ h1
    rw [h3]
    clear h1 h3
    go_enter Tryz.func158, Tryz.ntmps158
    go_wp2_with (go_at_call 206; refine (X _).mono ?_; rintro e w' ⟨rfl, rfl⟩)
    all_goals go_ret
    all_goals exact ⟨rfl, by repeat (first | exact Grew.refl _ | apply Grew.drew | apply Grew.drewN | apply Grew.alloc | apply Grew.more)⟩

theorem number_any (x y : Int) (w : World) : Calls Tryz.prog 159 #[pv x y] w fun e w' => e = .returned (cv (floatOfInt .f64 x) (floatOfInt .f64 y)) ∧ Grew w w' := by
  go_enter Tryz.func159, Tryz.ntmps159
  go_wp2
  all_goals go_ret
  all_goals exact ⟨rfl, by repeat (first | exact Grew.refl _ | apply Grew.drew | apply Grew.drewN | apply Grew.alloc | apply Grew.more)⟩

theorem point_any (a b : Nat) (x y : Int) (w : World) (ha : FI a x) (hb : FI b y) (hx : -9007199254740992 < x ∧ x < 9007199254740992) (hy : -9007199254740992 < y ∧ y < 9007199254740992) :
    Calls Tryz.prog 160 #[cv a b] w fun e w' => e = .returned (pv x y) ∧ Grew w w' := by
  have c1 : ∀ w, (convert 201 3 (.float .f64 a)).run Tryz.prog w = .ok (.int .i64 x) w := fun w => run_convert_float_int w _ _ .f64 .i64 a x (by rw [Tryz.underlying201]; rfl) Tryz.underlying3 (ha.toInt hx)
  have c2 : ∀ w, (convert 201 3 (.float .f64 b)).run Tryz.prog w = .ok (.int .i64 y) w := fun w => run_convert_float_int w _ _ .f64 .i64 b y (by rw [Tryz.underlying201]; rfl) Tryz.underlying3 (hb.toInt hy)
  clear ha hb hx hy
  go_enter Tryz.func160, Tryz.ntmps160
  go_wp2
  refine bodyPost_ret_by (v := pv x y) ?_ rfl ⟨rfl, ?_⟩
  · simp [results, Tryz.results160, go_sem]
  · repeat (first | exact Grew.refl _ | apply Grew.drew | apply Grew.drewN | apply Grew.alloc | apply Grew.more)
end Go.Proofs.YtnpdecbgakgbgaaGreatDoor.Ga
