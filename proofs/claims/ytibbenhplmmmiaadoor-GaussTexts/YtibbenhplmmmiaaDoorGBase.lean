/-
  What the walks of package gauss lean on: a point as a value, complex numbers whose parts are whole, and the contracts of the smallest functions.
-/
import Derived.Test.YtibbenhplmmmiaaDoorChecked
import Derived.Test.YtibbenhplmmmiaaDoorDGrew
import Derived.Test.YtibbenhplmmmiaaDoorGDeep
import Derived.Test.YtibbenhplmmmiaaDoorGFloat
import Derived.Laws.ComplexArith
import Derived.WalkLawsBesides
import Derived.WalkKit
import Derived.WalkSpells
import Derived.Deep.RegionWith
import Derived.Deep.RegionHeld
import Derived.Deep.RegionHeld2
import Derived.Deep.Cut
namespace Go.Proofs.YtibbenhplmmmiaaDoor
open Go.RowKit
attribute [local go_sem] cell?_more frozen?_more setCell_more more_lt more_more more_drew more_drewN setCell_drewN alloc_drewN

/-- Two cells of a block: a point lies there. -/
def Two (w : World) (p : Nat) (u s : Int) : Prop := w.cell? ⟨p, 0, none⟩ = some (.int .i64 u) ∧ w.cell? ⟨p, 1, none⟩ = some (.int .i64 s)
theorem Two.lt {w : World} {p : Nat} {u s : Int} (h : Two w p u s) : p < w.heap.size := World.block_lt_of_cell? w _ h.1
theorem Two.later {w w' : World} {p : Nat} {u s : Int} (h : Two w p u s) (hb : Grew w w') : Two w' p u s :=
  ⟨by rw [hb.below.cell (p := ⟨p, 0, none⟩) h.lt]; exact h.1, by rw [hb.below.cell (p := ⟨p, 1, none⟩) h.lt]; exact h.2⟩

/-- A point as a value. -/
abbrev pv (x y : Int) : Value := .agg #[.int .i64 x, .int .i64 y]
/-- A complex number as a value. -/
abbrev cv (a b : Nat) : Value := .complex .f64 a b
/-- May a point be? -/
def ok2 (x y : Int) : Bool := decide (-1048576 ≤ x ∧ x ≤ 1048576 ∧ -1048576 ≤ y ∧ y ≤ 1048576)
theorem ok2_iff (x y : Int) : ok2 x y = true ↔ (-1048576 ≤ x ∧ x ≤ 1048576 ∧ -1048576 ≤ y ∧ y ≤ 1048576) := by simp [ok2]

theorem num_any (n : Int) (w : World) : Calls Tryd.prog 9 #[.int .i64 n] w fun e w' => e = .returned (.int .i64 n) ∧ w = w' := by
  go_enter Tryd.func9, Tryd.ntmps9
  go_wp2
  go_ret
  exact ⟨rfl, rfl⟩

theorem own_any (x y : Int) (w : World) : Calls Tryd.prog 7 #[pv x y] w fun e w' => e = .returned (pv x y) ∧ Grew w w' := by
  go_enter Tryd.func7, Tryd.ntmps7
  go_wp2
  refine bodyPost_ret_by (v := pv x y) ?_ rfl ⟨rfl, ?_⟩
  · simp [results, Tryd.results7, go_sem]
  · repeat (first | exact Grew.refl _ | apply Grew.drew | apply Grew.drewN | apply Grew.alloc | apply Grew.more)

theorem fits_any (n : Int) (w : World) : Calls Tryd.prog 31 #[.int .i64 n] w fun e w' => e = .returned (.bool (decide (-1048576 ≤ n ∧ n ≤ 1048576))) ∧ w = w' := by
  by_cases h1 : -1048576 ≤ n
  · by_cases h2 : n ≤ 1048576
    · have h3 : decide (-1048576 ≤ n ∧ n ≤ 1048576) = true := by simp [h1, h2]
      rw [h3]
      go_enter Tryd.func31, Tryd.ntmps31
      go_wp2
      all_goals go_ret
      all_goals exact ⟨rfl, rfl⟩
    · have h3 : decide (-1048576 ≤ n ∧ n ≤ 1048576) = false := by simp [h2]
      rw [h3]
      go_enter Tryd.func31, Tryd.ntmps31
      go_wp2
      all_goals go_ret
      all_goals exact ⟨rfl, rfl⟩
  · have h3 : decide (-1048576 ≤ n ∧ n ≤ 1048576) = false := by simp [h1]
    rw [h3]
    go_enter Tryd.func31, Tryd.ntmps31
    go_wp2
    all_goals go_ret
    all_goals exact ⟨rfl, rfl⟩

theorem right_any (x y : Int) (w : World) : Calls Tryd.prog 17 #[pv x y] w fun e w' => e = .returned (.bool (ok2 x y)) ∧ Grew w w' := by
  by_cases h1 : -1048576 ≤ x ∧ x ≤ 1048576
  · have X : ∀ W, Calls Tryd.prog 31 #[.int .i64 x] W fun e w' => e = .returned (.bool true) ∧ W = w' := fun W => by have := fits_any x W; rwa [decide_eq_true h1] at this
    have Y := fun W => fits_any y W
    have h3 : ok2 x y = decide (-1048576 ≤ y ∧ y ≤ 1048576) := by unfold ok2; simp [h1.1, h1.2]
    rw [h3]
    generalize decide (-1048576 ≤ y ∧ y ≤ 1048576) = b at *
    clear h1 h3
    go_enter Tryd.func17, Tryd.ntmps17
    go_wp2_with (first
      | (go_at_call_of 31 (Value.int IntKind.i64 x); refine (X _).mono ?_; rintro e w' ⟨rfl, rfl⟩)
      | (go_at_call 31; refine (Y _).mono ?_; rintro e w' ⟨rfl, rfl⟩))
    all_goals go_ret
    all_goals exact ⟨rfl, by repeat (first | exact Grew.refl _ | apply Grew.drew | apply Grew.drewN | apply Grew.alloc | apply Grew.more)⟩
  · have X : ∀ W, Calls Tryd.prog 31 #[.int .i64 x] W fun e w' => e = .returned (.bool false) ∧ W = w' := fun W => by have := fits_any x W; rwa [decide_eq_false h1] at this
    have h3 : ok2 x y = false := by
      unfold ok2
      simp
      intro a b
      exact absurd ⟨a, b⟩ h1
    rw [h3]
    clear h1 h3
    go_enter Tryd.func17, Tryd.ntmps17
    go_wp2_with (go_at_call 31; refine (X _).mono ?_; rintro e w' ⟨rfl, rfl⟩)
    all_goals go_ret
    all_goals exact ⟨rfl, by repeat (first | exact Grew.refl _ | apply Grew.drew | apply Grew.drewN | apply Grew.alloc | apply Grew.more)⟩

theorem number_any (x y : Int) (w : World) : Calls Tryd.prog 34 #[pv x y] w fun e w' => e = .returned (cv (floatOfInt .f64 x) (floatOfInt .f64 y)) ∧ Grew w w' := by
  go_enter Tryd.func34, Tryd.ntmps34
  go_wp2
  all_goals go_ret
  all_goals exact ⟨rfl, by repeat (first | exact Grew.refl _ | apply Grew.drew | apply Grew.drewN | apply Grew.alloc | apply Grew.more)⟩

theorem point_any (a b : Nat) (x y : Int) (w : World) (ha : FI a x) (hb : FI b y) (hx : -9007199254740992 < x ∧ x < 9007199254740992) (hy : -9007199254740992 < y ∧ y < 9007199254740992) :
    Calls Tryd.prog 35 #[cv a b] w fun e w' => e = .returned (pv x y) ∧ Grew w w' := by
  have c1 : ∀ w, (convert 73 3 (.float .f64 a)).run Tryd.prog w = .ok (.int .i64 x) w := fun w => run_convert_float_int w _ _ .f64 .i64 a x (by rw [Tryd.underlying73]; rfl) Tryd.underlying3 (ha.toInt hx)
  have c2 : ∀ w, (convert 73 3 (.float .f64 b)).run Tryd.prog w = .ok (.int .i64 y) w := fun w => run_convert_float_int w _ _ .f64 .i64 b y (by rw [Tryd.underlying73]; rfl) Tryd.underlying3 (hb.toInt hy)
  clear ha hb hx hy
  go_enter Tryd.func35, Tryd.ntmps35
  go_wp2
  refine bodyPost_ret_by (v := pv x y) ?_ rfl ⟨rfl, ?_⟩
  · simp [results, Tryd.results35, go_sem]
  · repeat (first | exact Grew.refl _ | apply Grew.drew | apply Grew.drewN | apply Grew.alloc | apply Grew.more)
end Go.Proofs.YtibbenhplmmmiaaDoor
