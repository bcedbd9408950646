/-
  The walk of DatumLogic: truth of three kinds can be turned round, put together otherwise, and parted.
-/
import Derived.Test.YtkfnmblfaaabkabGreatDoorVKnows
namespace Go.Proofs.YtkfnmblfaaabkabGreatDoor
open Go.RowKit Go.Shelf

theorem tand_comm (a b : Int) : tand b a = tand a b := by
  unfold tand
  by_cases h0 : a = 0 <;> by_cases h1 : a = 1 <;> by_cases g0 : b = 0 <;> by_cases g1 : b = 1 <;> simp_all
theorem tor_comm (a b : Int) : tor b a = tor a b := by
  unfold tor
  by_cases h0 : a = 0 <;> by_cases h1 : a = 1 <;> by_cases g0 : b = 0 <;> by_cases g1 : b = 1 <;> simp_all
theorem tand_assoc (a b c : Int) : tand (tand a b) c = tand a (tand b c) := by
  unfold tand
  by_cases h0 : a = 0 <;> by_cases h1 : a = 1 <;> by_cases g0 : b = 0 <;> by_cases g1 : b = 1 <;> by_cases i0 : c = 0 <;> by_cases i1 : c = 1 <;> simp_all
theorem tor_assoc (a b c : Int) : tor (tor a b) c = tor a (tor b c) := by
  unfold tor
  by_cases h0 : a = 0 <;> by_cases h1 : a = 1 <;> by_cases g0 : b = 0 <;> by_cases g1 : b = 1 <;> by_cases i0 : c = 0 <;> by_cases i1 : c = 1 <;> simp_all
theorem tand_tor (a b c : Int) : tor (tand a b) (tand a c) = tand a (tor b c) := by
  unfold tor tand
  by_cases h0 : a = 0 <;> by_cases h1 : a = 1 <;> by_cases g0 : b = 0 <;> by_cases g1 : b = 1 <;> by_cases i0 : c = 0 <;> by_cases i1 : c = 1 <;> simp_all
theorem tor_tand (a b c : Int) : tand (tor a b) (tor a c) = tor a (tand b c) := by
  unfold tor tand
  by_cases h0 : a = 0 <;> by_cases h1 : a = 1 <;> by_cases g0 : b = 0 <;> by_cases g1 : b = 1 <;> by_cases i0 : c = 0 <;> by_cases i1 : c = 1 <;> simp_all
theorem tnot_three (a : Int) : tnot (tnot (tnot a)) = tnot a := by
  unfold tnot
  by_cases h0 : a = 0 <;> by_cases h1 : a = 1 <;> simp_all

set_option maxHeartbeats 4000000 in
theorem logic_walk (a b c : Int) (w : World) (hT : Tabs w) : Calls Tryz.prog 4 #[.int .i64 a, .int .i64 b, .int .i64 c] w fun e w' => e = .returned (.bool true) ∧ Below w.heap.size w w' := by
  have e1 := tand_comm a b
  have e2 := tor_comm a b
  have e3 := tand_assoc a b c
  have e4 := tor_assoc a b c
  have e5 := tand_tor a b c
  have e6 := tor_tand a b c
  have e7 := tnot_three a
  have K := knows_any w hT
  go_enter Tryz.func4, Tryz.ntmps4
  go_wp2_with (first
    | (go_at_call 9; refine (and_any _ _ _).mono ?_; rintro e w' ⟨rfl, rfl⟩)
    | (go_at_call 10; refine (or_any _ _ _).mono ?_; rintro e w' ⟨rfl, rfl⟩)
    | (go_at_call 11; refine (not_any _ _).mono ?_; rintro e w' ⟨rfl, rfl⟩)
    | (go_at_call 6; refine K.mono ?_; rintro e w1 ⟨rfl, b1⟩))
  go_ret
  exact ⟨rfl, b1⟩
end Go.Proofs.YtkfnmblfaaabkabGreatDoor
