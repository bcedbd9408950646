/-
  The contracts of datum's truths: And, Or, Not, Of, and the document's.
-/
import Derived.Test.YtafmchgncahafaaGreatDoorProg
import Derived.WalkKit
import Derived.WalkMore
import Derived.WalkSpells
import Derived.WalkLawsBesides
import Derived.RowKit
import Derived.Below
import Derived.Test.YtafmchgncahafaaGreatDoorVMath
import Derived.Test.YtafmchgncahafaaGreatDoorMqDWide3
namespace Go.Proofs.YtafmchgncahafaaGreatDoor
open Go.RowKit
attribute [local go_sem] cell?_more frozen?_more setCell_more more_lt more_more more_drew more_drewN setCell_drewN alloc_drewN

def tand (a b : Int) : Int := if a = 0 ∨ b = 0 then 0 else if a = 1 ∧ b = 1 then 1 else 2
def tnot (a : Int) : Int := if a = 0 then 1 else if a = 1 then 0 else 2
def tor (a b : Int) : Int := if a = 1 ∨ b = 1 then 1 else if a = 0 ∧ b = 0 then 0 else 2
theorem tor_eq (a b : Int) : tnot (tand (tnot a) (tnot b)) = tor a b := by
  unfold tnot tand tor
  by_cases h0 : a = 0 <;> by_cases h1 : a = 1 <;> by_cases g0 : b = 0 <;> by_cases g1 : b = 1 <;> simp_all

theorem and_any (a b : Int) (w : World) : Calls Tryz.prog 37 #[.int .i64 a, .int .i64 b] w fun e w' => e = .returned (.int .i64 (tand a b)) ∧ w = w' := by
  by_cases a0 : a = 0
  · subst a0
    by_cases b0 : b = 0
    · subst b0
      rw [show tand 0 0 = 0 by (unfold tand; repeat' split) <;> omega]
      go_enter Tryz.func37, Tryz.ntmps37
      go_wp2
      all_goals go_ret
      all_goals exact ⟨rfl, rfl⟩
    have d0 : (b == 0) = false := by simpa using b0
    by_cases b1 : b = 1
    · subst b1
      rw [show tand 0 1 = 0 by (unfold tand; repeat' split) <;> omega]
      go_enter Tryz.func37, Tryz.ntmps37
      go_wp2
      all_goals go_ret
      all_goals exact ⟨rfl, rfl⟩
    have d1 : (b == 1) = false := by simpa using b1
    rw [show tand 0 b = 0 by (unfold tand; repeat' split) <;> omega]
    go_enter Tryz.func37, Tryz.ntmps37
    go_wp2
    all_goals go_ret
    all_goals exact ⟨rfl, rfl⟩
  have c0 : (a == 0) = false := by simpa using a0
  by_cases a1 : a = 1
  · subst a1
    by_cases b0 : b = 0
    · subst b0
      rw [show tand 1 0 = 0 by (unfold tand; repeat' split) <;> omega]
      go_enter Tryz.func37, Tryz.ntmps37
      go_wp2
      all_goals go_ret
      all_goals exact ⟨rfl, rfl⟩
    have d0 : (b == 0) = false := by simpa using b0
    by_cases b1 : b = 1
    · subst b1
      rw [show tand 1 1 = 1 by (unfold tand; repeat' split) <;> omega]
      go_enter Tryz.func37, Tryz.ntmps37
      go_wp2
      all_goals go_ret
      all_goals exact ⟨rfl, rfl⟩
    have d1 : (b == 1) = false := by simpa using b1
    rw [show tand 1 b = 2 by (unfold tand; repeat' split) <;> omega]
    go_enter Tryz.func37, Tryz.ntmps37
    go_wp2
    all_goals go_ret
    all_goals exact ⟨rfl, rfl⟩
  have c1 : (a == 1) = false := by simpa using a1
  by_cases b0 : b = 0
  · subst b0
    rw [show tand a 0 = 0 by (unfold tand; repeat' split) <;> omega]
    go_enter Tryz.func37, Tryz.ntmps37
    go_wp2
    all_goals go_ret
    all_goals exact ⟨rfl, rfl⟩
  have d0 : (b == 0) = false := by simpa using b0
  by_cases b1 : b = 1
  · subst b1
    rw [show tand a 1 = 2 by (unfold tand; repeat' split) <;> omega]
    go_enter Tryz.func37, Tryz.ntmps37
    go_wp2
    all_goals go_ret
    all_goals exact ⟨rfl, rfl⟩
  have d1 : (b == 1) = false := by simpa using b1
  rw [show tand a b = 2 by (unfold tand; repeat' split) <;> omega]
  go_enter Tryz.func37, Tryz.ntmps37
  go_wp2
  all_goals go_ret
  all_goals exact ⟨rfl, rfl⟩

theorem not_any (a : Int) (w : World) : Calls Tryz.prog 39 #[.int .i64 a] w fun e w' => e = .returned (.int .i64 (tnot a)) ∧ w = w' := by
  by_cases a0 : a = 0
  · subst a0
    rw [show tnot 0 = 1 by (unfold tnot; repeat' split) <;> omega]
    go_enter Tryz.func39, Tryz.ntmps39
    go_wp2
    all_goals go_ret
    all_goals exact ⟨rfl, rfl⟩
  have c0 : (a == 0) = false := by simpa using a0
  by_cases a1 : a = 1
  · subst a1
    rw [show tnot 1 = 0 by (unfold tnot; repeat' split) <;> omega]
    go_enter Tryz.func39, Tryz.ntmps39
    go_wp2
    all_goals go_ret
    all_goals exact ⟨rfl, rfl⟩
  have c1 : (a == 1) = false := by simpa using a1
  rw [show tnot a = 2 by (unfold tnot; repeat' split) <;> omega]
  go_enter Tryz.func39, Tryz.ntmps39
  go_wp2
  all_goals go_ret
  all_goals exact ⟨rfl, rfl⟩

theorem or_any (a b : Int) (w : World) : Calls Tryz.prog 38 #[.int .i64 a, .int .i64 b] w fun e w' => e = .returned (.int .i64 (tor a b)) ∧ w = w' := by
  rw [← tor_eq]
  go_enter Tryz.func38, Tryz.ntmps38
  go_wp2_with fail
  refine (not_any a _).mono ?_
  rintro e w' ⟨rfl, rfl⟩
  go_wp2_with fail
  refine (not_any b _).mono ?_
  rintro e w' ⟨rfl, rfl⟩
  go_wp2_with fail
  refine (and_any _ _ _).mono ?_
  rintro e w' ⟨rfl, rfl⟩
  go_wp2_with fail
  refine (not_any _ _).mono ?_
  rintro e w' ⟨rfl, rfl⟩
  go_wp2
  go_ret
  exact ⟨rfl, rfl⟩

/-- A value as the program has it. -/
abbrev va (k n m : Int) (b : ByteArray) : Value := .agg #[.int .i64 k, .int .i64 n, .int .i64 m, .string b]
end Go.Proofs.YtafmchgncahafaaGreatDoor
