/-
  Ops of two Ints: eval.difference, quotient, rest, ofInts.
-/
import Derived.Test.YtnpdecbgakgbgaaGreatDoorMtQTells
import Derived.Test.YtnpdecbgakgbgaaGreatDoorMvDInt0
import Derived.Test.YtnpdecbgakgbgaaGreatDoorDSub
namespace Go.Proofs.YtnpdecbgakgbgaaGreatDoor
open Go.RowKit Go.Shelf
attribute [local go_sem] cell?_more frozen?_more setCell_more more_lt more_more more_drew more_drewN setCell_drewN alloc_drewN

theorem at10_zero (u : Int) : at10 u 0 0 = u := by simp [at10]

theorem qdiff_any (a b : Int) (w : World) (hP : Pw w) (a0 : -9223372036854775808 ≤ a) (a1 : a ≤ 9223372036854775807) (b0 : -9223372036854775808 ≤ b) (b1 : b ≤ 9223372036854775807) :
    Calls Tryz.prog 94 #[.int .i64 a, .int .i64 b] w fun e w' => e = .returned (ires (a - b)) ∧ Grew w w' := by
  have S : ∀ W, Grew w W → Calls Tryz.prog 109 #[dv a 0, dv b 0] W fun e w' => e = .returned (dres (a - b) 0) ∧ Grew W w' := by
    intro W h
    have := sub_good a 0 b 0 0 W (hP.later h) rfl rfl (.inl ⟨rfl, Int.le_refl _⟩) a0 a1 b0 b1
    rwa [at10_zero, at10_zero] at this
  clear hP a0 a1 b0 b1
  generalize a - b = z at *
  go_enter Tryz.func94, Tryz.ntmps94
  go_wp2_with (go_at_call 109; refine (S _ (by repeat (first | assumption | exact Grew.refl _ | apply Grew.drew | apply Grew.drewN | apply Grew.alloc | apply Grew.more))).mono ?_; rintro e w1 ⟨rfl, os1, n1, rfl⟩)
  refine bodyPost_ret_by (v := ires z) ?_ rfl ⟨rfl, ?_⟩
  · simp [results, Tryz.results94, go_sem]
  · repeat (first | assumption | exact Grew.refl _ | apply Grew.drew | apply Grew.drewN | apply Grew.alloc | apply Grew.more)

theorem tdiv_in (a b : Int) (b2 : b ≠ -1) (a0 : -9223372036854775808 ≤ a) (a1 : a ≤ 9223372036854775807) (b0 : -9223372036854775808 ≤ b) (b1 : b ≤ 9223372036854775807) : -9223372036854775808 ≤ a.tdiv b ∧ a.tdiv b ≤ 9223372036854775807 := by
  have h : (a.tdiv b).natAbs = a.natAbs / b.natAbs := Int.natAbs_tdiv a b
  rcases Nat.lt_or_ge b.natAbs 2 with h2 | h2
  · have : b = 0 ∨ b = 1 := by omega
    rcases this with rfl | rfl
    · simp
    · simp; omega
  · have : a.natAbs / b.natAbs ≤ a.natAbs / 2 := Nat.div_le_div_left h2 (by decide)
    omega
theorem tmod_in (a b : Int) (a0 : -9223372036854775808 ≤ a) (a1 : a ≤ 9223372036854775807) : -9223372036854775808 ≤ a.tmod b ∧ a.tmod b ≤ 9223372036854775807 := by
  have h : (a.tmod b).natAbs = a.natAbs % b.natAbs := Int.natAbs_tmod a b
  have := Nat.mod_le a.natAbs b.natAbs
  have h1 := Int.tmod_nonneg (a := a) b
  have h2 : a ≤ 0 → a.tmod b ≤ 0 := fun h => by have := Int.tmod_nonneg (a := -a) b (by omega); rw [Int.neg_tmod] at this; omega
  omega

theorem qquo_any (a b : Int) (w : World) (a0 : -9223372036854775808 ≤ a) (a1 : a ≤ 9223372036854775807) (b0 : -9223372036854775808 ≤ b) (b1 : b ≤ 9223372036854775807) :
    Calls Tryz.prog 105 #[.int .i64 a, .int .i64 b] w fun e w' => e = .returned (.tuple #[.int .i64 (quoR a b).1, .int .i64 (quoR a b).2]) ∧ Grew w w' := by
  unfold quoR
  by_cases h0 : b = 0
  · subst h0
    rw [if_pos rfl]
    go_enter Tryz.func105, Tryz.ntmps105
    go_wp2
    go_ret2
    exact ⟨rfl, (by repeat (first | assumption | exact Grew.refl _ | apply Grew.drew | apply Grew.drewN | apply Grew.alloc | apply Grew.more))⟩
  rw [if_neg h0]
  have c0 : (b == 0) = false := by simpa using h0
  by_cases h1 : b = -1
  · subst h1
    rw [if_pos rfl]
    have M := fun W => mulInt_any a (-1) W a0 a1 b0 b1
    rw [Int.mul_neg, Int.mul_one] at M
    clear a0 a1 b0 b1
    go_enter Tryz.func105, Tryz.ntmps105
    go_wp2_with (go_at_call 104; refine (M _).mono ?_; rintro e w1 ⟨rfl, os1, n1, rfl⟩)
    go_ret2
    exact ⟨rfl, (by repeat (first | assumption | exact Grew.refl _ | apply Grew.drew | apply Grew.drewN | apply Grew.alloc | apply Grew.more))⟩
  rw [if_neg h1]
  have c1 : (b == -1) = false := by simpa using h1
  obtain ⟨l0, l1⟩ := tdiv_in a b h1 a0 a1 b0 b1
  go_enter Tryz.func105, Tryz.ntmps105
  go_wp2
  go_ret2
  exact ⟨rfl, (by repeat (first | assumption | exact Grew.refl _ | apply Grew.drew | apply Grew.drewN | apply Grew.alloc | apply Grew.more))⟩

theorem qrem_any (a b : Int) (w : World) (a0 : -9223372036854775808 ≤ a) (a1 : a ≤ 9223372036854775807) (b0 : -9223372036854775808 ≤ b) (b1 : b ≤ 9223372036854775807) :
    Calls Tryz.prog 106 #[.int .i64 a, .int .i64 b] w fun e w' => e = .returned (.tuple #[.int .i64 (remR a b).1, .int .i64 (remR a b).2]) ∧ Grew w w' := by
  unfold remR
  by_cases h0 : b = 0
  · subst h0
    rw [if_pos rfl]
    go_enter Tryz.func106, Tryz.ntmps106
    go_wp2
    go_ret2
    exact ⟨rfl, (by repeat (first | assumption | exact Grew.refl _ | apply Grew.drew | apply Grew.drewN | apply Grew.alloc | apply Grew.more))⟩
  rw [if_neg h0]
  have c0 : (b == 0) = false := by simpa using h0
  obtain ⟨l0, l1⟩ := tmod_in a b a0 a1
  go_enter Tryz.func106, Tryz.ntmps106
  go_wp2
  go_ret2
  exact ⟨rfl, (by repeat (first | assumption | exact Grew.refl _ | apply Grew.drew | apply Grew.drewN | apply Grew.alloc | apply Grew.more))⟩

theorem qints_any (op a b : Int) (w : World) (hP : Pw w) (a0 : -9223372036854775808 ≤ a) (a1 : a ≤ 9223372036854775807) (b0 : -9223372036854775808 ≤ b) (b1 : b ≤ 9223372036854775807) :
    Calls Tryz.prog 51 #[.int .i64 op, .int .i64 a, .int .i64 b] w fun e w' => e = .returned (rs (intsR op a b)) ∧ Grew w w' := by
  unfold intsR
  by_cases h9 : op = 9
  · subst h9
    rw [if_pos rfl]
    have C : ∀ W, Grew w W → Calls Tryz.prog 103 #[.int .i64 a, .int .i64 b] W fun e w' => e = .returned (.tuple #[.int .i64 _, .int .i64 _]) ∧ Grew W w' := fun W h => addInt_any a b W a0 a1 b0 b1
    have H := fun n x W => qwhole_any n x W
    clear hP a0 a1 b0 b1
    go_enter Tryz.func51, Tryz.ntmps51
    go_wp2_with (first
      | (go_at_call 103; refine (C _ (by repeat (first | assumption | exact Grew.refl _ | apply Grew.drew | apply Grew.drewN | apply Grew.alloc | apply Grew.more))).mono ?_; rintro e w1 ⟨rfl, os1, n1, rfl⟩)
      | (go_at_call 93; refine (H _ _ _).mono ?_; rintro e w1 ⟨rfl, os2, n2, rfl⟩))
    refine bodyPost_ret_by (v := rs _) ?_ rfl ⟨rfl, ?_⟩
    · simp [results, Tryz.results51, go_sem]
    · repeat (first | assumption | exact Grew.refl _ | apply Grew.drew | apply Grew.drewN | apply Grew.alloc | apply Grew.more)
  have c9 : (op == 9) = false := by simpa using h9
  by_cases h10 : op = 10
  · subst h10
    rw [if_neg (by decide), if_pos rfl]
    have C : ∀ W, Grew w W → Calls Tryz.prog 94 #[.int .i64 a, .int .i64 b] W fun e w' => e = .returned (.tuple #[.int .i64 _, .int .i64 _]) ∧ Grew W w' := fun W h => qdiff_any a b W (hP.later h) a0 a1 b0 b1
    have H := fun n x W => qwhole_any n x W
    clear hP a0 a1 b0 b1
    go_enter Tryz.func51, Tryz.ntmps51
    go_wp2_with (first
      | (go_at_call 94; refine (C _ (by repeat (first | assumption | exact Grew.refl _ | apply Grew.drew | apply Grew.drewN | apply Grew.alloc | apply Grew.more))).mono ?_; rintro e w1 ⟨rfl, os1, n1, rfl⟩)
      | (go_at_call 93; refine (H _ _ _).mono ?_; rintro e w1 ⟨rfl, os2, n2, rfl⟩))
    refine bodyPost_ret_by (v := rs _) ?_ rfl ⟨rfl, ?_⟩
    · simp [results, Tryz.results51, go_sem]
    · repeat (first | assumption | exact Grew.refl _ | apply Grew.drew | apply Grew.drewN | apply Grew.alloc | apply Grew.more)
  have c10 : (op == 10) = false := by simpa using h10
  by_cases h6 : op = 6
  · subst h6
    rw [if_neg (by decide), if_neg (by decide), if_pos rfl]
    have C : ∀ W, Grew w W → Calls Tryz.prog 104 #[.int .i64 a, .int .i64 b] W fun e w' => e = .returned (.tuple #[.int .i64 _, .int .i64 _]) ∧ Grew W w' := fun W h => mulInt_any a b W a0 a1 b0 b1
    have H := fun n x W => qwhole_any n x W
    clear hP a0 a1 b0 b1
    go_enter Tryz.func51, Tryz.ntmps51
    go_wp2_with (first
      | (go_at_call 104; refine (C _ (by repeat (first | assumption | exact Grew.refl _ | apply Grew.drew | apply Grew.drewN | apply Grew.alloc | apply Grew.more))).mono ?_; rintro e w1 ⟨rfl, os1, n1, rfl⟩)
      | (go_at_call 93; refine (H _ _ _).mono ?_; rintro e w1 ⟨rfl, os2, n2, rfl⟩))
    refine bodyPost_ret_by (v := rs _) ?_ rfl ⟨rfl, ?_⟩
    · simp [results, Tryz.results51, go_sem]
    · repeat (first | assumption | exact Grew.refl _ | apply Grew.drew | apply Grew.drewN | apply Grew.alloc | apply Grew.more)
  have c6 : (op == 6) = false := by simpa using h6
  by_cases h7 : op = 7
  · subst h7
    rw [if_neg (by decide), if_neg (by decide), if_neg (by decide), if_pos rfl]
    have C : ∀ W, Grew w W → Calls Tryz.prog 105 #[.int .i64 a, .int .i64 b] W fun e w' => e = .returned (.tuple #[.int .i64 _, .int .i64 _]) ∧ Grew W w' := fun W h => qquo_any a b W a0 a1 b0 b1
    have H := fun n x W => qwhole_any n x W
    clear hP a0 a1 b0 b1
    go_enter Tryz.func51, Tryz.ntmps51
    go_wp2_with (first
      | (go_at_call 105; refine (C _ (by repeat (first | assumption | exact Grew.refl _ | apply Grew.drew | apply Grew.drewN | apply Grew.alloc | apply Grew.more))).mono ?_; rintro e w1 ⟨rfl, os1, n1, rfl⟩)
      | (go_at_call 93; refine (H _ _ _).mono ?_; rintro e w1 ⟨rfl, os2, n2, rfl⟩))
    refine bodyPost_ret_by (v := rs _) ?_ rfl ⟨rfl, ?_⟩
    · simp [results, Tryz.results51, go_sem]
    · repeat (first | assumption | exact Grew.refl _ | apply Grew.drew | apply Grew.drewN | apply Grew.alloc | apply Grew.more)
  have c7 : (op == 7) = false := by simpa using h7
  by_cases h8 : op = 8
  · subst h8
    rw [if_neg (by decide), if_neg (by decide), if_neg (by decide), if_neg (by decide), if_pos rfl]
    have C : ∀ W, Grew w W → Calls Tryz.prog 106 #[.int .i64 a, .int .i64 b] W fun e w' => e = .returned (.tuple #[.int .i64 _, .int .i64 _]) ∧ Grew W w' := fun W h => qrem_any a b W a0 a1 b0 b1
    have H := fun n x W => qwhole_any n x W
    clear hP a0 a1 b0 b1
    go_enter Tryz.func51, Tryz.ntmps51
    go_wp2_with (first
      | (go_at_call 106; refine (C _ (by repeat (first | assumption | exact Grew.refl _ | apply Grew.drew | apply Grew.drewN | apply Grew.alloc | apply Grew.more))).mono ?_; rintro e w1 ⟨rfl, os1, n1, rfl⟩)
      | (go_at_call 93; refine (H _ _ _).mono ?_; rintro e w1 ⟨rfl, os2, n2, rfl⟩))
    refine bodyPost_ret_by (v := rs _) ?_ rfl ⟨rfl, ?_⟩
    · simp [results, Tryz.results51, go_sem]
    · repeat (first | assumption | exact Grew.refl _ | apply Grew.drew | apply Grew.drewN | apply Grew.alloc | apply Grew.more)
  have c8 : (op == 8) = false := by simpa using h8
  rw [if_neg h9, if_neg h10, if_neg h6, if_neg h7, if_neg h8]
  have C := fun W => cmpI_any a b W
  have H := fun c W => qcompared_any op c W
  clear hP a0 a1 b0 b1
  go_enter Tryz.func51, Tryz.ntmps51
  go_wp2_with (first
    | (go_at_call 107; refine (C _).mono ?_; rintro e w1 ⟨rfl, rfl⟩)
    | (go_at_call 57; refine (H _ _).mono ?_; rintro e w1 ⟨rfl, os2, n2, rfl⟩))
  refine bodyPost_ret_by (v := rs _) ?_ rfl ⟨rfl, ?_⟩
  · simp [results, Tryz.results51, go_sem]
  · repeat (first | assumption | exact Grew.refl _ | apply Grew.drew | apply Grew.drewN | apply Grew.alloc | apply Grew.more)
end Go.Proofs.YtnpdecbgakgbgaaGreatDoor
