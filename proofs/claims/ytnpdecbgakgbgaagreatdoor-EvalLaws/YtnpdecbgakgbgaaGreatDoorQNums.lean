/-
  Ops of two numbers: eval.ofNumbers.
-/
import Derived.Test.YtnpdecbgakgbgaaGreatDoorMzQTells
import Derived.Test.YtnpdecbgakgbgaaGreatDoorDAdd
import Derived.Test.YtnpdecbgakgbgaaGreatDoorDSub
import Derived.Test.YtnpdecbgakgbgaaGreatDoorDMul
import Derived.Test.YtnpdecbgakgbgaaGreatDoorDDivz
namespace Go.Proofs.YtnpdecbgakgbgaaGreatDoor
open Go.RowKit Go.Shelf
attribute [local go_sem] cell?_more frozen?_more setCell_more more_lt more_more more_drew more_drewN setCell_drewN alloc_drewN

theorem gsc_or (s t : Int) : (gsc s t = s ∧ t ≤ s) ∨ (gsc s t = t ∧ s < t) := by unfold gsc; split <;> omega
theorem psc_or (s t : Int) : (psc s t = s + t ∧ s + t ≤ 6) ∨ (psc s t = 6 ∧ 6 < s + t) := by unfold psc; split <;> omega

set_option maxHeartbeats 2000000 in
theorem qnums_any (op : Int) (a b : Va) (w : World) (hP : Pw w) (ha : 0 ≤ a.m ∧ a.m ≤ 6) (hb : 0 ≤ b.m ∧ b.m ≤ 6) (va : vin a) (vb : vin b) :
    Calls Tryz.prog 53 #[.int .i64 op, dv a.n a.m, dv b.n b.m] w fun e w' => e = .returned (rs (numsR op a b)) ∧ Grew w w' := by
  have ra := (rightS_iff a.m).2 ha
  have rb := (rightS_iff b.m).2 hb
  unfold numsR decR
  by_cases h9 : op = 9
  · subst h9
    rw [if_pos rfl]
    have C : ∀ W, Grew w W → Calls Tryz.prog 108 #[dv a.n a.m, dv b.n b.m] W fun e w' => e = .returned (.tuple #[dv _ _, .int .i64 _]) ∧ Grew W w' := fun W h => add_good a.n a.m b.n b.m _ W (hP.later h) ra rb (gsc_or a.m b.m) va.1.1 va.1.2 vb.1.1 vb.1.2
    have H := fun u s x W => qexact_any u s x W
    clear hP ha hb ra rb va vb
    go_enter Tryz.func53, Tryz.ntmps53
    go_wp2_with (first
      | (go_at_call 108; refine (C _ (by repeat (first | assumption | exact Grew.refl _ | apply Grew.drew | apply Grew.drewN | apply Grew.alloc | apply Grew.more))).mono ?_; rintro e w1 ⟨rfl, os1, n1, rfl⟩)
      | (go_at_call 95; refine (H _ _ _ _).mono ?_; rintro e w1 ⟨rfl, os2, n2, rfl⟩))
    refine bodyPost_ret_by (v := rs _) ?_ rfl ⟨rfl, ?_⟩
    · simp [results, Tryz.results53, go_sem]
    · repeat (first | assumption | exact Grew.refl _ | apply Grew.drew | apply Grew.drewN | apply Grew.alloc | apply Grew.more)
  have c9 : (op == 9) = false := by simpa using h9
  by_cases h10 : op = 10
  · subst h10
    rw [if_neg (by decide), if_pos rfl]
    have C : ∀ W, Grew w W → Calls Tryz.prog 109 #[dv a.n a.m, dv b.n b.m] W fun e w' => e = .returned (.tuple #[dv _ _, .int .i64 _]) ∧ Grew W w' := fun W h => sub_good a.n a.m b.n b.m _ W (hP.later h) ra rb (gsc_or a.m b.m) va.1.1 va.1.2 vb.1.1 vb.1.2
    have H := fun u s x W => qexact_any u s x W
    clear hP ha hb ra rb va vb
    go_enter Tryz.func53, Tryz.ntmps53
    go_wp2_with (first
      | (go_at_call 109; refine (C _ (by repeat (first | assumption | exact Grew.refl _ | apply Grew.drew | apply Grew.drewN | apply Grew.alloc | apply Grew.more))).mono ?_; rintro e w1 ⟨rfl, os1, n1, rfl⟩)
      | (go_at_call 95; refine (H _ _ _ _).mono ?_; rintro e w1 ⟨rfl, os2, n2, rfl⟩))
    refine bodyPost_ret_by (v := rs _) ?_ rfl ⟨rfl, ?_⟩
    · simp [results, Tryz.results53, go_sem]
    · repeat (first | assumption | exact Grew.refl _ | apply Grew.drew | apply Grew.drewN | apply Grew.alloc | apply Grew.more)
  have c10 : (op == 10) = false := by simpa using h10
  by_cases h6 : op = 6
  · subst h6
    rw [if_neg (by decide), if_neg (by decide), if_pos rfl]
    have C : ∀ W, Grew w W → Calls Tryz.prog 110 #[dv a.n a.m, dv b.n b.m] W fun e w' => e = .returned (.tuple #[dv _ _, .int .i64 _]) ∧ Grew W w' := fun W h => mul_good a.n a.m b.n b.m _ (a.m + b.m - psc a.m b.m).toNat W (hP.later h) ra rb (psc_or a.m b.m) (by have := psc_or a.m b.m; omega) va.1.1 va.1.2 vb.1.1 vb.1.2
    have H := fun u s x W => qexact_any u s x W
    clear hP ha hb ra rb va vb
    go_enter Tryz.func53, Tryz.ntmps53
    go_wp2_with (first
      | (go_at_call 110; refine (C _ (by repeat (first | assumption | exact Grew.refl _ | apply Grew.drew | apply Grew.drewN | apply Grew.alloc | apply Grew.more))).mono ?_; rintro e w1 ⟨rfl, os1, n1, rfl⟩)
      | (go_at_call 95; refine (H _ _ _ _).mono ?_; rintro e w1 ⟨rfl, os2, n2, rfl⟩))
    refine bodyPost_ret_by (v := rs _) ?_ rfl ⟨rfl, ?_⟩
    · simp [results, Tryz.results53, go_sem]
    · repeat (first | assumption | exact Grew.refl _ | apply Grew.drew | apply Grew.drewN | apply Grew.alloc | apply Grew.more)
  have c6 : (op == 6) = false := by simpa using h6
  by_cases h7 : op = 7
  · subst h7
    rw [if_neg (by decide), if_neg (by decide), if_neg (by decide), if_pos rfl]
    by_cases hz : b.n = 0
    · rw [if_pos hz, hz]
      show Calls _ _ _ _ fun e w' => e = .returned (rs (exactR 0 0 33)) ∧ _
      have C : ∀ W, Grew w W → Calls Tryz.prog 111 #[dv a.n a.m, dv 0 b.m, .int .i64 6] W fun e w' => e = .returned (.tuple #[dv _ _, .int .i64 _]) ∧ Grew W w' := fun W h => div_zero a.n a.m b.m 6 W ra rb rfl
      have H := fun u s x W => qexact_any u s x W
      clear hP ha hb ra rb va vb
      go_enter Tryz.func53, Tryz.ntmps53
      go_wp2_with (first
        | (go_at_call 111; refine (C _ (by repeat (first | assumption | exact Grew.refl _ | apply Grew.drew | apply Grew.drewN | apply Grew.alloc | apply Grew.more))).mono ?_; rintro e w1 ⟨rfl, os1, n1, rfl⟩)
        | (go_at_call 95; refine (H _ _ _ _).mono ?_; rintro e w1 ⟨rfl, os2, n2, rfl⟩))
      refine bodyPost_ret_by (v := rs _) ?_ rfl ⟨rfl, ?_⟩
      · simp [results, Tryz.results53, go_sem]
      · repeat (first | assumption | exact Grew.refl _ | apply Grew.drew | apply Grew.drewN | apply Grew.alloc | apply Grew.more)
    · rw [if_neg hz]
      have C : ∀ W, Grew w W → Calls Tryz.prog 111 #[dv a.n a.m, dv b.n b.m, .int .i64 6] W fun e w' => e = .returned (.tuple #[dv _ _, .int .i64 _]) ∧ Grew W w' := fun W h => div_good a.n a.m b.n b.m 6 W (hP.later h) ra rb rfl va.1.1 va.1.2 vb.1.1 vb.1.2 hz
      have H := fun u s x W => qexact_any u s x W
      clear hP ha hb ra rb va vb
      go_enter Tryz.func53, Tryz.ntmps53
      go_wp2_with (first
        | (go_at_call 111; refine (C _ (by repeat (first | assumption | exact Grew.refl _ | apply Grew.drew | apply Grew.drewN | apply Grew.alloc | apply Grew.more))).mono ?_; rintro e w1 ⟨rfl, os1, n1, rfl⟩)
        | (go_at_call 95; refine (H _ _ _ _).mono ?_; rintro e w1 ⟨rfl, os2, n2, rfl⟩))
      refine bodyPost_ret_by (v := rs _) ?_ rfl ⟨rfl, ?_⟩
      · simp [results, Tryz.results53, go_sem]
      · repeat (first | assumption | exact Grew.refl _ | apply Grew.drew | apply Grew.drewN | apply Grew.alloc | apply Grew.more)
  have c7 : (op == 7) = false := by simpa using h7
  rw [if_neg h9, if_neg h10, if_neg h6, if_neg h7]
  have C : ∀ W, Grew w W → Calls Tryz.prog 112 #[dv a.n a.m, dv b.n b.m] W fun e w' => e = .returned (.int .i64 _) ∧ Grew W w' := fun W h => dcmp_six a b W (hP.later h) ha hb va vb
  have H := fun c W => qcompared_any op c W
  clear hP ha hb ra rb va vb
  go_enter Tryz.func53, Tryz.ntmps53
  go_wp2_with (first
    | (go_at_call 112; refine (C _ (by repeat (first | assumption | exact Grew.refl _ | apply Grew.drew | apply Grew.drewN | apply Grew.alloc | apply Grew.more))).mono ?_; rintro e w1 ⟨rfl, os1, n1, rfl⟩)
    | (go_at_call 57; refine (H _ _).mono ?_; rintro e w1 ⟨rfl, os2, n2, rfl⟩))
  refine bodyPost_ret_by (v := rs _) ?_ rfl ⟨rfl, ?_⟩
  · simp [results, Tryz.results53, go_sem]
  · repeat (first | assumption | exact Grew.refl _ | apply Grew.drew | apply Grew.drewN | apply Grew.alloc | apply Grew.more)
end Go.Proofs.YtnpdecbgakgbgaaGreatDoor
