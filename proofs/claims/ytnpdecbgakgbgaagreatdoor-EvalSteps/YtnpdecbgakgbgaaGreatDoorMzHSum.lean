/-
  decimal.Div by 0.
  Ops of two numbers: eval.ofNumbers.
  Contracts of package gauss: Add, Sub, Mul: for every two points.
-/
import Derived.Test.YtnpdecbgakgbgaaGreatDoorDDivs
import Derived.Test.YtnpdecbgakgbgaaGreatDoorMsQTells
import Derived.Test.YtnpdecbgakgbgaaGreatDoorDAdd
import Derived.Test.YtnpdecbgakgbgaaGreatDoorDSub
import Derived.Test.YtnpdecbgakgbgaaGreatDoorDMul
namespace Go.Proofs.YtnpdecbgakgbgaaGreatDoor
open Go.RowKit
attribute [local go_sem] cell?_more frozen?_more setCell_more more_lt more_more more_drew more_drewN setCell_drewN alloc_drewN

set_option maxHeartbeats 2000000 in
theorem div_zero (ua sa sb s : Int) (w : World) (ha : rightS sa = true) (hb : rightS sb = true) (hs : rightS s = true) :
    Calls Tryz.prog 111 #[dv ua sa, dv 0 sb, .int .i64 s] w fun e w' => e = .returned (dBad 33) ∧ Grew w w' := by
  have Ra := fun W => right_any ua sa W
  have Rb := fun W => right_any 0 sb W
  have Rs := fun W => rightScale_any s W
  rw [ha] at Ra
  rw [hb] at Rb
  rw [hs] at Rs
  clear ha hb hs
  go_enter Tryz.func111, Tryz.ntmps111
  go_wp2_with fail
  refine (Ra _).mono ?_
  rintro e w' ⟨rfl, os, n, rfl⟩
  go_wp2_with fail
  refine (Rb _).mono ?_
  rintro e w' ⟨rfl, os', n', rfl⟩
  go_wp2_with (go_at_call 170; refine (Rs _).mono ?_; rintro e w' ⟨rfl, rfl⟩)
  refine bodyPost_ret_by (v := dBad 33) ?_ rfl ⟨rfl, (by repeat (first | exact Grew.refl _ | apply Grew.drew | apply Grew.drewN | apply Grew.alloc | apply Grew.more))⟩
  simp [results, Tryz.results111, go_sem]
end Go.Proofs.YtnpdecbgakgbgaaGreatDoor

namespace Go.Proofs.YtnpdecbgakgbgaaGreatDoor
open Go.RowKit Go.Shelf
attribute [local go_sem] cell?_more frozen?_more setCell_more more_lt more_more more_drew more_drewN setCell_drewN alloc_drewN

theorem gsc_or (s t : Int) : (gsc s t = s ∧ t ≤ s) ∨ (gsc s t = t ∧ s < t) := by unfold gsc; split <;> omega
theorem psc_or (s t : Int) : (psc s t = s + t ∧ s + t ≤ 6) ∨ (psc s t = 6 ∧ 6 < s + t) := by unfold psc; split <;> omega

set_option maxHeartbeats 2000000 in
theorem qnums_any (op : Int) (a b : Va) (w : World) (hP : Pw w) (ha : 0 ≤ a.m ∧ a.m ≤ 6) (hb : 0 ≤ b.m ∧ b.m ≤ 6) (va : vin a) (vb : vin b) :
    Calls Tryz.prog 53 #[.int .i64 op, dv a.n a.m, dv b.n b.m] w fun e w' => e = .returned (rs (numsR op a b)) ∧ Grew w w' := by
  have ra := (rightS_iff a.m).2 ha
  have rb := (rightS_iff b.m).2 hb
  unfold numsR decR
  by_cases h9 : op = 9
  · subst h9
    rw [if_pos rfl]
    have C : ∀ W, Grew w W → Calls Tryz.prog 108 #[dv a.n a.m, dv b.n b.m] W fun e w' => e = .returned (.tuple #[dv _ _, .int .i64 _]) ∧ Grew W w' := fun W h => add_good a.n a.m b.n b.m _ W (hP.later h) ra rb (gsc_or a.m b.m) va.1.1 va.1.2 vb.1.1 vb.1.2
    have H := fun u s x W => qexact_any u s x W
    clear hP ha hb ra rb va vb
    go_enter Tryz.func53, Tryz.ntmps53
    go_wp2_with (first
      | (go_at_call 108; refine (C _ (by repeat (first | assumption | exact Grew.refl _ | apply Grew.drew | apply Grew.drewN | apply Grew.alloc | apply Grew.more))).mono ?_; rintro e w1 ⟨rfl, os1, n1, rfl⟩)
      | (go_at_call 95; refine (H _ _ _ _).mono ?_; rintro e w1 ⟨rfl, os2, n2, rfl⟩))
    refine bodyPost_ret_by (v := rs _) ?_ rfl ⟨rfl, ?_⟩
    · simp [results, Tryz.results53, go_sem]
    · repeat (first | assumption | exact Grew.refl _ | apply Grew.drew | apply Grew.drewN | apply Grew.alloc | apply Grew.more)
  have c9 : (op == 9) = false := by simpa using h9
  by_cases h10 : op = 10
  · subst h10
    rw [if_neg (by decide), if_pos rfl]
    have C : ∀ W, Grew w W → Calls Tryz.prog 109 #[dv a.n a.m, dv b.n b.m] W fun e w' => e = .returned (.tuple #[dv _ _, .int .i64 _]) ∧ Grew W w' := fun W h => sub_good a.n a.m b.n b.m _ W (hP.later h) ra rb (gsc_or a.m b.m) va.1.1 va.1.2 vb.1.1 vb.1.2
    have H := fun u s x W => qexact_any u s x W
    clear hP ha hb ra rb va vb
    go_enter Tryz.func53, Tryz.ntmps53
    go_wp2_with (first
      | (go_at_call 109; refine (C _ (by repeat (first | assumption | exact Grew.refl _ | apply Grew.drew | apply Grew.drewN | apply Grew.alloc | apply Grew.more))).mono ?_; rintro e w1 ⟨rfl, os1, n1, rfl⟩)
      | (go_at_call 95; refine (H _ _ _ _).mono ?_; rintro e w1 ⟨rfl, os2, n2, rfl⟩))
    refine bodyPost_ret_by (v := rs _) ?_ rfl ⟨rfl, ?_⟩
    · simp [results, Tryz.results53, go_sem]
    · repeat (first | assumption | exact Grew.refl _ | apply Grew.drew | apply Grew.drewN | apply Grew.alloc | apply Grew.more)
  have c10 : (op == 10) = false := by simpa using h10
  by_cases h6 : op = 6
  · subst h6
    rw [if_neg (by decide), if_neg (by decide), if_pos rfl]
    have C : ∀ W, Grew w W → Calls Tryz.prog 110 #[dv a.n a.m, dv b.n b.m] W fun e w' => e = .returned (.tuple #[dv _ _, .int .i64 _]) ∧ Grew W w' := fun W h => mul_good a.n a.m b.n b.m _ (a.m + b.m - psc a.m b.m).toNat W (hP.later h) ra rb (psc_or a.m b.m) (by have := psc_or a.m b.m; omega) va.1.1 va.1.2 vb.1.1 vb.1.2
    have H := fun u s x W => qexact_any u s x W
    clear hP ha hb ra rb va vb
    go_enter Tryz.func53, Tryz.ntmps53
    go_wp2_with (first
      | (go_at_call 110; refine (C _ (by repeat (first | assumption | exact Grew.refl _ | apply Grew.drew | apply Grew.drewN | apply Grew.alloc | apply Grew.more))).mono ?_; rintro e w1 ⟨rfl, os1, n1, rfl⟩)
      | (go_at_call 95; refine (H _ _ _ _).mono ?_; rintro e w1 ⟨rfl, os2, n2, rfl⟩))
    refine bodyPost_ret_by (v := rs _) ?_ rfl ⟨rfl, ?_⟩
    · simp [results, Tryz.results53, go_sem]
    · repeat (first | assumption | exact Grew.refl _ | apply Grew.drew | apply Grew.drewN | apply Grew.alloc | apply Grew.more)
  have c6 : (op == 6) = false := by simpa using h6
  by_cases h7 : op = 7
  · subst h7
    rw [if_neg (by decide), if_neg (by decide), if_neg (by decide), if_pos rfl]
    by_cases hz : b.n = 0
    · rw [if_pos hz, hz]
      show Calls _ _ _ _ fun e w' => e = .returned (rs (exactR 0 0 33)) ∧ _
      have C : ∀ W, Grew w W → Calls Tryz.prog 111 #[dv a.n a.m, dv 0 b.m, .int .i64 6] W fun e w' => e = .returned (.tuple #[dv _ _, .int .i64 _]) ∧ Grew W w' := fun W h => div_zero a.n a.m b.m 6 W ra rb rfl
      have H := fun u s x W => qexact_any u s x W
      clear hP ha hb ra rb va vb
      go_enter Tryz.func53, Tryz.ntmps53
      go_wp2_with (first
        | (go_at_call 111; refine (C _ (by repeat (first | assumption | exact Grew.refl _ | apply Grew.drew | apply Grew.drewN | apply Grew.alloc | apply Grew.more))).mono ?_; rintro e w1 ⟨rfl, os1, n1, rfl⟩)
        | (go_at_call 95; refine (H _ _ _ _).mono ?_; rintro e w1 ⟨rfl, os2, n2, rfl⟩))
      refine bodyPost_ret_by (v := rs _) ?_ rfl ⟨rfl, ?_⟩
      · simp [results, Tryz.results53, go_sem]
      · repeat (first | assumption | exact Grew.refl _ | apply Grew.drew | apply Grew.drewN | apply Grew.alloc | apply Grew.more)
    · rw [if_neg hz]
      have C : ∀ W, Grew w W → Calls Tryz.prog 111 #[dv a.n a.m, dv b.n b.m, .int .i64 6] W fun e w' => e = .returned (.tuple #[dv _ _, .int .i64 _]) ∧ Grew W w' := fun W h => div_good a.n a.m b.n b.m 6 W (hP.later h) ra rb rfl va.1.1 va.1.2 vb.1.1 vb.1.2 hz
      have H := fun u s x W => qexact_any u s x W
      clear hP ha hb ra rb va vb
      go_enter Tryz.func53, Tryz.ntmps53
      go_wp2_with (first
        | (go_at_call 111; refine (C _ (by repeat (first | assumption | exact Grew.refl _ | apply Grew.drew | apply Grew.drewN | apply Grew.alloc | apply Grew.more))).mono ?_; rintro e w1 ⟨rfl, os1, n1, rfl⟩)
        | (go_at_call 95; refine (H _ _ _ _).mono ?_; rintro e w1 ⟨rfl, os2, n2, rfl⟩))
      refine bodyPost_ret_by (v := rs _) ?_ rfl ⟨rfl, ?_⟩
      · simp [results, Tryz.results53, go_sem]
      · repeat (first | assumption | exact Grew.refl _ | apply Grew.drew | apply Grew.drewN | apply Grew.alloc | apply Grew.more)
  have c7 : (op == 7) = false := by simpa using h7
  rw [if_neg h9, if_neg h10, if_neg h6, if_neg h7]
  have C : ∀ W, Grew w W → Calls Tryz.prog 112 #[dv a.n a.m, dv b.n b.m] W fun e w' => e = .returned (.int .i64 _) ∧ Grew W w' := fun W h => dcmp_six a b W (hP.later h) ha hb va vb
  have H := fun c W => qcompared_any op c W
  clear hP ha hb ra rb va vb
  go_enter Tryz.func53, Tryz.ntmps53
  go_wp2_with (first
    | (go_at_call 112; refine (C _ (by repeat (first | assumption | exact Grew.refl _ | apply Grew.drew | apply Grew.drewN | apply Grew.alloc | apply Grew.more))).mono ?_; rintro e w1 ⟨rfl, os1, n1, rfl⟩)
    | (go_at_call 57; refine (H _ _).mono ?_; rintro e w1 ⟨rfl, os2, n2, rfl⟩))
  refine bodyPost_ret_by (v := rs _) ?_ rfl ⟨rfl, ?_⟩
  · simp [results, Tryz.results53, go_sem]
  · repeat (first | assumption | exact Grew.refl _ | apply Grew.drew | apply Grew.drewN | apply Grew.alloc | apply Grew.more)
end Go.Proofs.YtnpdecbgakgbgaaGreatDoor

namespace Go.Proofs.YtnpdecbgakgbgaaGreatDoor.Ga
open Go.RowKit
attribute [local go_sem] cell?_more frozen?_more setCell_more more_lt more_more more_drew more_drewN setCell_drewN alloc_drewN
attribute [local go_sem high] cellMA frozenMA setMA cellMAM frozenMAM setMAM cellMAA frozenMAA setMAA cellMAAM frozenMAAM setMAAM cellMAMA frozenMAMA setMAMA cellMAMAM frozenMAMAM setMAMAM cellMAMAMA frozenMAMAMA setMAMAMA cellMAMAMAM frozenMAMAMAM setMAMAMAM

set_option maxHeartbeats 1000000 in
theorem add_bad (x y u v : Int) (w : World) (hr : (ok2 x y && ok2 u v) = false) :
    Calls Tryz.prog 113 #[pv x y, pv u v] w fun e w' => e = .returned (.tuple #[pv 0 0, .int .i64 1]) ∧ Grew w w' := by
  have Ra := fun W => right_any x y W
  have Rb := fun W => right_any u v W
  cases ha : ok2 x y
  · rw [ha] at Ra
    clear Rb hr ha
    go_enter Tryz.func113, Tryz.ntmps113
    go_wp2_with (go_at_call 158; refine (Ra _).mono ?_; rintro e w' ⟨rfl, os, n, rfl⟩)
    refine bodyPost_ret_by (v := .tuple #[pv 0 0, .int .i64 1]) ?_ rfl ⟨rfl, ?_⟩
    · simp [results, Tryz.results113, go_sem]
    · repeat (first | exact Grew.refl _ | apply Grew.drew | apply Grew.drewN | apply Grew.alloc | apply Grew.more)
  · rw [ha] at Ra hr
    have hb : ok2 u v = false := by simpa using hr
    rw [hb] at Rb
    clear hb hr ha
    go_enter Tryz.func113, Tryz.ntmps113
    go_wp2_with fail
    refine (Ra _).mono ?_
    rintro e w' ⟨rfl, os, n, rfl⟩
    go_wp2_with fail
    refine (Rb _).mono ?_
    rintro e w' ⟨rfl, os', n', rfl⟩
    go_wp2
    refine bodyPost_ret_by (v := .tuple #[pv 0 0, .int .i64 1]) ?_ rfl ⟨rfl, ?_⟩
    · simp [results, Tryz.results113, go_sem]
    · repeat (first | exact Grew.refl _ | apply Grew.drew | apply Grew.drewN | apply Grew.alloc | apply Grew.more)

set_option maxHeartbeats 2000000 in
theorem add_good (x y u v : Int) (w : World) (ha : ok2 x y = true) (hb : ok2 u v = true) :
    Calls Tryz.prog 113 #[pv x y, pv u v] w fun e w' => e = .returned (tv (x + u) (y + v)) ∧ Grew w w' := by
  have Ra := fun W => right_any x y W
  have Rb := fun W => right_any u v W
  rw [ha] at Ra
  rw [hb] at Rb
  rw [ok2_iff] at ha hb
  have Na := fun W => number_any x y W
  have Nb := fun W => number_any u v W
  have m1 := mul_bd (A := 1048576) (B := 1048576) (by decide) ha.1 ha.2.1 hb.1 hb.2.1
  have m2 := mul_bd (A := 1048576) (B := 1048576) (by decide) ha.2.2.1 ha.2.2.2 hb.2.2.1 hb.2.2.2
  have m3 := mul_bd (A := 1048576) (B := 1048576) (by decide) ha.1 ha.2.1 hb.2.2.1 hb.2.2.2
  have m4 := mul_bd (A := 1048576) (B := 1048576) (by decide) ha.2.2.1 ha.2.2.2 hb.1 hb.2.1
  obtain ⟨re, im, hm, f1, f2⟩ := cadd_names (FI_nearest x (by omega)) (FI_nearest y (by omega)) (FI_nearest u (by omega)) (FI_nearest v (by omega)) (by omega) (by omega)
  have T := fun W => told_any re im (x + u) (y + v) W f1 f2 (by omega) (by omega)
  have hop := fun t w => run_complex_sum (P := Tryz.prog) w .add (Or.inl rfl) t .f64 _ _ _ _ re im hm
  unfold tv at T ⊢
  generalize tX (x + u) (y + v) = X at *
  generalize tY (x + u) (y + v) = Y at *
  generalize tE (x + u) (y + v) = E at *
  generalize floatOfInt .f64 x = a at *
  generalize floatOfInt .f64 y = b at *
  generalize floatOfInt .f64 u = c at *
  generalize floatOfInt .f64 v = d at *
  clear f1 f2 hm m1 m2 m3 m4 ha hb
  go_enter Tryz.func113, Tryz.ntmps113
  go_wp2_with fail
  refine (Ra _).mono ?_
  rintro e w' ⟨rfl, os, n, rfl⟩
  go_wp2_with fail
  refine (Rb _).mono ?_
  rintro e w' ⟨rfl, os', n', rfl⟩
  go_wp2_with fail
  go_region_held2 (fun W => W.cell? ⟨w.heap.size, 0, none⟩ = some (.int .i64 x) ∧ W.cell? ⟨w.heap.size, 1, none⟩ = some (.int .i64 y) ∧ W.cell? ⟨w.heap.size + 1, 0, none⟩ = some (.int .i64 u) ∧ W.cell? ⟨w.heap.size + 1, 1, none⟩ = some (.int .i64 v)) (simp (maxDischargeDepth := 12) [go_sem])
    ((first
      | (go_at_call_of 159 (Value.int IntKind.i64 x); refine (Na _).mono ?_; rintro e w' ⟨rfl, os1, n1, rfl⟩)
      | (go_at_call_of 159 (Value.int IntKind.i64 u); refine (Nb _).mono ?_; rintro e w' ⟨rfl, os2, n2, rfl⟩)
      | (go_at_call 172; refine (T _).mono ?_; rintro e w' ⟨rfl, os3, n3, rfl⟩)))
  all_goals go_wp2_with fail
  all_goals refine bodyPost_ret_by (v := .tuple #[pv X Y, .int .i64 E]) ?_ rfl ⟨rfl, ?_⟩
  all_goals first
    | (simp [results, Tryz.results113, go_sem]; done)
    | (repeat (first | exact Grew.refl _ | apply Grew.drew | apply Grew.drewN | apply Grew.alloc | apply Grew.more))

set_option maxHeartbeats 1000000 in
theorem sub_bad (x y u v : Int) (w : World) (hr : (ok2 x y && ok2 u v) = false) :
    Calls Tryz.prog 114 #[pv x y, pv u v] w fun e w' => e = .returned (.tuple #[pv 0 0, .int .i64 1]) ∧ Grew w w' := by
  have Ra := fun W => right_any x y W
  have Rb := fun W => right_any u v W
  cases ha : ok2 x y
  · rw [ha] at Ra
    clear Rb hr ha
    go_enter Tryz.func114, Tryz.ntmps114
    go_wp2_with (go_at_call 158; refine (Ra _).mono ?_; rintro e w' ⟨rfl, os, n, rfl⟩)
    refine bodyPost_ret_by (v := .tuple #[pv 0 0, .int .i64 1]) ?_ rfl ⟨rfl, ?_⟩
    · simp [results, Tryz.results114, go_sem]
    · repeat (first | exact Grew.refl _ | apply Grew.drew | apply Grew.drewN | apply Grew.alloc | apply Grew.more)
  · rw [ha] at Ra hr
    have hb : ok2 u v = false := by simpa using hr
    rw [hb] at Rb
    clear hb hr ha
    go_enter Tryz.func114, Tryz.ntmps114
    go_wp2_with fail
    refine (Ra _).mono ?_
    rintro e w' ⟨rfl, os, n, rfl⟩
    go_wp2_with fail
    refine (Rb _).mono ?_
    rintro e w' ⟨rfl, os', n', rfl⟩
    go_wp2
    refine bodyPost_ret_by (v := .tuple #[pv 0 0, .int .i64 1]) ?_ rfl ⟨rfl, ?_⟩
    · simp [results, Tryz.results114, go_sem]
    · repeat (first | exact Grew.refl _ | apply Grew.drew | apply Grew.drewN | apply Grew.alloc | apply Grew.more)

set_option maxHeartbeats 2000000 in
theorem sub_good (x y u v : Int) (w : World) (ha : ok2 x y = true) (hb : ok2 u v = true) :
    Calls Tryz.prog 114 #[pv x y, pv u v] w fun e w' => e = .returned (tv (x - u) (y - v)) ∧ Grew w w' := by
  have Ra := fun W => right_any x y W
  have Rb := fun W => right_any u v W
  rw [ha] at Ra
  rw [hb] at Rb
  rw [ok2_iff] at ha hb
  have Na := fun W => number_any x y W
  have Nb := fun W => number_any u v W
  have m1 := mul_bd (A := 1048576) (B := 1048576) (by decide) ha.1 ha.2.1 hb.1 hb.2.1
  have m2 := mul_bd (A := 1048576) (B := 1048576) (by decide) ha.2.2.1 ha.2.2.2 hb.2.2.1 hb.2.2.2
  have m3 := mul_bd (A := 1048576) (B := 1048576) (by decide) ha.1 ha.2.1 hb.2.2.1 hb.2.2.2
  have m4 := mul_bd (A := 1048576) (B := 1048576) (by decide) ha.2.2.1 ha.2.2.2 hb.1 hb.2.1
  obtain ⟨re, im, hm, f1, f2⟩ := csub_names (FI_nearest x (by omega)) (FI_nearest y (by omega)) (FI_nearest u (by omega)) (FI_nearest v (by omega)) (by omega) (by omega)
  have T := fun W => told_any re im (x - u) (y - v) W f1 f2 (by omega) (by omega)
  have hop := fun t w => run_complex_sum (P := Tryz.prog) w .sub (Or.inr rfl) t .f64 _ _ _ _ re im hm
  unfold tv at T ⊢
  generalize tX (x - u) (y - v) = X at *
  generalize tY (x - u) (y - v) = Y at *
  generalize tE (x - u) (y - v) = E at *
  generalize floatOfInt .f64 x = a at *
  generalize floatOfInt .f64 y = b at *
  generalize floatOfInt .f64 u = c at *
  generalize floatOfInt .f64 v = d at *
  clear f1 f2 hm m1 m2 m3 m4 ha hb
  go_enter Tryz.func114, Tryz.ntmps114
  go_wp2_with fail
  refine (Ra _).mono ?_
  rintro e w' ⟨rfl, os, n, rfl⟩
  go_wp2_with fail
  refine (Rb _).mono ?_
  rintro e w' ⟨rfl, os', n', rfl⟩
  go_wp2_with fail
  go_region_held2 (fun W => W.cell? ⟨w.heap.size, 0, none⟩ = some (.int .i64 x) ∧ W.cell? ⟨w.heap.size, 1, none⟩ = some (.int .i64 y) ∧ W.cell? ⟨w.heap.size + 1, 0, none⟩ = some (.int .i64 u) ∧ W.cell? ⟨w.heap.size + 1, 1, none⟩ = some (.int .i64 v)) (simp (maxDischargeDepth := 12) [go_sem])
    ((first
      | (go_at_call_of 159 (Value.int IntKind.i64 x); refine (Na _).mono ?_; rintro e w' ⟨rfl, os1, n1, rfl⟩)
      | (go_at_call_of 159 (Value.int IntKind.i64 u); refine (Nb _).mono ?_; rintro e w' ⟨rfl, os2, n2, rfl⟩)
      | (go_at_call 172; refine (T _).mono ?_; rintro e w' ⟨rfl, os3, n3, rfl⟩)))
  all_goals go_wp2_with fail
  all_goals refine bodyPost_ret_by (v := .tuple #[pv X Y, .int .i64 E]) ?_ rfl ⟨rfl, ?_⟩
  all_goals first
    | (simp [results, Tryz.results114, go_sem]; done)
    | (repeat (first | exact Grew.refl _ | apply Grew.drew | apply Grew.drewN | apply Grew.alloc | apply Grew.more))

set_option maxHeartbeats 1000000 in
theorem mul_bad (x y u v : Int) (w : World) (hr : (ok2 x y && ok2 u v) = false) :
    Calls Tryz.prog 115 #[pv x y, pv u v] w fun e w' => e = .returned (.tuple #[pv 0 0, .int .i64 1]) ∧ Grew w w' := by
  have Ra := fun W => right_any x y W
  have Rb := fun W => right_any u v W
  cases ha : ok2 x y
  · rw [ha] at Ra
    clear Rb hr ha
    go_enter Tryz.func115, Tryz.ntmps115
    go_wp2_with (go_at_call 158; refine (Ra _).mono ?_; rintro e w' ⟨rfl, os, n, rfl⟩)
    refine bodyPost_ret_by (v := .tuple #[pv 0 0, .int .i64 1]) ?_ rfl ⟨rfl, ?_⟩
    · simp [results, Tryz.results115, go_sem]
    · repeat (first | exact Grew.refl _ | apply Grew.drew | apply Grew.drewN | apply Grew.alloc | apply Grew.more)
  · rw [ha] at Ra hr
    have hb : ok2 u v = false := by simpa using hr
    rw [hb] at Rb
    clear hb hr ha
    go_enter Tryz.func115, Tryz.ntmps115
    go_wp2_with fail
    refine (Ra _).mono ?_
    rintro e w' ⟨rfl, os, n, rfl⟩
    go_wp2_with fail
    refine (Rb _).mono ?_
    rintro e w' ⟨rfl, os', n', rfl⟩
    go_wp2
    refine bodyPost_ret_by (v := .tuple #[pv 0 0, .int .i64 1]) ?_ rfl ⟨rfl, ?_⟩
    · simp [results, Tryz.results115, go_sem]
    · repeat (first | exact Grew.refl _ | apply Grew.drew | apply Grew.drewN | apply Grew.alloc | apply Grew.more)

set_option maxHeartbeats 2000000 in
theorem mul_good (x y u v : Int) (w : World) (ha : ok2 x y = true) (hb : ok2 u v = true) :
    Calls Tryz.prog 115 #[pv x y, pv u v] w fun e w' => e = .returned (tv (x * u - y * v) (x * v + y * u)) ∧ Grew w w' := by
  have Ra := fun W => right_any x y W
  have Rb := fun W => right_any u v W
  rw [ha] at Ra
  rw [hb] at Rb
  rw [ok2_iff] at ha hb
  have Na := fun W => number_any x y W
  have Nb := fun W => number_any u v W
  have m1 := mul_bd (A := 1048576) (B := 1048576) (by decide) ha.1 ha.2.1 hb.1 hb.2.1
  have m2 := mul_bd (A := 1048576) (B := 1048576) (by decide) ha.2.2.1 ha.2.2.2 hb.2.2.1 hb.2.2.2
  have m3 := mul_bd (A := 1048576) (B := 1048576) (by decide) ha.1 ha.2.1 hb.2.2.1 hb.2.2.2
  have m4 := mul_bd (A := 1048576) (B := 1048576) (by decide) ha.2.2.1 ha.2.2.2 hb.1 hb.2.1
  obtain ⟨re, im, hm, f1, f2⟩ := cmul_names 1048576 1048576 (by decide) (by decide) (FI_nearest x (by omega)) (FI_nearest y (by omega)) (FI_nearest u (by omega)) (FI_nearest v (by omega)) (by omega) (by omega) (by omega) (by omega) (by omega) (by omega) (by omega) (by omega)
  have T := fun W => told_any re im (x * u - y * v) (x * v + y * u) W f1 f2 (by omega) (by omega)
  have hop := fun t w => run_complex_mul (P := Tryz.prog) w t _ _ _ _ re im hm
  unfold tv at T ⊢
  generalize tX (x * u - y * v) (x * v + y * u) = X at *
  generalize tY (x * u - y * v) (x * v + y * u) = Y at *
  generalize tE (x * u - y * v) (x * v + y * u) = E at *
  generalize floatOfInt .f64 x = a at *
  generalize floatOfInt .f64 y = b at *
  generalize floatOfInt .f64 u = c at *
  generalize floatOfInt .f64 v = d at *
  clear f1 f2 hm m1 m2 m3 m4 ha hb
  go_enter Tryz.func115, Tryz.ntmps115
  go_wp2_with fail
  refine (Ra _).mono ?_
  rintro e w' ⟨rfl, os, n, rfl⟩
  go_wp2_with fail
  refine (Rb _).mono ?_
  rintro e w' ⟨rfl, os', n', rfl⟩
  go_wp2_with fail
  go_region_held2 (fun W => W.cell? ⟨w.heap.size, 0, none⟩ = some (.int .i64 x) ∧ W.cell? ⟨w.heap.size, 1, none⟩ = some (.int .i64 y) ∧ W.cell? ⟨w.heap.size + 1, 0, none⟩ = some (.int .i64 u) ∧ W.cell? ⟨w.heap.size + 1, 1, none⟩ = some (.int .i64 v)) (simp (maxDischargeDepth := 12) [go_sem])
    ((first
      | (go_at_call_of 159 (Value.int IntKind.i64 x); refine (Na _).mono ?_; rintro e w' ⟨rfl, os1, n1, rfl⟩)
      | (go_at_call_of 159 (Value.int IntKind.i64 u); refine (Nb _).mono ?_; rintro e w' ⟨rfl, os2, n2, rfl⟩)
      | (go_at_call 172; refine (T _).mono ?_; rintro e w' ⟨rfl, os3, n3, rfl⟩)))
  all_goals go_wp2_with fail
  all_goals refine bodyPost_ret_by (v := .tuple #[pv X Y, .int .i64 E]) ?_ rfl ⟨rfl, ?_⟩
  all_goals first
    | (simp [results, Tryz.results115, go_sem]; done)
    | (repeat (first | exact Grew.refl _ | apply Grew.drew | apply Grew.drewN | apply Grew.alloc | apply Grew.more))
end Go.Proofs.YtnpdecbgakgbgaaGreatDoor.Ga
