/-
  decimal.Div by 0.
  Ops of two numbers: eval.ofNumbers.
  Contracts of package gauss: Add, Sub, Mul: for every two points.
  Contracts of package gauss: Norm, Conj, Turn: for every point.
  The quotient of two points and the rest: contracts of math.Floor, nearest, parted and Div of package gauss: for every two points.
  The contract of gauss.Div: for every two points.
-/
import Derived.Test.YtnpdecbgakgbgaaGreatDoorDDivs
import Derived.Test.YtnpdecbgakgbgaaGreatDoorMtQTells
import Derived.Test.YtnpdecbgakgbgaaGreatDoorDAdd
import Derived.Test.YtnpdecbgakgbgaaGreatDoorDSub
import Derived.Test.YtnpdecbgakgbgaaGreatDoorDMul
import Derived.Test.YtnpdecbgakgbgaaGreatDoorMnDDivP
import Derived.Laws.Externs
namespace Go.Proofs.YtnpdecbgakgbgaaGreatDoor
open Go.RowKit
attribute [local go_sem] cell?_more frozen?_more setCell_more more_lt more_more more_drew more_drewN setCell_drewN alloc_drewN

set_option maxHeartbeats 2000000 in
theorem div_zero (ua sa sb s : Int) (w : World) (ha : rightS sa = true) (hb : rightS sb = true) (hs : rightS s = true) :
    Calls Tryz.prog 111 #[dv ua sa, dv 0 sb, .int .i64 s] w fun e w' => e = .returned (dBad 33) ∧ Grew w w' := by
  have Ra := fun W => right_any ua sa W
  have Rb := fun W => right_any 0 sb W
  have Rs := fun W => rightScale_any s W
  rw [ha] at Ra
  rw [hb] at Rb
  rw [hs] at Rs
  clear ha hb hs
  go_enter Tryz.func111, Tryz.ntmps111
  go_wp2_with fail
  refine (Ra _).mono ?_
  rintro e w' ⟨rfl, os, n, rfl⟩
  go_wp2_with fail
  refine (Rb _).mono ?_
  rintro e w' ⟨rfl, os', n', rfl⟩
  go_wp2_with (go_at_call 170; refine (Rs _).mono ?_; rintro e w' ⟨rfl, rfl⟩)
  refine bodyPost_ret_by (v := dBad 33) ?_ rfl ⟨rfl, (by repeat (first | exact Grew.refl _ | apply Grew.drew | apply Grew.drewN | apply Grew.alloc | apply Grew.more))⟩
  simp [results, Tryz.results111, go_sem]
end Go.Proofs.YtnpdecbgakgbgaaGreatDoor

namespace Go.Proofs.YtnpdecbgakgbgaaGreatDoor
open Go.RowKit Go.Shelf
attribute [local go_sem] cell?_more frozen?_more setCell_more more_lt more_more more_drew more_drewN setCell_drewN alloc_drewN

theorem gsc_or (s t : Int) : (gsc s t = s ∧ t ≤ s) ∨ (gsc s t = t ∧ s < t) := by unfold gsc; split <;> omega
theorem psc_or (s t : Int) : (psc s t = s + t ∧ s + t ≤ 6) ∨ (psc s t = 6 ∧ 6 < s + t) := by unfold psc; split <;> omega

set_option maxHeartbeats 2000000 in
theorem qnums_any (op : Int) (a b : Va) (w : World) (hP : Pw w) (ha : 0 ≤ a.m ∧ a.m ≤ 6) (hb : 0 ≤ b.m ∧ b.m ≤ 6) (va : vin a) (vb : vin b) :
    Calls Tryz.prog 53 #[.int .i64 op, dv a.n a.m, dv b.n b.m] w fun e w' => e = .returned (rs (numsR op a b)) ∧ Grew w w' := by
  have ra := (rightS_iff a.m).2 ha
  have rb := (rightS_iff b.m).2 hb
  unfold numsR decR
  by_cases h9 : op = 9
  · subst h9
    rw [if_pos rfl]
    have C : ∀ W, Grew w W → Calls Tryz.prog 108 #[dv a.n a.m, dv b.n b.m] W fun e w' => e = .returned (.tuple #[dv _ _, .int .i64 _]) ∧ Grew W w' := fun W h => add_good a.n a.m b.n b.m _ W (hP.later h) ra rb (gsc_or a.m b.m) va.1.1 va.1.2 vb.1.1 vb.1.2
    have H := fun u s x W => qexact_any u s x W
    clear hP ha hb ra rb va vb
    go_enter Tryz.func53, Tryz.ntmps53
    go_wp2_with (first
      | (go_at_call 108; refine (C _ (by repeat (first | assumption | exact Grew.refl _ | apply Grew.drew | apply Grew.drewN | apply Grew.alloc | apply Grew.more))).mono ?_; rintro e w1 ⟨rfl, os1, n1, rfl⟩)
      | (go_at_call 95; refine (H _ _ _ _).mono ?_; rintro e w1 ⟨rfl, os2, n2, rfl⟩))
    refine bodyPost_ret_by (v := rs _) ?_ rfl ⟨rfl, ?_⟩
    · simp [results, Tryz.results53, go_sem]
    · repeat (first | assumption | exact Grew.refl _ | apply Grew.drew | apply Grew.drewN | apply Grew.alloc | apply Grew.more)
  have c9 : (op == 9) = false := by simpa using h9
  by_cases h10 : op = 10
  · subst h10
    rw [if_neg (by decide), if_pos rfl]
    have C : ∀ W, Grew w W → Calls Tryz.prog 109 #[dv a.n a.m, dv b.n b.m] W fun e w' => e = .returned (.tuple #[dv _ _, .int .i64 _]) ∧ Grew W w' := fun W h => sub_good a.n a.m b.n b.m _ W (hP.later h) ra rb (gsc_or a.m b.m) va.1.1 va.1.2 vb.1.1 vb.1.2
    have H := fun u s x W => qexact_any u s x W
    clear hP ha hb ra rb va vb
    go_enter Tryz.func53, Tryz.ntmps53
    go_wp2_with (first
      | (go_at_call 109; refine (C _ (by repeat (first | assumption | exact Grew.refl _ | apply Grew.drew | apply Grew.drewN | apply Grew.alloc | apply Grew.more))).mono ?_; rintro e w1 ⟨rfl, os1, n1, rfl⟩)
      | (go_at_call 95; refine (H _ _ _ _).mono ?_; rintro e w1 ⟨rfl, os2, n2, rfl⟩))
    refine bodyPost_ret_by (v := rs _) ?_ rfl ⟨rfl, ?_⟩
    · simp [results, Tryz.results53, go_sem]
    · repeat (first | assumption | exact Grew.refl _ | apply Grew.drew | apply Grew.drewN | apply Grew.alloc | apply Grew.more)
  have c10 : (op == 10) = false := by simpa using h10
  by_cases h6 : op = 6
  · subst h6
    rw [if_neg (by decide), if_neg (by decide), if_pos rfl]
    have C : ∀ W, Grew w W → Calls Tryz.prog 110 #[dv a.n a.m, dv b.n b.m] W fun e w' => e = .returned (.tuple #[dv _ _, .int .i64 _]) ∧ Grew W w' := fun W h => mul_good a.n a.m b.n b.m _ (a.m + b.m - psc a.m b.m).toNat W (hP.later h) ra rb (psc_or a.m b.m) (by have := psc_or a.m b.m; omega) va.1.1 va.1.2 vb.1.1 vb.1.2
    have H := fun u s x W => qexact_any u s x W
    clear hP ha hb ra rb va vb
    go_enter Tryz.func53, Tryz.ntmps53
    go_wp2_with (first
      | (go_at_call 110; refine (C _ (by repeat (first | assumption | exact Grew.refl _ | apply Grew.drew | apply Grew.drewN | apply Grew.alloc | apply Grew.more))).mono ?_; rintro e w1 ⟨rfl, os1, n1, rfl⟩)
      | (go_at_call 95; refine (H _ _ _ _).mono ?_; rintro e w1 ⟨rfl, os2, n2, rfl⟩))
    refine bodyPost_ret_by (v := rs _) ?_ rfl ⟨rfl, ?_⟩
    · simp [results, Tryz.results53, go_sem]
    · repeat (first | assumption | exact Grew.refl _ | apply Grew.drew | apply Grew.drewN | apply Grew.alloc | apply Grew.more)
  have c6 : (op == 6) = false := by simpa using h6
  by_cases h7 : op = 7
  · subst h7
    rw [if_neg (by decide), if_neg (by decide), if_neg (by decide), if_pos rfl]
    by_cases hz : b.n = 0
    · rw [if_pos hz, hz]
      show Calls _ _ _ _ fun e w' => e = .returned (rs (exactR 0 0 33)) ∧ _
      have C : ∀ W, Grew w W → Calls Tryz.prog 111 #[dv a.n a.m, dv 0 b.m, .int .i64 6] W fun e w' => e = .returned (.tuple #[dv _ _, .int .i64 _]) ∧ Grew W w' := fun W h => div_zero a.n a.m b.m 6 W ra rb rfl
      have H := fun u s x W => qexact_any u s x W
      clear hP ha hb ra rb va vb
      go_enter Tryz.func53, Tryz.ntmps53
      go_wp2_with (first
        | (go_at_call 111; refine (C _ (by repeat (first | assumption | exact Grew.refl _ | apply Grew.drew | apply Grew.drewN | apply Grew.alloc | apply Grew.more))).mono ?_; rintro e w1 ⟨rfl, os1, n1, rfl⟩)
        | (go_at_call 95; refine (H _ _ _ _).mono ?_; rintro e w1 ⟨rfl, os2, n2, rfl⟩))
      refine bodyPost_ret_by (v := rs _) ?_ rfl ⟨rfl, ?_⟩
      · simp [results, Tryz.results53, go_sem]
      · repeat (first | assumption | exact Grew.refl _ | apply Grew.drew | apply Grew.drewN | apply Grew.alloc | apply Grew.more)
    · rw [if_neg hz]
      have C : ∀ W, Grew w W → Calls Tryz.prog 111 #[dv a.n a.m, dv b.n b.m, .int .i64 6] W fun e w' => e = .returned (.tuple #[dv _ _, .int .i64 _]) ∧ Grew W w' := fun W h => div_good a.n a.m b.n b.m 6 W (hP.later h) ra rb rfl va.1.1 va.1.2 vb.1.1 vb.1.2 hz
      have H := fun u s x W => qexact_any u s x W
      clear hP ha hb ra rb va vb
      go_enter Tryz.func53, Tryz.ntmps53
      go_wp2_with (first
        | (go_at_call 111; refine (C _ (by repeat (first | assumption | exact Grew.refl _ | apply Grew.drew | apply Grew.drewN | apply Grew.alloc | apply Grew.more))).mono ?_; rintro e w1 ⟨rfl, os1, n1, rfl⟩)
        | (go_at_call 95; refine (H _ _ _ _).mono ?_; rintro e w1 ⟨rfl, os2, n2, rfl⟩))
      refine bodyPost_ret_by (v := rs _) ?_ rfl ⟨rfl, ?_⟩
      · simp [results, Tryz.results53, go_sem]
      · repeat (first | assumption | exact Grew.refl _ | apply Grew.drew | apply Grew.drewN | apply Grew.alloc | apply Grew.more)
  have c7 : (op == 7) = false := by simpa using h7
  rw [if_neg h9, if_neg h10, if_neg h6, if_neg h7]
  have C : ∀ W, Grew w W → Calls Tryz.prog 112 #[dv a.n a.m, dv b.n b.m] W fun e w' => e = .returned (.int .i64 _) ∧ Grew W w' := fun W h => dcmp_six a b W (hP.later h) ha hb va vb
  have H := fun c W => qcompared_any op c W
  clear hP ha hb ra rb va vb
  go_enter Tryz.func53, Tryz.ntmps53
  go_wp2_with (first
    | (go_at_call 112; refine (C _ (by repeat (first | assumption | exact Grew.refl _ | apply Grew.drew | apply Grew.drewN | apply Grew.alloc | apply Grew.more))).mono ?_; rintro e w1 ⟨rfl, os1, n1, rfl⟩)
    | (go_at_call 57; refine (H _ _).mono ?_; rintro e w1 ⟨rfl, os2, n2, rfl⟩))
  refine bodyPost_ret_by (v := rs _) ?_ rfl ⟨rfl, ?_⟩
  · simp [results, Tryz.results53, go_sem]
  · repeat (first | assumption | exact Grew.refl _ | apply Grew.drew | apply Grew.drewN | apply Grew.alloc | apply Grew.more)
end Go.Proofs.YtnpdecbgakgbgaaGreatDoor

namespace Go.Proofs.YtnpdecbgakgbgaaGreatDoor.Ga
open Go.RowKit
attribute [local go_sem] cell?_more frozen?_more setCell_more more_lt more_more more_drew more_drewN setCell_drewN alloc_drewN
attribute [local go_sem high] cellMA frozenMA setMA cellMAM frozenMAM setMAM cellMAA frozenMAA setMAA cellMAAM frozenMAAM setMAAM cellMAMA frozenMAMA setMAMA cellMAMAM frozenMAMAM setMAMAM cellMAMAMA frozenMAMAMA setMAMAMA cellMAMAMAM frozenMAMAMAM setMAMAMAM

set_option maxHeartbeats 1000000 in
theorem add_bad (x y u v : Int) (w : World) (hr : (ok2 x y && ok2 u v) = false) :
    Calls Tryz.prog 113 #[pv x y, pv u v] w fun e w' => e = .returned (.tuple #[pv 0 0, .int .i64 1]) ∧ Grew w w' := by
  have Ra := fun W => right_any x y W
  have Rb := fun W => right_any u v W
  cases ha : ok2 x y
  · rw [ha] at Ra
    clear Rb hr ha
    go_enter Tryz.func113, Tryz.ntmps113
    go_wp2_with (go_at_call 158; refine (Ra _).mono ?_; rintro e w' ⟨rfl, os, n, rfl⟩)
    refine bodyPost_ret_by (v := .tuple #[pv 0 0, .int .i64 1]) ?_ rfl ⟨rfl, ?_⟩
    · simp [results, Tryz.results113, go_sem]
    · repeat (first | exact Grew.refl _ | apply Grew.drew | apply Grew.drewN | apply Grew.alloc | apply Grew.more)
  · rw [ha] at Ra hr
    have hb : ok2 u v = false := by simpa using hr
    rw [hb] at Rb
    clear hb hr ha
    go_enter Tryz.func113, Tryz.ntmps113
    go_wp2_with fail
    refine (Ra _).mono ?_
    rintro e w' ⟨rfl, os, n, rfl⟩
    go_wp2_with fail
    refine (Rb _).mono ?_
    rintro e w' ⟨rfl, os', n', rfl⟩
    go_wp2
    refine bodyPost_ret_by (v := .tuple #[pv 0 0, .int .i64 1]) ?_ rfl ⟨rfl, ?_⟩
    · simp [results, Tryz.results113, go_sem]
    · repeat (first | exact Grew.refl _ | apply Grew.drew | apply Grew.drewN | apply Grew.alloc | apply Grew.more)

set_option maxHeartbeats 2000000 in
theorem add_good (x y u v : Int) (w : World) (ha : ok2 x y = true) (hb : ok2 u v = true) :
    Calls Tryz.prog 113 #[pv x y, pv u v] w fun e w' => e = .returned (tv (x + u) (y + v)) ∧ Grew w w' := by
  have Ra := fun W => right_any x y W
  have Rb := fun W => right_any u v W
  rw [ha] at Ra
  rw [hb] at Rb
  rw [ok2_iff] at ha hb
  have Na := fun W => number_any x y W
  have Nb := fun W => number_any u v W
  have m1 := mul_bd (A := 1048576) (B := 1048576) (by decide) ha.1 ha.2.1 hb.1 hb.2.1
  have m2 := mul_bd (A := 1048576) (B := 1048576) (by decide) ha.2.2.1 ha.2.2.2 hb.2.2.1 hb.2.2.2
  have m3 := mul_bd (A := 1048576) (B := 1048576) (by decide) ha.1 ha.2.1 hb.2.2.1 hb.2.2.2
  have m4 := mul_bd (A := 1048576) (B := 1048576) (by decide) ha.2.2.1 ha.2.2.2 hb.1 hb.2.1
  obtain ⟨re, im, hm, f1, f2⟩ := cadd_names (FI_nearest x (by omega)) (FI_nearest y (by omega)) (FI_nearest u (by omega)) (FI_nearest v (by omega)) (by omega) (by omega)
  have T := fun W => told_any re im (x + u) (y + v) W f1 f2 (by omega) (by omega)
  have hop := fun t w => run_complex_sum (P := Tryz.prog) w .add (Or.inl rfl) t .f64 _ _ _ _ re im hm
  unfold tv at T ⊢
  generalize tX (x + u) (y + v) = X at *
  generalize tY (x + u) (y + v) = Y at *
  generalize tE (x + u) (y + v) = E at *
  generalize floatOfInt .f64 x = a at *
  generalize floatOfInt .f64 y = b at *
  generalize floatOfInt .f64 u = c at *
  generalize floatOfInt .f64 v = d at *
  clear f1 f2 hm m1 m2 m3 m4 ha hb
  go_enter Tryz.func113, Tryz.ntmps113
  go_wp2_with fail
  refine (Ra _).mono ?_
  rintro e w' ⟨rfl, os, n, rfl⟩
  go_wp2_with fail
  refine (Rb _).mono ?_
  rintro e w' ⟨rfl, os', n', rfl⟩
  go_wp2_with fail
  go_region_held2 (fun W => W.cell? ⟨w.heap.size, 0, none⟩ = some (.int .i64 x) ∧ W.cell? ⟨w.heap.size, 1, none⟩ = some (.int .i64 y) ∧ W.cell? ⟨w.heap.size + 1, 0, none⟩ = some (.int .i64 u) ∧ W.cell? ⟨w.heap.size + 1, 1, none⟩ = some (.int .i64 v)) (simp (maxDischargeDepth := 12) [go_sem])
    ((first
      | (go_at_call_of 159 (Value.int IntKind.i64 x); refine (Na _).mono ?_; rintro e w' ⟨rfl, os1, n1, rfl⟩)
      | (go_at_call_of 159 (Value.int IntKind.i64 u); refine (Nb _).mono ?_; rintro e w' ⟨rfl, os2, n2, rfl⟩)
      | (go_at_call 172; refine (T _).mono ?_; rintro e w' ⟨rfl, os3, n3, rfl⟩)))
  all_goals go_wp2_with fail
  all_goals refine bodyPost_ret_by (v := .tuple #[pv X Y, .int .i64 E]) ?_ rfl ⟨rfl, ?_⟩
  all_goals first
    | (simp [results, Tryz.results113, go_sem]; done)
    | (repeat (first | exact Grew.refl _ | apply Grew.drew | apply Grew.drewN | apply Grew.alloc | apply Grew.more))

set_option maxHeartbeats 1000000 in
theorem sub_bad (x y u v : Int) (w : World) (hr : (ok2 x y && ok2 u v) = false) :
    Calls Tryz.prog 114 #[pv x y, pv u v] w fun e w' => e = .returned (.tuple #[pv 0 0, .int .i64 1]) ∧ Grew w w' := by
  have Ra := fun W => right_any x y W
  have Rb := fun W => right_any u v W
  cases ha : ok2 x y
  · rw [ha] at Ra
    clear Rb hr ha
    go_enter Tryz.func114, Tryz.ntmps114
    go_wp2_with (go_at_call 158; refine (Ra _).mono ?_; rintro e w' ⟨rfl, os, n, rfl⟩)
    refine bodyPost_ret_by (v := .tuple #[pv 0 0, .int .i64 1]) ?_ rfl ⟨rfl, ?_⟩
    · simp [results, Tryz.results114, go_sem]
    · repeat (first | exact Grew.refl _ | apply Grew.drew | apply Grew.drewN | apply Grew.alloc | apply Grew.more)
  · rw [ha] at Ra hr
    have hb : ok2 u v = false := by simpa using hr
    rw [hb] at Rb
    clear hb hr ha
    go_enter Tryz.func114, Tryz.ntmps114
    go_wp2_with fail
    refine (Ra _).mono ?_
    rintro e w' ⟨rfl, os, n, rfl⟩
    go_wp2_with fail
    refine (Rb _).mono ?_
    rintro e w' ⟨rfl, os', n', rfl⟩
    go_wp2
    refine bodyPost_ret_by (v := .tuple #[pv 0 0, .int .i64 1]) ?_ rfl ⟨rfl, ?_⟩
    · simp [results, Tryz.results114, go_sem]
    · repeat (first | exact Grew.refl _ | apply Grew.drew | apply Grew.drewN | apply Grew.alloc | apply Grew.more)

set_option maxHeartbeats 2000000 in
theorem sub_good (x y u v : Int) (w : World) (ha : ok2 x y = true) (hb : ok2 u v = true) :
    Calls Tryz.prog 114 #[pv x y, pv u v] w fun e w' => e = .returned (tv (x - u) (y - v)) ∧ Grew w w' := by
  have Ra := fun W => right_any x y W
  have Rb := fun W => right_any u v W
  rw [ha] at Ra
  rw [hb] at Rb
  rw [ok2_iff] at ha hb
  have Na := fun W => number_any x y W
  have Nb := fun W => number_any u v W
  have m1 := mul_bd (A := 1048576) (B := 1048576) (by decide) ha.1 ha.2.1 hb.1 hb.2.1
  have m2 := mul_bd (A := 1048576) (B := 1048576) (by decide) ha.2.2.1 ha.2.2.2 hb.2.2.1 hb.2.2.2
  have m3 := mul_bd (A := 1048576) (B := 1048576) (by decide) ha.1 ha.2.1 hb.2.2.1 hb.2.2.2
  have m4 := mul_bd (A := 1048576) (B := 1048576) (by decide) ha.2.2.1 ha.2.2.2 hb.1 hb.2.1
  obtain ⟨re, im, hm, f1, f2⟩ := csub_names (FI_nearest x (by omega)) (FI_nearest y (by omega)) (FI_nearest u (by omega)) (FI_nearest v (by omega)) (by omega) (by omega)
  have T := fun W => told_any re im (x - u) (y - v) W f1 f2 (by omega) (by omega)
  have hop := fun t w => run_complex_sum (P := Tryz.prog) w .sub (Or.inr rfl) t .f64 _ _ _ _ re im hm
  unfold tv at T ⊢
  generalize tX (x - u) (y - v) = X at *
  generalize tY (x - u) (y - v) = Y at *
  generalize tE (x - u) (y - v) = E at *
  generalize floatOfInt .f64 x = a at *
  generalize floatOfInt .f64 y = b at *
  generalize floatOfInt .f64 u = c at *
  generalize floatOfInt .f64 v = d at *
  clear f1 f2 hm m1 m2 m3 m4 ha hb
  go_enter Tryz.func114, Tryz.ntmps114
  go_wp2_with fail
  refine (Ra _).mono ?_
  rintro e w' ⟨rfl, os, n, rfl⟩
  go_wp2_with fail
  refine (Rb _).mono ?_
  rintro e w' ⟨rfl, os', n', rfl⟩
  go_wp2_with fail
  go_region_held2 (fun W => W.cell? ⟨w.heap.size, 0, none⟩ = some (.int .i64 x) ∧ W.cell? ⟨w.heap.size, 1, none⟩ = some (.int .i64 y) ∧ W.cell? ⟨w.heap.size + 1, 0, none⟩ = some (.int .i64 u) ∧ W.cell? ⟨w.heap.size + 1, 1, none⟩ = some (.int .i64 v)) (simp (maxDischargeDepth := 12) [go_sem])
    ((first
      | (go_at_call_of 159 (Value.int IntKind.i64 x); refine (Na _).mono ?_; rintro e w' ⟨rfl, os1, n1, rfl⟩)
      | (go_at_call_of 159 (Value.int IntKind.i64 u); refine (Nb _).mono ?_; rintro e w' ⟨rfl, os2, n2, rfl⟩)
      | (go_at_call 172; refine (T _).mono ?_; rintro e w' ⟨rfl, os3, n3, rfl⟩)))
  all_goals go_wp2_with fail
  all_goals refine bodyPost_ret_by (v := .tuple #[pv X Y, .int .i64 E]) ?_ rfl ⟨rfl, ?_⟩
  all_goals first
    | (simp [results, Tryz.results114, go_sem]; done)
    | (repeat (first | exact Grew.refl _ | apply Grew.drew | apply Grew.drewN | apply Grew.alloc | apply Grew.more))

set_option maxHeartbeats 1000000 in
theorem mul_bad (x y u v : Int) (w : World) (hr : (ok2 x y && ok2 u v) = false) :
    Calls Tryz.prog 115 #[pv x y, pv u v] w fun e w' => e = .returned (.tuple #[pv 0 0, .int .i64 1]) ∧ Grew w w' := by
  have Ra := fun W => right_any x y W
  have Rb := fun W => right_any u v W
  cases ha : ok2 x y
  · rw [ha] at Ra
    clear Rb hr ha
    go_enter Tryz.func115, Tryz.ntmps115
    go_wp2_with (go_at_call 158; refine (Ra _).mono ?_; rintro e w' ⟨rfl, os, n, rfl⟩)
    refine bodyPost_ret_by (v := .tuple #[pv 0 0, .int .i64 1]) ?_ rfl ⟨rfl, ?_⟩
    · simp [results, Tryz.results115, go_sem]
    · repeat (first | exact Grew.refl _ | apply Grew.drew | apply Grew.drewN | apply Grew.alloc | apply Grew.more)
  · rw [ha] at Ra hr
    have hb : ok2 u v = false := by simpa using hr
    rw [hb] at Rb
    clear hb hr ha
    go_enter Tryz.func115, Tryz.ntmps115
    go_wp2_with fail
    refine (Ra _).mono ?_
    rintro e w' ⟨rfl, os, n, rfl⟩
    go_wp2_with fail
    refine (Rb _).mono ?_
    rintro e w' ⟨rfl, os', n', rfl⟩
    go_wp2
    refine bodyPost_ret_by (v := .tuple #[pv 0 0, .int .i64 1]) ?_ rfl ⟨rfl, ?_⟩
    · simp [results, Tryz.results115, go_sem]
    · repeat (first | exact Grew.refl _ | apply Grew.drew | apply Grew.drewN | apply Grew.alloc | apply Grew.more)

set_option maxHeartbeats 2000000 in
theorem mul_good (x y u v : Int) (w : World) (ha : ok2 x y = true) (hb : ok2 u v = true) :
    Calls Tryz.prog 115 #[pv x y, pv u v] w fun e w' => e = .returned (tv (x * u - y * v) (x * v + y * u)) ∧ Grew w w' := by
  have Ra := fun W => right_any x y W
  have Rb := fun W => right_any u v W
  rw [ha] at Ra
  rw [hb] at Rb
  rw [ok2_iff] at ha hb
  have Na := fun W => number_any x y W
  have Nb := fun W => number_any u v W
  have m1 := mul_bd (A := 1048576) (B := 1048576) (by decide) ha.1 ha.2.1 hb.1 hb.2.1
  have m2 := mul_bd (A := 1048576) (B := 1048576) (by decide) ha.2.2.1 ha.2.2.2 hb.2.2.1 hb.2.2.2
  have m3 := mul_bd (A := 1048576) (B := 1048576) (by decide) ha.1 ha.2.1 hb.2.2.1 hb.2.2.2
  have m4 := mul_bd (A := 1048576) (B := 1048576) (by decide) ha.2.2.1 ha.2.2.2 hb.1 hb.2.1
  obtain ⟨re, im, hm, f1, f2⟩ := cmul_names 1048576 1048576 (by decide) (by decide) (FI_nearest x (by omega)) (FI_nearest y (by omega)) (FI_nearest u (by omega)) (FI_nearest v (by omega)) (by omega) (by omega) (by omega) (by omega) (by omega) (by omega) (by omega) (by omega)
  have T := fun W => told_any re im (x * u - y * v) (x * v + y * u) W f1 f2 (by omega) (by omega)
  have hop := fun t w => run_complex_mul (P := Tryz.prog) w t _ _ _ _ re im hm
  unfold tv at T ⊢
  generalize tX (x * u - y * v) (x * v + y * u) = X at *
  generalize tY (x * u - y * v) (x * v + y * u) = Y at *
  generalize tE (x * u - y * v) (x * v + y * u) = E at *
  generalize floatOfInt .f64 x = a at *
  generalize floatOfInt .f64 y = b at *
  generalize floatOfInt .f64 u = c at *
  generalize floatOfInt .f64 v = d at *
  clear f1 f2 hm m1 m2 m3 m4 ha hb
  go_enter Tryz.func115, Tryz.ntmps115
  go_wp2_with fail
  refine (Ra _).mono ?_
  rintro e w' ⟨rfl, os, n, rfl⟩
  go_wp2_with fail
  refine (Rb _).mono ?_
  rintro e w' ⟨rfl, os', n', rfl⟩
  go_wp2_with fail
  go_region_held2 (fun W => W.cell? ⟨w.heap.size, 0, none⟩ = some (.int .i64 x) ∧ W.cell? ⟨w.heap.size, 1, none⟩ = some (.int .i64 y) ∧ W.cell? ⟨w.heap.size + 1, 0, none⟩ = some (.int .i64 u) ∧ W.cell? ⟨w.heap.size + 1, 1, none⟩ = some (.int .i64 v)) (simp (maxDischargeDepth := 12) [go_sem])
    ((first
      | (go_at_call_of 159 (Value.int IntKind.i64 x); refine (Na _).mono ?_; rintro e w' ⟨rfl, os1, n1, rfl⟩)
      | (go_at_call_of 159 (Value.int IntKind.i64 u); refine (Nb _).mono ?_; rintro e w' ⟨rfl, os2, n2, rfl⟩)
      | (go_at_call 172; refine (T _).mono ?_; rintro e w' ⟨rfl, os3, n3, rfl⟩)))
  all_goals go_wp2_with fail
  all_goals refine bodyPost_ret_by (v := .tuple #[pv X Y, .int .i64 E]) ?_ rfl ⟨rfl, ?_⟩
  all_goals first
    | (simp [results, Tryz.results115, go_sem]; done)
    | (repeat (first | exact Grew.refl _ | apply Grew.drew | apply Grew.drewN | apply Grew.alloc | apply Grew.more))
end Go.Proofs.YtnpdecbgakgbgaaGreatDoor.Ga

namespace Go.Proofs.YtnpdecbgakgbgaaGreatDoor.Ga
open Go.RowKit
attribute [local go_sem] cell?_more frozen?_more setCell_more more_lt more_more more_drew more_drewN setCell_drewN alloc_drewN
attribute [local go_sem high] cellMA frozenMA setMA cellMAM frozenMAM setMAM cellMAA frozenMAA setMAA cellMAAM frozenMAAM setMAAM cellMAMA frozenMAMA setMAMA cellMAMAM frozenMAMAM setMAMAM cellMAMAMA frozenMAMAMA setMAMAMA cellMAMAMAM frozenMAMAMAM setMAMAMAM

def nrm (x y : Int) : Int := if ok2 x y then x * x + y * y else 0

theorem norm_any (x y : Int) (w : World) : Calls Tryz.prog 133 #[pv x y] w fun e w' => e = .returned (.int .i64 (nrm x y)) ∧ Grew w w' := by
  have R := fun W => right_any x y W
  by_cases h : ok2 x y = true
  · rw [h] at R
    have e1 : nrm x y = x * x + y * y := by simp [nrm, h]
    rw [e1]
    rw [ok2_iff] at h
    have N := fun W => number_any x y W
    obtain ⟨r, fr, S⟩ := square_names (FI_nearest x (by omega)) (FI_nearest y (by omega)) (by omega) (by omega) (by omega) (by omega)
    have m1 := mul_bd (A := 1048576) (B := 1048576) (by decide) h.1 h.2.1 h.1 h.2.1
    have m2 := mul_bd (A := 1048576) (B := 1048576) (by decide) h.2.2.1 h.2.2.2 h.2.2.1 h.2.2.2
    have c1 : ∀ w, (convert 201 3 (.float .f64 r)).run Tryz.prog w = .ok (.int .i64 (x * x + y * y)) w := fun w => run_convert_float_int w _ _ .f64 .i64 r _ (by rw [Tryz.underlying201]; rfl) Tryz.underlying3 (fr.toInt (by omega))
    generalize x * x + y * y = nn at *
    generalize floatOfInt .f64 x = a at *
    generalize floatOfInt .f64 y = b at *
    clear fr m1 m2 h e1
    go_enter Tryz.func133, Tryz.ntmps133
    go_wp2_with (first
      | (go_at_call 158; refine (R _).mono ?_; rintro e w' ⟨rfl, os, n, rfl⟩)
      | (go_at_call 159; refine (N _).mono ?_; rintro e w' ⟨rfl, os2, n2, rfl⟩)
      | (go_at_call 189; refine (S _).mono ?_; rintro e w' ⟨rfl, os3, n3, rfl⟩))
    all_goals go_ret
    all_goals exact ⟨rfl, by repeat (first | exact Grew.refl _ | apply Grew.drew | apply Grew.drewN | apply Grew.alloc | apply Grew.more)⟩
  · have h' : ok2 x y = false := by simpa using h
    have e1 : nrm x y = 0 := by simp [nrm, h']
    rw [e1]
    rw [h'] at R
    clear h h' e1
    go_enter Tryz.func133, Tryz.ntmps133
    go_wp2_with (go_at_call 158; refine (R _).mono ?_; rintro e w' ⟨rfl, os, n, rfl⟩)
    all_goals go_ret
    all_goals exact ⟨rfl, by repeat (first | exact Grew.refl _ | apply Grew.drew | apply Grew.drewN | apply Grew.alloc | apply Grew.more)⟩

/-- Times i. -/
theorem FI_zero : FI 0 0 := ⟨by decide, false, 0, -1074, by decide, by unfold worth; exact Rat.zero_mul _⟩
theorem FI_one : FI 4607182418800017408 1 := by
  have h : floatOfInt .f64 1 = 4607182418800017408 := by decide +kernel
  rw [← h]; exact FI_nearest 1 (by decide)
theorem turn_names {a b : Nat} {x y : Int} (ha : FI a x) (hb : FI b y) (x1 : -2097152 ≤ x) (x2 : x ≤ 2097152) (y1 : -2097152 ≤ y) (y2 : y ≤ 2097152) :
    ∃ re im, cMulBits a b 0 4607182418800017408 = some (re, im) ∧ FI re (-y) ∧ FI im x := by
  obtain ⟨re, im, h1, h2, h3⟩ := cmul_names 2097152 1 (by decide) (by decide) ha hb FI_zero FI_one x1 x2 y1 y2 (by decide) (by decide) (by decide) (by decide)
  refine ⟨re, im, h1, ?_, ?_⟩
  · have : -y = x * 0 - y * 1 := by omega
    rw [this]; exact h2
  · have : x = x * 1 + y * 0 := by omega
    rw [this]; exact h3

end Go.Proofs.YtnpdecbgakgbgaaGreatDoor.Ga

namespace Go.Proofs.YtnpdecbgakgbgaaGreatDoor.Ga
open Go.RowKit
attribute [local go_sem] cell?_more frozen?_more setCell_more more_lt more_more more_drew more_drewN setCell_drewN alloc_drewN
attribute [local go_sem high] cellMA frozenMA setMA cellMAM frozenMAM setMAM cellMAA frozenMAA setMAA cellMAAM frozenMAAM setMAAM cellMAMA frozenMAMA setMAMA cellMAMAM frozenMAMAM setMAMAM cellMAMAMA frozenMAMAMA setMAMAMA cellMAMAMAM frozenMAMAMAM setMAMAMAM

theorem FI_two : FI 4611686018427387904 2 := by
  have h : floatOfInt .f64 2 = 4611686018427387904 := by decide +kernel
  rw [← h]; exact FI_nearest 2 (by decide)

theorem floor_num (r : Nat) (s : Bool) (m : Nat) (i : Int) (h : FloatKind.f64.decode r = .number s m i) :
    Extern.MathFloor.toIntegral "math.archFloor" .down #[.float .f64 r] = pure (.float .f64 (FloatKind.f64.encode ((FloatKind.f64.decode r).integral .down))) := by
  delta Extern.MathFloor.toIntegral
  conv => lhs; whnf
  generalize FloatKind.f64.decode r = d at *
  subst h
  rfl

theorem arch_floor (r : Nat) (s : Bool) (m : Nat) (i : Int) (h : Ieee.double.read r = .number s m i) (w : World) :
    (callFunc 244 #[.float .f64 r]).run Tryz.prog w = .ok (.value (.float .f64 (Ieee.double.write ((Ieee.double.read r).integral .down)))) w := by
  rw [run_callFunc_extern Tryz.func244 (by kernel_rfl) (by kernel_rfl) (by kernel_rfl) (e := Extern.MathFloor.toIntegral "math.archFloor" .down) (by kernel_rfl)]
  rw [floor_num r s m i h]
  rfl

theorem floor_any (r : Nat) (s : Bool) (m : Nat) (i : Int) (h : Ieee.double.read r = .number s m i) (w : World) :
    Calls Tryz.prog 229 #[.float .f64 r] w fun e w' => e = .returned (.float .f64 (Ieee.double.write ((Ieee.double.read r).integral .down))) ∧ Grew w w' := by
  have F := fun w => arch_floor r s m i h w
  clear h
  generalize Ieee.double.write ((Ieee.double.read r).integral .down) = q at *
  go_enter Tryz.func229, Tryz.ntmps229
  go_wp2
  all_goals go_ret
  all_goals exact ⟨rfl, by repeat (first | exact Grew.refl _ | apply Grew.drew | apply Grew.drewN | apply Grew.alloc | apply Grew.more)⟩

/-- The nearest whole number as a float. -/
theorem nearest_names {a b : Nat} {o u : Int} (ha : FI a o) (hb : FI b u) (hu : 0 < u) (hu2 : u < 281474976710656) (ho : -281474976710656 < o ∧ o < 281474976710656) :
    ∃ q, FI q (nst o u) ∧ ∀ w, Calls Tryz.prog 214 #[.float .f64 a, .float .f64 b] w fun e w' => e = .returned (.float .f64 q) ∧ Grew w w' := by
  obtain ⟨r1, e1, f1⟩ := FI_two.mul ha (by omega)
  obtain ⟨r2, e2, f2⟩ := f1.add hb (by omega)
  obtain ⟨r3, e3, f3⟩ := FI_two.mul hb (by omega)
  obtain ⟨r4, e4, f4, s, m, i, hr⟩ := f2.part f3 (by omega) (by omega) (by omega)
  refine ⟨_, f4, fun w => ?_⟩
  have F := fun W => floor_any r4 s m i hr W
  have h1 : ∀ t w, (binOp .mul t (.float .f64 4611686018427387904) (.float .f64 a)).run Tryz.prog w = .ok (.float .f64 r1) w := fun t w => run_float_arith w .mul t .f64 _ _ _ e1
  have h2 : ∀ t w, (binOp .add t (.float .f64 r1) (.float .f64 b)).run Tryz.prog w = .ok (.float .f64 r2) w := fun t w => run_float_arith w .add t .f64 _ _ _ e2
  have h3 : ∀ t w, (binOp .mul t (.float .f64 4611686018427387904) (.float .f64 b)).run Tryz.prog w = .ok (.float .f64 r3) w := fun t w => run_float_arith w .mul t .f64 _ _ _ e3
  have h4 : ∀ t w, (binOp .quo t (.float .f64 r2) (.float .f64 r3)).run Tryz.prog w = .ok (.float .f64 r4) w := fun t w => run_float_arith w .quo t .f64 _ _ _ e4
  generalize Ieee.double.write ((Ieee.double.read r4).integral .down) = q at *
  clear ha hb hu hu2 ho e1 e2 e3 e4 f1 f2 f3 f4 hr
  go_enter Tryz.func214, Tryz.ntmps214
  go_wp2_with (go_at_call 229; refine (F _).mono ?_; rintro e w' ⟨rfl, os, n, rfl⟩)
  all_goals go_ret
  all_goals exact ⟨rfl, by repeat (first | exact Grew.refl _ | apply Grew.drew | apply Grew.drewN | apply Grew.alloc | apply Grew.more)⟩

/-- The quotient of two complex numbers whose parts are whole, and the rest. -/
theorem parted_names {a b c d : Nat} {x y u v : Int} (ha : FI a x) (hb : FI b y) (hc : FI c u) (hd : FI d v) (hx : -1048576 ≤ x ∧ x ≤ 1048576) (hy : -1048576 ≤ y ∧ y ≤ 1048576)
    (hu : -1048576 ≤ u ∧ u ≤ 1048576) (hv : -1048576 ≤ v ∧ v ≤ 1048576) (hn : 0 < u * u + v * v) :
    ∃ qa qb ra rb, FI qa (qX x y u v) ∧ FI qb (qY x y u v) ∧ FI ra (rX x y u v) ∧ FI rb (rY x y u v) ∧
      ∀ w, Calls Tryz.prog 173 #[cv a b, cv c d] w fun e w' => e = .returned (.tuple #[cv qa qb, cv ra rb]) ∧ Grew w w' := by
  obtain ⟨o1, o2, em, f1, f2⟩ := cmul_names 1048576 1048576 (by decide) (by decide) ha hb hc hd.neg hx.1 hx.2 hy.1 hy.2 hu.1 hu.2 (by omega) (by omega)
  have g1 : x * u - y * -v = x * u + y * v := by rw [Int.mul_neg]; omega
  have g2 : x * -v + y * u = y * u - x * v := by rw [Int.mul_neg]; omega
  rw [g1] at f1
  rw [g2] at f2
  obtain ⟨nn, fn, Sq⟩ := square_names hc hd (by omega) (by omega) (by omega) (by omega)
  have mu := mul_bd (A := 1048576) (B := 1048576) (by decide) hu.1 hu.2 hu.1 hu.2
  have mv := mul_bd (A := 1048576) (B := 1048576) (by decide) hv.1 hv.2 hv.1 hv.2
  have m1 := mul_bd (A := 1048576) (B := 1048576) (by decide) hx.1 hx.2 hu.1 hu.2
  have m2 := mul_bd (A := 1048576) (B := 1048576) (by decide) hy.1 hy.2 hv.1 hv.2
  have m3 := mul_bd (A := 1048576) (B := 1048576) (by decide) hy.1 hy.2 hu.1 hu.2
  have m4 := mul_bd (A := 1048576) (B := 1048576) (by decide) hx.1 hx.2 hv.1 hv.2
  obtain ⟨qa, k1, N1⟩ := nearest_names f1 fn hn (by omega) (by omega)
  obtain ⟨qb, k2, N2⟩ := nearest_names f2 fn hn (by omega) (by omega)
  have k1' : FI qa (qX x y u v) := k1
  have k2' : FI qb (qY x y u v) := k2
  have hq := quo_ok x y u v hx hy hn
  obtain ⟨p1, p2, ep, l1, l2⟩ := cmul_names 1048576 1048576 (by decide) (by decide) hc hd k1' k2' hu.1 hu.2 hv.1 hv.2 hq.1.1 hq.1.2 hq.2.1 hq.2.2
  have hr := rest_ok x y u v hu hv hn
  have hr1 : x - (u * qX x y u v - v * qY x y u v) = rX x y u v := rfl
  have hr2 : y - (u * qY x y u v + v * qX x y u v) = rY x y u v := rfl
  obtain ⟨ra, rb, er, z1, z2⟩ := csub_names ha hb l1 l2 (by rw [hr1]; omega) (by rw [hr2]; omega)
  refine ⟨qa, qb, ra, rb, k1', k2', z1, z2, fun w => ?_⟩
  have M := fun W => mirrored_any c d W
  have h1 := fun t w => run_complex_mul (P := Tryz.prog) w t _ _ _ _ o1 o2 em
  have h2 := fun t w => run_complex_mul (P := Tryz.prog) w t _ _ _ _ p1 p2 ep
  have h3 := fun t w => run_complex_sum (P := Tryz.prog) w .sub (Or.inr rfl) t .f64 _ _ _ _ ra rb er
  generalize Op.negFloat .f64 d = e at *
  clear ha hb hc hd hx hy hu hv hn em f1 f2 g1 g2 fn mu mv m1 m2 m3 m4 k1 k2 k1' k2' hq ep l1 l2 hr hr1 hr2 er z1 z2
  go_enter Tryz.func173, Tryz.ntmps173
  go_wp2_with (first
    | (go_at_call 213; refine (M _).mono ?_; rintro e w' ⟨rfl, os, n, rfl⟩)
    | (go_at_call 189; refine (Sq _).mono ?_; rintro e w' ⟨rfl, os, n, rfl⟩)
    | (go_at_call_of 214 (Value.float FloatKind.f64 o1); refine (N1 _).mono ?_; rintro e w' ⟨rfl, os, n, rfl⟩)
    | (go_at_call_of 214 (Value.float FloatKind.f64 o2); refine (N2 _).mono ?_; rintro e w' ⟨rfl, os, n, rfl⟩))
  refine bodyPost_ret_by (v := .tuple #[cv qa qb, cv ra rb]) ?_ rfl ⟨rfl, ?_⟩
  · simp [results, Tryz.results173, go_sem]
  · repeat (first | exact Grew.refl _ | apply Grew.drew | apply Grew.drewN | apply Grew.alloc | apply Grew.more)
end Go.Proofs.YtnpdecbgakgbgaaGreatDoor.Ga

namespace Go.Proofs.YtnpdecbgakgbgaaGreatDoor.Ga
open Go.RowKit
attribute [local go_sem] cell?_more frozen?_more setCell_more more_lt more_more more_drew more_drewN setCell_drewN alloc_drewN
attribute [local go_sem high] cellMA frozenMA setMA cellMAM frozenMAM setMAM cellMAA frozenMAA setMAA cellMAAM frozenMAAM setMAAM cellMAMA frozenMAMA setMAMA cellMAMAM frozenMAMAM setMAMAM cellMAMAMA frozenMAMAMA setMAMAMA cellMAMAMAM frozenMAMAMAM setMAMAMAM

theorem eqPt (a b c d : Int) (w : World) : (Op.equalIn 10000 121 (.agg #[.int .i64 a, .int .i64 b]) (.agg #[.int .i64 c, .int .i64 d])).run Tryz.prog w = .ok (a == c && b == d) w := by
  have u3 := Tryz.underlying3
  have a3 := Tryz.isAgg3
  have z3 := Tryz.sizeOf3
  have hS : Tryz.prog.underlying 121 = some (.struct (Tryz.prog.fieldsOf 121)) := by kernel_rfl
  have hp : Tryz.prog.stoodInHeld 121 = false := by kernel_rfl
  rw [show (10000 : Nat) = 9999 + 1 from rfl, run_equalIn_agg w 9999 121 _ _ hS hp]
  simp only [Program.fieldsOf, Tryz.underlying121]
  go_simp
  by_cases h1 : a = c <;> by_cases h2 : b = d <;> simp [h1, h2]
attribute [local go_sem high] eqPt

set_option maxHeartbeats 1000000 in
theorem div_bad (x y u v : Int) (w : World) (hr : (ok2 x y && ok2 u v) = false) :
    Calls Tryz.prog 116 #[pv x y, pv u v] w fun e w' => e = .returned (.tuple #[pv 0 0, pv 0 0, .int .i64 1]) ∧ Grew w w' := by
  have Ra := fun W => right_any x y W
  have Rb := fun W => right_any u v W
  cases ha : ok2 x y
  · rw [ha] at Ra
    clear Rb hr ha
    go_enter Tryz.func116, Tryz.ntmps116
    go_wp2_with (go_at_call 158; refine (Ra _).mono ?_; rintro e w' ⟨rfl, os, n, rfl⟩)
    refine bodyPost_ret_by (v := .tuple #[pv 0 0, pv 0 0, .int .i64 1]) ?_ rfl ⟨rfl, ?_⟩
    · simp [results, Tryz.results116, go_sem]
    · repeat (first | exact Grew.refl _ | apply Grew.drew | apply Grew.drewN | apply Grew.alloc | apply Grew.more)
  · rw [ha] at Ra hr
    have hb : ok2 u v = false := by simpa using hr
    rw [hb] at Rb
    clear hb hr ha
    go_enter Tryz.func116, Tryz.ntmps116
    go_wp2_with fail
    refine (Ra _).mono ?_
    rintro e w' ⟨rfl, os, n, rfl⟩
    go_wp2_with fail
    refine (Rb _).mono ?_
    rintro e w' ⟨rfl, os', n', rfl⟩
    go_wp2
    refine bodyPost_ret_by (v := .tuple #[pv 0 0, pv 0 0, .int .i64 1]) ?_ rfl ⟨rfl, ?_⟩
    · simp [results, Tryz.results116, go_sem]
    · repeat (first | exact Grew.refl _ | apply Grew.drew | apply Grew.drewN | apply Grew.alloc | apply Grew.more)

set_option maxHeartbeats 1000000 in
theorem div_zero (x y : Int) (w : World) (hr : ok2 x y = true) :
    Calls Tryz.prog 116 #[pv x y, pv 0 0] w fun e w' => e = .returned (.tuple #[pv 0 0, pv 0 0, .int .i64 33]) ∧ Grew w w' := by
  have Ra := fun W => right_any x y W
  have Rb := fun W => right_any 0 0 W
  rw [hr] at Ra
  rw [show ok2 0 0 = true from rfl] at Rb
  clear hr
  go_enter Tryz.func116, Tryz.ntmps116
  go_wp2_with fail
  refine (Ra _).mono ?_
  rintro e w' ⟨rfl, os, n, rfl⟩
  go_wp2_with fail
  refine (Rb _).mono ?_
  rintro e w' ⟨rfl, os', n', rfl⟩
  go_wp2
  refine bodyPost_ret_by (v := .tuple #[pv 0 0, pv 0 0, .int .i64 33]) ?_ rfl ⟨rfl, ?_⟩
  · simp [results, Tryz.results116, go_sem]
  · repeat (first | exact Grew.refl _ | apply Grew.drew | apply Grew.drewN | apply Grew.alloc | apply Grew.more)

set_option maxHeartbeats 2000000 in
theorem div_good (x y u v : Int) (w : World) (ha : ok2 x y = true) (hb : ok2 u v = true) (hn : 0 < u * u + v * v) :
    Calls Tryz.prog 116 #[pv x y, pv u v] w fun e w' => e = .returned (.tuple #[pv (qX x y u v) (qY x y u v), pv (rX x y u v) (rY x y u v), .int .i64 0]) ∧ Grew w w' := by
  have Ra := fun W => right_any x y W
  have Rb := fun W => right_any u v W
  rw [ha] at Ra
  rw [hb] at Rb
  rw [ok2_iff] at ha hb
  have hx : -1048576 ≤ x ∧ x ≤ 1048576 := ⟨ha.1, ha.2.1⟩
  have hy : -1048576 ≤ y ∧ y ≤ 1048576 := ⟨ha.2.2.1, ha.2.2.2⟩
  have hu : -1048576 ≤ u ∧ u ≤ 1048576 := ⟨hb.1, hb.2.1⟩
  have hv : -1048576 ≤ v ∧ v ≤ 1048576 := ⟨hb.2.2.1, hb.2.2.2⟩
  have Na := fun W => number_any x y W
  have Nb := fun W => number_any u v W
  obtain ⟨qa, qb, ra, rb, f1, f2, f3, f4, P⟩ := parted_names (FI_nearest x (by omega)) (FI_nearest y (by omega)) (FI_nearest u (by omega)) (FI_nearest v (by omega)) hx hy hu hv hn
  have hq := quo_ok x y u v hx hy hn
  have hr := rest_ok x y u v hu hv hn
  have P1 := fun W => point_any qa qb _ _ W f1 f2 (by omega) (by omega)
  have P2 := fun W => point_any ra rb _ _ W f3 f4 (by omega) (by omega)
  have hne : ¬ (u = 0 ∧ v = 0) := by
    rintro ⟨rfl, rfl⟩
    exact absurd hn (by decide)
  generalize qX x y u v = c1 at *
  generalize qY x y u v = c2 at *
  generalize rX x y u v = r1 at *
  generalize rY x y u v = r2 at *
  generalize floatOfInt .f64 x = a at *
  generalize floatOfInt .f64 y = b at *
  generalize floatOfInt .f64 u = c at *
  generalize floatOfInt .f64 v = d at *
  clear hx hy hu hv ha hb hn f1 f2 f3 f4 hq hr
  have hd : (u == 0 && v == 0) = false := by simpa using hne
  go_enter Tryz.func116, Tryz.ntmps116
  go_wp2_with fail
  refine (Ra _).mono ?_
  rintro e w' ⟨rfl, os, n, rfl⟩
  go_wp2_with fail
  refine (Rb _).mono ?_
  rintro e w' ⟨rfl, os', n', rfl⟩
  go_wp2_with fail
  clear hd hne
  go_region_held2 (fun W => W.cell? ⟨w.heap.size, 0, none⟩ = some (.int .i64 x) ∧ W.cell? ⟨w.heap.size, 1, none⟩ = some (.int .i64 y) ∧ W.cell? ⟨w.heap.size + 1, 0, none⟩ = some (.int .i64 u) ∧ W.cell? ⟨w.heap.size + 1, 1, none⟩ = some (.int .i64 v)) (simp (maxDischargeDepth := 12) [go_sem])
    ((first
      | (go_at_call_of 159 (Value.int IntKind.i64 x); refine (Na _).mono ?_; rintro e w' ⟨rfl, os1, n1, rfl⟩)
      | (go_at_call_of 159 (Value.int IntKind.i64 u); refine (Nb _).mono ?_; rintro e w' ⟨rfl, os2, n2, rfl⟩)
      | (go_at_call 173; refine (P _).mono ?_; rintro e w' ⟨rfl, os3, n3, rfl⟩)))
  all_goals go_wp2_with (first
    | (go_at_call_of 160 (cv qa qb); refine (P1 _).mono ?_; rintro e w' ⟨rfl, os4, n4, rfl⟩)
    | (go_at_call_of 160 (cv ra rb); refine (P2 _).mono ?_; rintro e w' ⟨rfl, os5, n5, rfl⟩))
  all_goals refine bodyPost_ret_by (v := .tuple #[pv c1 c2, pv r1 r2, .int .i64 0]) ?_ rfl ⟨rfl, ?_⟩
  all_goals first
    | (simp [results, Tryz.results116, go_sem]; done)
    | (repeat (first | exact Grew.refl _ | apply Grew.drew | apply Grew.drewN | apply Grew.alloc | apply Grew.more))
end Go.Proofs.YtnpdecbgakgbgaaGreatDoor.Ga
