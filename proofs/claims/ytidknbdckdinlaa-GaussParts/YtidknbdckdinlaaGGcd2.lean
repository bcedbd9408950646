/-
  The contract of gauss.Gcd: for every two points.
-/
import Derived.Test.YtidknbdckdinlaaGGcd
namespace Go.Proofs.Ytidknbdckdinlaa
open Go.RowKit
attribute [local go_sem] cell?_more frozen?_more setCell_more more_lt more_more more_drew more_drewN setCell_drewN alloc_drewN
attribute [local go_sem high] cellMA frozenMA setMA cellMAM frozenMAM setMAM cellMAA frozenMAA setMAA cellMAAM frozenMAAM setMAAM cellMAMA frozenMAMA setMAMA cellMAMAM frozenMAMAM setMAMAM cellMAMAMA frozenMAMAMA setMAMAMA cellMAMAMAM frozenMAMAMAM setMAMAMAM

set_option maxHeartbeats 1000000 in
theorem gcd_bad (x y u v : Int) (w : World) (hr : (ok2 x y && ok2 u v) = false) :
    Calls Try.prog 22 #[pv x y, pv u v] w fun e w' => e = .returned (.tuple #[pv 0 0, .int .i64 1]) ∧ Grew w w' := by
  have Ra := fun W => right_any x y W
  have Rb := fun W => right_any u v W
  cases ha : ok2 x y
  · rw [ha] at Ra
    clear Rb hr ha
    go_enter Try.func22, Try.ntmps22
    go_wp2_with (go_at_call 15; refine (Ra _).mono ?_; rintro e w' ⟨rfl, os, n, rfl⟩)
    refine bodyPost_ret_by (v := .tuple #[pv 0 0, .int .i64 1]) ?_ rfl ⟨rfl, ?_⟩
    · simp [results, Try.results22, go_sem]
    · repeat (first | exact Grew.refl _ | apply Grew.drew | apply Grew.drewN | apply Grew.alloc | apply Grew.more)
  · rw [ha] at Ra hr
    have hb : ok2 u v = false := by simpa using hr
    rw [hb] at Rb
    clear hb hr ha
    go_enter Try.func22, Try.ntmps22
    go_wp2_with fail
    refine (Ra _).mono ?_
    rintro e w' ⟨rfl, os, n, rfl⟩
    go_wp2_with fail
    refine (Rb _).mono ?_
    rintro e w' ⟨rfl, os', n', rfl⟩
    go_wp2
    refine bodyPost_ret_by (v := .tuple #[pv 0 0, .int .i64 1]) ?_ rfl ⟨rfl, ?_⟩
    · simp [results, Try.results22, go_sem]
    · repeat (first | exact Grew.refl _ | apply Grew.drew | apply Grew.drewN | apply Grew.alloc | apply Grew.more)

/-- The turn of a point that lies in the first quarter. -/
def fqX (x y : Int) : Int := if x = 0 ∧ y = 0 then 0 else if 0 < x ∧ 0 ≤ y then x else if x ≤ 0 ∧ 0 < y then y else if x < 0 ∧ y ≤ 0 then -x else -y
def fqY (x y : Int) : Int := if x = 0 ∧ y = 0 then 0 else if 0 < x ∧ 0 ≤ y then y else if x ≤ 0 ∧ 0 < y then -x else if x < 0 ∧ y ≤ 0 then -y else x
/-- Something hidden from the walk. -/
def Hid (p : Prop) : Prop := p
theorem Hid.out {p : Prop} (h : Hid p) : p := h

set_option maxHeartbeats 4000000 in
theorem gcd_good (x y u v : Int) (w : World) (ha : ok2 x y = true) (hb : ok2 u v = true) :
    Calls Try.prog 22 #[pv x y, pv u v] w fun e w' => e = .returned (.tuple #[pv (fqX (gl x y u v).1 (gl x y u v).2) (fqY (gl x y u v).1 (gl x y u v).2), .int .i64 0]) ∧ Grew w w' := by
  have Ra := fun W => right_any x y W
  have Rb := fun W => right_any u v W
  rw [ha] at Ra
  rw [hb] at Rb
  rw [ok2_iff] at ha hb
  have Na := fun W => number_any x y W
  have Nb := fun W => number_any u v W
  have fx := FI_nearest x (by omega)
  have fy := FI_nearest y (by omega)
  have fu := FI_nearest u (by omega)
  have fv := FI_nearest v (by omega)
  obtain ⟨gx, gy, hg⟩ : ∃ gx gy, gl x y u v = (gx, gy) := ⟨_, _, rfl⟩
  have HG : Hid (gl x y u v = (gx, gy)) := hg
  rw [hg]
  clear hg
  show Calls Try.prog 22 #[pv x y, pv u v] w fun e w' => e = .returned (.tuple #[pv (fqX gx gy) (fqY gx gy), .int .i64 0]) ∧ Grew w w'
  generalize floatOfInt .f64 x = a0 at *
  generalize floatOfInt .f64 y = b0 at *
  generalize floatOfInt .f64 u = c0 at *
  generalize floatOfInt .f64 v = d0 at *
  have HA : Hid (-1048576 ≤ x ∧ x ≤ 1048576 ∧ -1048576 ≤ y ∧ y ≤ 1048576) := ha
  have HB : Hid (-1048576 ≤ u ∧ u ≤ 1048576 ∧ -1048576 ≤ v ∧ v ≤ 1048576) := hb
  clear ha hb
  obtain ⟨X, hX⟩ : ∃ X, X = fqX gx gy := ⟨_, rfl⟩
  obtain ⟨Y, hY⟩ : ∃ Y, Y = fqY gx gy := ⟨_, rfl⟩
  rw [← hX, ← hY]
  have HX : Hid (X = fqX gx gy) := hX
  have HY : Hid (Y = fqY gx gy) := hY
  clear hX hY
  go_enter Try.func22, Try.ntmps22
  go_wp2_with fail
  refine (Ra _).mono ?_
  rintro e w' ⟨rfl, os, n, rfl⟩
  go_wp2_with fail
  refine (Rb _).mono ?_
  rintro e w' ⟨rfl, os', n', rfl⟩
  go_upto_region 3 with fail
  go_cut [6, 7] from 10 (fun s t wx => s = cv a0 b0 ∧ t = cv c0 d0 ∧ ∃ (l : List Obj) (n : Nat), wx = (more (((w.alloc (Obj.cells #[Value.int IntKind.i64 x, Value.int IntKind.i64 y] 24)).alloc (Obj.cells #[Value.int IntKind.i64 u, Value.int IntKind.i64 v] 24)).alloc (Obj.cells #[Value.int IntKind.i64 0, Value.int IntKind.i64 0] 24)) l).drewN n)
  case first =>
    go_region_held2 (fun W => W.cell? ⟨w.heap.size, 0, none⟩ = some (.int .i64 x) ∧ W.cell? ⟨w.heap.size, 1, none⟩ = some (.int .i64 y) ∧ W.cell? ⟨w.heap.size + 1, 0, none⟩ = some (.int .i64 u) ∧ W.cell? ⟨w.heap.size + 1, 1, none⟩ = some (.int .i64 v)) (simp (maxDischargeDepth := 12) [go_sem])
      ((first
        | (go_at_call_of 31 (Value.int IntKind.i64 x); refine (Na _).mono ?_; rintro e w' ⟨rfl, os1, n1, rfl⟩)
        | (go_at_call_of 31 (Value.int IntKind.i64 u); refine (Nb _).mono ?_; rintro e w' ⟨rfl, os2, n2, rfl⟩)))
    all_goals go_wp2_with fail
    all_goals go_meet
    all_goals exact ⟨rfl, rfl, _, _, rfl⟩
  obtain ⟨rfl, rfl, l0, n0, rfl⟩ := hcut
  clear Ra Rb Na Nb
  go_wp2_with fail
  go_loopw [6, 7] (fun s t wr => ∃ (a b c d : Nat) (x1 y1 u1 v1 : Int) (l : List Obj) (n : Nat), s = cv a b ∧ t = cv c d ∧ FI a x1 ∧ FI b y1 ∧ FI c u1 ∧ FI d v1 ∧
    Hid (-1048576 ≤ x1 ∧ x1 ≤ 1048576 ∧ -1048576 ≤ y1 ∧ y1 ≤ 1048576) ∧ Hid (-1048576 ≤ u1 ∧ u1 ≤ 1048576 ∧ -1048576 ≤ v1 ∧ v1 ≤ 1048576) ∧ Hid (gl x1 y1 u1 v1 = (gx, gy)) ∧ wr = (more (((w.alloc (Obj.cells #[Value.int IntKind.i64 x, Value.int IntKind.i64 y] 24)).alloc (Obj.cells #[Value.int IntKind.i64 u, Value.int IntKind.i64 v] 24)).alloc (Obj.cells #[Value.int IntKind.i64 0, Value.int IntKind.i64 0] 24)) l).drewN n) (fun _ t _ => cnorm t)
  case atStart => exact ⟨a0, b0, c0, d0, x, y, u, v, l0, n0, rfl, rfl, fx, fy, fu, fv, HA, HB, HG, rfl⟩
  case round =>
    obtain ⟨a, b, c, d, x1, y1, u1, v1, l, n, rfl, rfl, fa, fb, fc, fd, B1, B2, G1, rfl⟩ := hrel
    have B := B1.out
    by_cases hz : u1 = 0 ∧ v1 = 0
    · have zz : ∀ t w, (binOp .neq t (cv c d) (cv 0 0)).run Try.prog w = .ok (.bool false) w := fun t w => by
        rw [neq_run fc fd, decide_eq_true hz]; rfl
      have e := G1.out
      rw [hz.1, hz.2, gl_zero] at e
      obtain ⟨rfl, rfl⟩ := Prod.mk.inj e
      clear e hz
      by_cases hq : x1 = 0 ∧ y1 = 0
      · have z0 : ∀ t w, (binOp .neq t (cv a b) (cv 0 0)).run Try.prog w = .ok (.bool false) w := fun t w => by
          have e : decide (x1 = 0 ∧ y1 = 0) = true := by simp; omega
          rw [neq_run fa fb, e]; rfl
        have eX : X = x1 := by have := HX.out; simp [fqX] at this; omega
        have eY : Y = y1 := by have := HY.out; simp [fqY] at this; omega
        have P := fun W => point_any a b (x1) (y1) W fa fb (by omega) (by omega)
        rw [← eX, ← eY] at P
        clear eX eY HX HY HG HA HB G1 B1 B2 fa fb fc fd fx fy fu fv B hq 
        go_wp2_with fail
        refine wp_loop_rounds 1 ?_
        rw [rounds_succ]
        go_wp2_with (go_at_call 35; refine (P _).mono ?_; rintro e w' ⟨rfl, op, np, rfl⟩)
        refine bodyPost_ret_by (v := .tuple #[pv X Y, .int .i64 0]) ?_ rfl ⟨rfl, ?_⟩
        · simp [results, Try.results22, go_sem]
        · repeat (first | exact Grew.refl _ | apply Grew.drew | apply Grew.drewN | apply Grew.alloc | apply Grew.more)
      · by_cases hq1 : 0 < x1 ∧ 0 ≤ y1
        · have z0 : ∀ t w, (binOp .neq t (cv a b) (cv 0 0)).run Try.prog w = .ok (.bool true) w := fun t w => by
            have e : decide (x1 = 0 ∧ y1 = 0) = false := by simp; omega
            rw [neq_run fa fb, e]; rfl
          have q0 : ∀ W, Calls Try.prog 37 #[cv a b] W fun e w' => e = .returned (.bool true) ∧ Grew W w' := fun W => by
            have e : decide (0 < x1 ∧ 0 ≤ y1) = true := by simp; omega
            have := first_any fa fb W
            rwa [e] at this
          have eX : X = x1 := by have := HX.out; simp [fqX] at this; omega
          have eY : Y = y1 := by have := HY.out; simp [fqY] at this; omega
          have P := fun W => point_any a b (x1) (y1) W fa fb (by omega) (by omega)
          rw [← eX, ← eY] at P
          clear eX eY HX HY HG HA HB G1 B1 B2 fa fb fc fd fx fy fu fv B hq 
          go_wp2_with fail
          refine wp_loop_rounds 1 ?_
          rw [rounds_succ]
          go_wp2_with (first
            | (go_at_call 37; refine (q0 _).mono ?_; rintro e w' ⟨rfl, ol0, nl0, rfl⟩)
            | (go_at_call 35; refine (P _).mono ?_; rintro e w' ⟨rfl, op, np, rfl⟩))
          refine bodyPost_ret_by (v := .tuple #[pv X Y, .int .i64 0]) ?_ rfl ⟨rfl, ?_⟩
          · simp [results, Try.results22, go_sem]
          · repeat (first | exact Grew.refl _ | apply Grew.drew | apply Grew.drewN | apply Grew.alloc | apply Grew.more)
        · by_cases hq2 : x1 ≤ 0 ∧ 0 < y1
          · obtain ⟨r0, i0, m0, f0, g0⟩ := turn_names fa fb (by omega) (by omega) (by omega) (by omega)
            have h0 := fun t w => run_complex_mul (P := Try.prog) w t _ _ _ _ r0 i0 m0
            obtain ⟨r1, i1, m1, f1, g1⟩ := turn_names f0 g0 (by omega) (by omega) (by omega) (by omega)
            have h1 := fun t w => run_complex_mul (P := Try.prog) w t _ _ _ _ r1 i1 m1
            obtain ⟨r2, i2, m2, f2, g2⟩ := turn_names f1 g1 (by omega) (by omega) (by omega) (by omega)
            have h2 := fun t w => run_complex_mul (P := Try.prog) w t _ _ _ _ r2 i2 m2
            have z0 : ∀ t w, (binOp .neq t (cv a b) (cv 0 0)).run Try.prog w = .ok (.bool true) w := fun t w => by
              have e : decide (x1 = 0 ∧ y1 = 0) = false := by simp; omega
              rw [neq_run fa fb, e]; rfl
            have q0 : ∀ W, Calls Try.prog 37 #[cv a b] W fun e w' => e = .returned (.bool false) ∧ Grew W w' := fun W => by
              have e : decide (0 < x1 ∧ 0 ≤ y1) = false := by simp; omega
              have := first_any fa fb W
              rwa [e] at this
            have z1 : ∀ t w, (binOp .neq t (cv r0 i0) (cv 0 0)).run Try.prog w = .ok (.bool true) w := fun t w => by
              have e : decide (-y1 = 0 ∧ x1 = 0) = false := by simp; omega
              rw [neq_run f0 g0, e]; rfl
            have q1 : ∀ W, Calls Try.prog 37 #[cv r0 i0] W fun e w' => e = .returned (.bool false) ∧ Grew W w' := fun W => by
              have e : decide (0 < -y1 ∧ 0 ≤ x1) = false := by simp; omega
              have := first_any f0 g0 W
              rwa [e] at this
            have z2 : ∀ t w, (binOp .neq t (cv r1 i1) (cv 0 0)).run Try.prog w = .ok (.bool true) w := fun t w => by
              have e : decide (-x1 = 0 ∧ -y1 = 0) = false := by simp; omega
              rw [neq_run f1 g1, e]; rfl
            have q2 : ∀ W, Calls Try.prog 37 #[cv r1 i1] W fun e w' => e = .returned (.bool false) ∧ Grew W w' := fun W => by
              have e : decide (0 < -x1 ∧ 0 ≤ -y1) = false := by simp; omega
              have := first_any f1 g1 W
              rwa [e] at this
            have z3 : ∀ t w, (binOp .neq t (cv r2 i2) (cv 0 0)).run Try.prog w = .ok (.bool true) w := fun t w => by
              have e : decide (-(-y1) = 0 ∧ -x1 = 0) = false := by simp; omega
              rw [neq_run f2 g2, e]; rfl
            have q3 : ∀ W, Calls Try.prog 37 #[cv r2 i2] W fun e w' => e = .returned (.bool true) ∧ Grew W w' := fun W => by
              have e : decide (0 < -(-y1) ∧ 0 ≤ -x1) = true := by simp; omega
              have := first_any f2 g2 W
              rwa [e] at this
            have eX : X = -(-y1) := by have := HX.out; simp [fqX] at this; omega
            have eY : Y = -x1 := by have := HY.out; simp [fqY] at this; omega
            have P := fun W => point_any r2 i2 (-(-y1)) (-x1) W f2 g2 (by omega) (by omega)
            rw [← eX, ← eY] at P
            clear eX eY HX HY HG HA HB G1 B1 B2 fa fb fc fd fx fy fu fv B hq m0 f0 g0 m1 f1 g1 m2 f2 g2
            go_wp2_with fail
            refine wp_loop_rounds 4 ?_
            rw [rounds_succ]
            go_wp2_with (go_at_call 37; refine (q0 _).mono ?_; rintro e w' ⟨rfl, ol0, nl0, rfl⟩)
            rw [rounds_succ]
            go_wp2_with (go_at_call 37; refine (q1 _).mono ?_; rintro e w' ⟨rfl, ol1, nl1, rfl⟩)
            rw [rounds_succ]
            go_wp2_with (go_at_call 37; refine (q2 _).mono ?_; rintro e w' ⟨rfl, ol2, nl2, rfl⟩)
            rw [rounds_succ]
            go_wp2_with (first
              | (go_at_call 37; refine (q3 _).mono ?_; rintro e w' ⟨rfl, ol3, nl3, rfl⟩)
              | (go_at_call 35; refine (P _).mono ?_; rintro e w' ⟨rfl, op, np, rfl⟩))
            refine bodyPost_ret_by (v := .tuple #[pv X Y, .int .i64 0]) ?_ rfl ⟨rfl, ?_⟩
            · simp [results, Try.results22, go_sem]
            · repeat (first | exact Grew.refl _ | apply Grew.drew | apply Grew.drewN | apply Grew.alloc | apply Grew.more)
          · by_cases hq3 : x1 < 0 ∧ y1 ≤ 0
            · obtain ⟨r0, i0, m0, f0, g0⟩ := turn_names fa fb (by omega) (by omega) (by omega) (by omega)
              have h0 := fun t w => run_complex_mul (P := Try.prog) w t _ _ _ _ r0 i0 m0
              obtain ⟨r1, i1, m1, f1, g1⟩ := turn_names f0 g0 (by omega) (by omega) (by omega) (by omega)
              have h1 := fun t w => run_complex_mul (P := Try.prog) w t _ _ _ _ r1 i1 m1
              have z0 : ∀ t w, (binOp .neq t (cv a b) (cv 0 0)).run Try.prog w = .ok (.bool true) w := fun t w => by
                have e : decide (x1 = 0 ∧ y1 = 0) = false := by simp; omega
                rw [neq_run fa fb, e]; rfl
              have q0 : ∀ W, Calls Try.prog 37 #[cv a b] W fun e w' => e = .returned (.bool false) ∧ Grew W w' := fun W => by
                have e : decide (0 < x1 ∧ 0 ≤ y1) = false := by simp; omega
                have := first_any fa fb W
                rwa [e] at this
              have z1 : ∀ t w, (binOp .neq t (cv r0 i0) (cv 0 0)).run Try.prog w = .ok (.bool true) w := fun t w => by
                have e : decide (-y1 = 0 ∧ x1 = 0) = false := by simp; omega
                rw [neq_run f0 g0, e]; rfl
              have q1 : ∀ W, Calls Try.prog 37 #[cv r0 i0] W fun e w' => e = .returned (.bool false) ∧ Grew W w' := fun W => by
                have e : decide (0 < -y1 ∧ 0 ≤ x1) = false := by simp; omega
                have := first_any f0 g0 W
                rwa [e] at this
              have z2 : ∀ t w, (binOp .neq t (cv r1 i1) (cv 0 0)).run Try.prog w = .ok (.bool true) w := fun t w => by
                have e : decide (-x1 = 0 ∧ -y1 = 0) = false := by simp; omega
                rw [neq_run f1 g1, e]; rfl
              have q2 : ∀ W, Calls Try.prog 37 #[cv r1 i1] W fun e w' => e = .returned (.bool true) ∧ Grew W w' := fun W => by
                have e : decide (0 < -x1 ∧ 0 ≤ -y1) = true := by simp; omega
                have := first_any f1 g1 W
                rwa [e] at this
              have eX : X = -x1 := by have := HX.out; simp [fqX] at this; omega
              have eY : Y = -y1 := by have := HY.out; simp [fqY] at this; omega
              have P := fun W => point_any r1 i1 (-x1) (-y1) W f1 g1 (by omega) (by omega)
              rw [← eX, ← eY] at P
              clear eX eY HX HY HG HA HB G1 B1 B2 fa fb fc fd fx fy fu fv B hq m0 f0 g0 m1 f1 g1
              go_wp2_with fail
              refine wp_loop_rounds 3 ?_
              rw [rounds_succ]
              go_wp2_with (go_at_call 37; refine (q0 _).mono ?_; rintro e w' ⟨rfl, ol0, nl0, rfl⟩)
              rw [rounds_succ]
              go_wp2_with (go_at_call 37; refine (q1 _).mono ?_; rintro e w' ⟨rfl, ol1, nl1, rfl⟩)
              rw [rounds_succ]
              go_wp2_with (first
                | (go_at_call 37; refine (q2 _).mono ?_; rintro e w' ⟨rfl, ol2, nl2, rfl⟩)
                | (go_at_call 35; refine (P _).mono ?_; rintro e w' ⟨rfl, op, np, rfl⟩))
              refine bodyPost_ret_by (v := .tuple #[pv X Y, .int .i64 0]) ?_ rfl ⟨rfl, ?_⟩
              · simp [results, Try.results22, go_sem]
              · repeat (first | exact Grew.refl _ | apply Grew.drew | apply Grew.drewN | apply Grew.alloc | apply Grew.more)
            · obtain ⟨r0, i0, m0, f0, g0⟩ := turn_names fa fb (by omega) (by omega) (by omega) (by omega)
              have h0 := fun t w => run_complex_mul (P := Try.prog) w t _ _ _ _ r0 i0 m0
              have z0 : ∀ t w, (binOp .neq t (cv a b) (cv 0 0)).run Try.prog w = .ok (.bool true) w := fun t w => by
                have e : decide (x1 = 0 ∧ y1 = 0) = false := by simp; omega
                rw [neq_run fa fb, e]; rfl
              have q0 : ∀ W, Calls Try.prog 37 #[cv a b] W fun e w' => e = .returned (.bool false) ∧ Grew W w' := fun W => by
                have e : decide (0 < x1 ∧ 0 ≤ y1) = false := by simp; omega
                have := first_any fa fb W
                rwa [e] at this
              have z1 : ∀ t w, (binOp .neq t (cv r0 i0) (cv 0 0)).run Try.prog w = .ok (.bool true) w := fun t w => by
                have e : decide (-y1 = 0 ∧ x1 = 0) = false := by simp; omega
                rw [neq_run f0 g0, e]; rfl
              have q1 : ∀ W, Calls Try.prog 37 #[cv r0 i0] W fun e w' => e = .returned (.bool true) ∧ Grew W w' := fun W => by
                have e : decide (0 < -y1 ∧ 0 ≤ x1) = true := by simp; omega
                have := first_any f0 g0 W
                rwa [e] at this
              have eX : X = -y1 := by have := HX.out; simp [fqX] at this; omega
              have eY : Y = x1 := by have := HY.out; simp [fqY] at this; omega
              have P := fun W => point_any r0 i0 (-y1) (x1) W f0 g0 (by omega) (by omega)
              rw [← eX, ← eY] at P
              clear eX eY HX HY HG HA HB G1 B1 B2 fa fb fc fd fx fy fu fv B hq m0 f0 g0
              go_wp2_with fail
              refine wp_loop_rounds 2 ?_
              rw [rounds_succ]
              go_wp2_with (go_at_call 37; refine (q0 _).mono ?_; rintro e w' ⟨rfl, ol0, nl0, rfl⟩)
              rw [rounds_succ]
              go_wp2_with (first
                | (go_at_call 37; refine (q1 _).mono ?_; rintro e w' ⟨rfl, ol1, nl1, rfl⟩)
                | (go_at_call 35; refine (P _).mono ?_; rintro e w' ⟨rfl, op, np, rfl⟩))
              refine bodyPost_ret_by (v := .tuple #[pv X Y, .int .i64 0]) ?_ rfl ⟨rfl, ?_⟩
              · simp [results, Try.results22, go_sem]
              · repeat (first | exact Grew.refl _ | apply Grew.drew | apply Grew.drewN | apply Grew.alloc | apply Grew.more)
    · have zz : ∀ t w, (binOp .neq t (cv c d) (cv 0 0)).run Try.prog w = .ok (.bool true) w := fun t w => by
        rw [neq_run fc fd, decide_eq_false hz]; rfl
      have BB := B2.out
      have hn := norm_pos hz
      have hh := rest_half x1 y1 u1 v1 hn
      have hr := rest_ok x1 y1 u1 v1 ⟨BB.1, BB.2.1⟩ ⟨BB.2.2.1, BB.2.2.2⟩ hn
      have s1 := sq_nn (rX x1 y1 u1 v1)
      have s2 := sq_nn (rY x1 y1 u1 v1)
      have G2 : Hid (gl u1 v1 (rX x1 y1 u1 v1) (rY x1 y1 u1 v1) = (gx, gy)) := (gl_step x1 y1 u1 v1 hz).symm.trans G1.out
      obtain ⟨qa, qb, ra, rb, f1, f2, f3, f4, P⟩ := parted_names fa fb fc fd ⟨B.1, B.2.1⟩ ⟨B.2.2.1, B.2.2.2⟩ ⟨BB.1, BB.2.1⟩ ⟨BB.2.2.1, BB.2.2.2⟩ hn
      have B3 : Hid (-1048576 ≤ rX x1 y1 u1 v1 ∧ rX x1 y1 u1 v1 ≤ 1048576 ∧ -1048576 ≤ rY x1 y1 u1 v1 ∧ rY x1 y1 u1 v1 ≤ 1048576) := ⟨hr.1.1, hr.1.2, hr.2.1, hr.2.2⟩
      have M : Hid (cnorm (cv ra rb) < cnorm (cv c d)) := by
        show (fval ra * fval ra + fval rb * fval rb).toNat < (fval c * fval c + fval d * fval d).toNat
        rw [fval_FI f3 (by omega), fval_FI f4 (by omega), fval_FI fc (by omega), fval_FI fd (by omega)]
        omega
      clear f1 f2 hn hh hr s1 s2 hz B BB HX HY HG HA HB G1 B1 fa fb fx fy fu fv
      go_wp2_with (go_at_call 34; refine (P _).mono ?_; rintro e w' ⟨rfl, ol, nl, rfl⟩)
      go_roundw
      case rel => exact ⟨c, d, ra, rb, u1, v1, _, _, l ++ ol, n + nl, rfl, rfl, fc, fd, f3, f4, B2, B3, G2, by first | rfl | simp [go_sem]⟩
      case measure => exact M.out
end Go.Proofs.Ytidknbdckdinlaa
