/-
  The contract of gauss.Div: for every two points.
-/
import Derived.Test.YtnpdecbgakgbgaaGreatDoorMLHDiv
namespace Go.Proofs.YtnpdecbgakgbgaaGreatDoor.Ga
open Go.RowKit
attribute [local go_sem] cell?_more frozen?_more setCell_more more_lt more_more more_drew more_drewN setCell_drewN alloc_drewN
attribute [local go_sem high] cellMA frozenMA setMA cellMAM frozenMAM setMAM cellMAA frozenMAA setMAA cellMAAM frozenMAAM setMAAM cellMAMA frozenMAMA setMAMA cellMAMAM frozenMAMAM setMAMAM cellMAMAMA frozenMAMAMA setMAMAMA cellMAMAMAM frozenMAMAMAM setMAMAMAM

theorem eqPt (a b c d : Int) (w : World) : (Op.equalIn 10000 121 (.agg #[.int .i64 a, .int .i64 b]) (.agg #[.int .i64 c, .int .i64 d])).run Tryz.prog w = .ok (a == c && b == d) w := by
  have u3 := Tryz.underlying3
  have a3 := Tryz.isAgg3
  have z3 := Tryz.sizeOf3
  have hS : Tryz.prog.underlying 121 = some (.struct (Tryz.prog.fieldsOf 121)) := by kernel_rfl
  have hp : Tryz.prog.stoodInHeld 121 = false := by kernel_rfl
  rw [show (10000 : Nat) = 9999 + 1 from rfl, run_equalIn_agg w 9999 121 _ _ hS hp]
  simp only [Program.fieldsOf, Tryz.underlying121]
  go_simp
  by_cases h1 : a = c <;> by_cases h2 : b = d <;> simp [h1, h2]
attribute [local go_sem high] eqPt

set_option maxHeartbeats 1000000 in
theorem div_bad (x y u v : Int) (w : World) (hr : (ok2 x y && ok2 u v) = false) :
    Calls Tryz.prog 116 #[pv x y, pv u v] w fun e w' => e = .returned (.tuple #[pv 0 0, pv 0 0, .int .i64 1]) ∧ Grew w w' := by
  have Ra := fun W => right_any x y W
  have Rb := fun W => right_any u v W
  cases ha : ok2 x y
  · rw [ha] at Ra
    clear Rb hr ha
    go_enter Tryz.func116, Tryz.ntmps116
    go_wp2_with (go_at_call 158; refine (Ra _).mono ?_; rintro e w' ⟨rfl, os, n, rfl⟩)
    refine bodyPost_ret_by (v := .tuple #[pv 0 0, pv 0 0, .int .i64 1]) ?_ rfl ⟨rfl, ?_⟩
    · simp [results, Tryz.results116, go_sem]
    · repeat (first | exact Grew.refl _ | apply Grew.drew | apply Grew.drewN | apply Grew.alloc | apply Grew.more)
  · rw [ha] at Ra hr
    have hb : ok2 u v = false := by simpa using hr
    rw [hb] at Rb
    clear hb hr ha
    go_enter Tryz.func116, Tryz.ntmps116
    go_wp2_with fail
    refine (Ra _).mono ?_
    rintro e w' ⟨rfl, os, n, rfl⟩
    go_wp2_with fail
    refine (Rb _).mono ?_
    rintro e w' ⟨rfl, os', n', rfl⟩
    go_wp2
    refine bodyPost_ret_by (v := .tuple #[pv 0 0, pv 0 0, .int .i64 1]) ?_ rfl ⟨rfl, ?_⟩
    · simp [results, Tryz.results116, go_sem]
    · repeat (first | exact Grew.refl _ | apply Grew.drew | apply Grew.drewN | apply Grew.alloc | apply Grew.more)

set_option maxHeartbeats 1000000 in
theorem div_zero (x y : Int) (w : World) (hr : ok2 x y = true) :
    Calls Tryz.prog 116 #[pv x y, pv 0 0] w fun e w' => e = .returned (.tuple #[pv 0 0, pv 0 0, .int .i64 33]) ∧ Grew w w' := by
  have Ra := fun W => right_any x y W
  have Rb := fun W => right_any 0 0 W
  rw [hr] at Ra
  rw [show ok2 0 0 = true from rfl] at Rb
  clear hr
  go_enter Tryz.func116, Tryz.ntmps116
  go_wp2_with fail
  refine (Ra _).mono ?_
  rintro e w' ⟨rfl, os, n, rfl⟩
  go_wp2_with fail
  refine (Rb _).mono ?_
  rintro e w' ⟨rfl, os', n', rfl⟩
  go_wp2
  refine bodyPost_ret_by (v := .tuple #[pv 0 0, pv 0 0, .int .i64 33]) ?_ rfl ⟨rfl, ?_⟩
  · simp [results, Tryz.results116, go_sem]
  · repeat (first | exact Grew.refl _ | apply Grew.drew | apply Grew.drewN | apply Grew.alloc | apply Grew.more)

set_option maxHeartbeats 2000000 in
theorem div_good (x y u v : Int) (w : World) (ha : ok2 x y = true) (hb : ok2 u v = true) (hn : 0 < u * u + v * v) :
    Calls Tryz.prog 116 #[pv x y, pv u v] w fun e w' => e = .returned (.tuple #[pv (qX x y u v) (qY x y u v), pv (rX x y u v) (rY x y u v), .int .i64 0]) ∧ Grew w w' := by
  have Ra := fun W => right_any x y W
  have Rb := fun W => right_any u v W
  rw [ha] at Ra
  rw [hb] at Rb
  rw [ok2_iff] at ha hb
  have hx : -1048576 ≤ x ∧ x ≤ 1048576 := ⟨ha.1, ha.2.1⟩
  have hy : -1048576 ≤ y ∧ y ≤ 1048576 := ⟨ha.2.2.1, ha.2.2.2⟩
  have hu : -1048576 ≤ u ∧ u ≤ 1048576 := ⟨hb.1, hb.2.1⟩
  have hv : -1048576 ≤ v ∧ v ≤ 1048576 := ⟨hb.2.2.1, hb.2.2.2⟩
  have Na := fun W => number_any x y W
  have Nb := fun W => number_any u v W
  obtain ⟨qa, qb, ra, rb, f1, f2, f3, f4, P⟩ := parted_names (FI_nearest x (by omega)) (FI_nearest y (by omega)) (FI_nearest u (by omega)) (FI_nearest v (by omega)) hx hy hu hv hn
  have hq := quo_ok x y u v hx hy hn
  have hr := rest_ok x y u v hu hv hn
  have P1 := fun W => point_any qa qb _ _ W f1 f2 (by omega) (by omega)
  have P2 := fun W => point_any ra rb _ _ W f3 f4 (by omega) (by omega)
  have hne : ¬ (u = 0 ∧ v = 0) := by
    rintro ⟨rfl, rfl⟩
    exact absurd hn (by decide)
  generalize qX x y u v = c1 at *
  generalize qY x y u v = c2 at *
  generalize rX x y u v = r1 at *
  generalize rY x y u v = r2 at *
  generalize floatOfInt .f64 x = a at *
  generalize floatOfInt .f64 y = b at *
  generalize floatOfInt .f64 u = c at *
  generalize floatOfInt .f64 v = d at *
  clear hx hy hu hv ha hb hn f1 f2 f3 f4 hq hr
  have hd : (u == 0 && v == 0) = false := by simpa using hne
  go_enter Tryz.func116, Tryz.ntmps116
  go_wp2_with fail
  refine (Ra _).mono ?_
  rintro e w' ⟨rfl, os, n, rfl⟩
  go_wp2_with fail
  refine (Rb _).mono ?_
  rintro e w' ⟨rfl, os', n', rfl⟩
  go_wp2_with fail
  clear hd hne
  go_region_held2 (fun W => W.cell? ⟨w.heap.size, 0, none⟩ = some (.int .i64 x) ∧ W.cell? ⟨w.heap.size, 1, none⟩ = some (.int .i64 y) ∧ W.cell? ⟨w.heap.size + 1, 0, none⟩ = some (.int .i64 u) ∧ W.cell? ⟨w.heap.size + 1, 1, none⟩ = some (.int .i64 v)) (simp (maxDischargeDepth := 12) [go_sem])
    ((first
      | (go_at_call_of 159 (Value.int IntKind.i64 x); refine (Na _).mono ?_; rintro e w' ⟨rfl, os1, n1, rfl⟩)
      | (go_at_call_of 159 (Value.int IntKind.i64 u); refine (Nb _).mono ?_; rintro e w' ⟨rfl, os2, n2, rfl⟩)
      | (go_at_call 173; refine (P _).mono ?_; rintro e w' ⟨rfl, os3, n3, rfl⟩)))
  all_goals go_wp2_with (first
    | (go_at_call_of 160 (cv qa qb); refine (P1 _).mono ?_; rintro e w' ⟨rfl, os4, n4, rfl⟩)
    | (go_at_call_of 160 (cv ra rb); refine (P2 _).mono ?_; rintro e w' ⟨rfl, os5, n5, rfl⟩))
  all_goals refine bodyPost_ret_by (v := .tuple #[pv c1 c2, pv r1 r2, .int .i64 0]) ?_ rfl ⟨rfl, ?_⟩
  all_goals first
    | (simp [results, Tryz.results116, go_sem]; done)
    | (repeat (first | exact Grew.refl _ | apply Grew.drew | apply Grew.drewN | apply Grew.alloc | apply Grew.more))
end Go.Proofs.YtnpdecbgakgbgaaGreatDoor.Ga
