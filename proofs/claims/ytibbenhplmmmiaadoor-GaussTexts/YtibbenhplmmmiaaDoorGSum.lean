/-
  Contracts of package gauss: Add, Sub, Mul: for every two points.
-/
import Derived.Test.YtibbenhplmmmiaaDoorGArith
namespace Go.Proofs.YtibbenhplmmmiaaDoor
open Go.RowKit
attribute [local go_sem] cell?_more frozen?_more setCell_more more_lt more_more more_drew more_drewN setCell_drewN alloc_drewN
attribute [local go_sem high] cellMA frozenMA setMA cellMAM frozenMAM setMAM cellMAA frozenMAA setMAA cellMAAM frozenMAAM setMAAM cellMAMA frozenMAMA setMAMA cellMAMAM frozenMAMAM setMAMAM cellMAMAMA frozenMAMAMA setMAMAMA cellMAMAMAM frozenMAMAMAM setMAMAMAM

set_option maxHeartbeats 2000000 in
theorem mul_good (x y u v : Int) (w : World) (ha : ok2 x y = true) (hb : ok2 u v = true) :
    Calls Tryd.prog 20 #[pv x y, pv u v] w fun e w' => e = .returned (tv (x * u - y * v) (x * v + y * u)) ∧ Grew w w' := by
  have Ra := fun W => right_any x y W
  have Rb := fun W => right_any u v W
  rw [ha] at Ra
  rw [hb] at Rb
  rw [ok2_iff] at ha hb
  have Na := fun W => number_any x y W
  have Nb := fun W => number_any u v W
  have m1 := mul_bd (A := 1048576) (B := 1048576) (by decide) ha.1 ha.2.1 hb.1 hb.2.1
  have m2 := mul_bd (A := 1048576) (B := 1048576) (by decide) ha.2.2.1 ha.2.2.2 hb.2.2.1 hb.2.2.2
  have m3 := mul_bd (A := 1048576) (B := 1048576) (by decide) ha.1 ha.2.1 hb.2.2.1 hb.2.2.2
  have m4 := mul_bd (A := 1048576) (B := 1048576) (by decide) ha.2.2.1 ha.2.2.2 hb.1 hb.2.1
  obtain ⟨re, im, hm, f1, f2⟩ := cmul_names 1048576 1048576 (by decide) (by decide) (FI_nearest x (by omega)) (FI_nearest y (by omega)) (FI_nearest u (by omega)) (FI_nearest v (by omega)) (by omega) (by omega) (by omega) (by omega) (by omega) (by omega) (by omega) (by omega)
  have T := fun W => told_any re im (x * u - y * v) (x * v + y * u) W f1 f2 (by omega) (by omega)
  have hop := fun t w => run_complex_mul (P := Tryd.prog) w t _ _ _ _ re im hm
  unfold tv at T ⊢
  generalize tX (x * u - y * v) (x * v + y * u) = X at *
  generalize tY (x * u - y * v) (x * v + y * u) = Y at *
  generalize tE (x * u - y * v) (x * v + y * u) = E at *
  generalize floatOfInt .f64 x = a at *
  generalize floatOfInt .f64 y = b at *
  generalize floatOfInt .f64 u = c at *
  generalize floatOfInt .f64 v = d at *
  clear f1 f2 hm m1 m2 m3 m4 ha hb
  go_enter Tryd.func20, Tryd.ntmps20
  go_wp2_with fail
  refine (Ra _).mono ?_
  rintro e w' ⟨rfl, os, n, rfl⟩
  go_wp2_with fail
  refine (Rb _).mono ?_
  rintro e w' ⟨rfl, os', n', rfl⟩
  go_wp2_with fail
  go_region_held2 (fun W => W.cell? ⟨w.heap.size, 0, none⟩ = some (.int .i64 x) ∧ W.cell? ⟨w.heap.size, 1, none⟩ = some (.int .i64 y) ∧ W.cell? ⟨w.heap.size + 1, 0, none⟩ = some (.int .i64 u) ∧ W.cell? ⟨w.heap.size + 1, 1, none⟩ = some (.int .i64 v)) (simp (maxDischargeDepth := 12) [go_sem])
    ((first
      | (go_at_call_of 34 (Value.int IntKind.i64 x); refine (Na _).mono ?_; rintro e w' ⟨rfl, os1, n1, rfl⟩)
      | (go_at_call_of 34 (Value.int IntKind.i64 u); refine (Nb _).mono ?_; rintro e w' ⟨rfl, os2, n2, rfl⟩)
      | (go_at_call 33; refine (T _).mono ?_; rintro e w' ⟨rfl, os3, n3, rfl⟩)))
  all_goals go_wp2_with fail
  all_goals refine bodyPost_ret_by (v := .tuple #[pv X Y, .int .i64 E]) ?_ rfl ⟨rfl, ?_⟩
  all_goals first
    | (simp [results, Tryd.results20, go_sem]; done)
    | (repeat (first | exact Grew.refl _ | apply Grew.drew | apply Grew.drewN | apply Grew.alloc | apply Grew.more))
end Go.Proofs.YtibbenhplmmmiaaDoor
