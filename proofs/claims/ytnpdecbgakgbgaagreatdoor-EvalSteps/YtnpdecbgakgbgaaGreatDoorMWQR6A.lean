/-
  The document's answers for points: Div and Turn: for every point.
  The document's answers for eval: points.
  The document's answers for eval: reckon.
  The document's answers for eval: Binary, path by path.
-/
import Derived.Test.YtnpdecbgakgbgaaGreatDoorMVHRef2
import Derived.Test.YtnpdecbgakgbgaaGreatDoorMFQUn
import Derived.Test.YtnpdecbgakgbgaaGreatDoorQR1
import Derived.Test.YtnpdecbgakgbgaaGreatDoorMPHRef4
import Derived.Test.YtnpdecbgakgbgaaGreatDoorMRDResc
import Derived.Test.YtnpdecbgakgbgaaGreatDoorMCQTru
import Derived.Test.YtnpdecbgakgbgaaGreatDoorMDQFun0
namespace Go.Proofs.YtnpdecbgakgbgaaGreatDoor.Ga
open Go.RowKit
attribute [local go_sem] cell?_more frozen?_more setCell_more more_lt more_more more_drew more_drewN setCell_drewN alloc_drewN
attribute [local go_sem high] cellMA frozenMA setMA cellMAM frozenMAM setMAM cellMAA frozenMAA setMAA cellMAAM frozenMAAM setMAAM cellMAMA frozenMAMA setMAMA cellMAMAM frozenMAMAM setMAMAM cellMAMAMA frozenMAMAMA setMAMAMA cellMAMAMAM frozenMAMAMAM setMAMAMAM size_blank4

set_option maxHeartbeats 1000000 in
theorem rdiv_bad (x y u v : Int) (w : World) (hr : (ok2 x y && ok2 u v) = false) :
    Calls Tryz.prog 184 #[pv x y, pv u v] w fun e w' => e = .returned (.tuple #[pv 0 0, pv 0 0, .int .i64 1]) ∧ Grew w w' := by
  have Ra := fun W => rright_any x y W
  have Rb := fun W => rright_any u v W
  cases ha : ok2 x y
  · rw [ha] at Ra
    clear Rb hr ha
    go_enter Tryz.func184, Tryz.ntmps184
    go_wp2_with (go_at_call 75; refine (Ra _).mono ?_; rintro e w' ⟨rfl, os, n, rfl⟩)
    refine bodyPost_ret_by (v := .tuple #[pv 0 0, pv 0 0, .int .i64 1]) ?_ rfl ⟨rfl, ?_⟩
    · simp [results, Tryz.results184, go_sem]
    · repeat (first | exact Grew.refl _ | apply Grew.drew | apply Grew.drewN | apply Grew.alloc | apply Grew.more)
  · rw [ha] at Ra hr
    have hb : ok2 u v = false := by simpa using hr
    rw [hb] at Rb
    clear hb hr ha
    go_enter Tryz.func184, Tryz.ntmps184
    go_wp2_with fail
    refine (Ra _).mono ?_
    rintro e w' ⟨rfl, os, n, rfl⟩
    go_wp2_with fail
    refine (Rb _).mono ?_
    rintro e w' ⟨rfl, os', n', rfl⟩
    go_wp2
    refine bodyPost_ret_by (v := .tuple #[pv 0 0, pv 0 0, .int .i64 1]) ?_ rfl ⟨rfl, ?_⟩
    · simp [results, Tryz.results184, go_sem]
    · repeat (first | exact Grew.refl _ | apply Grew.drew | apply Grew.drewN | apply Grew.alloc | apply Grew.more)

set_option maxHeartbeats 1000000 in
theorem rdiv_zero (x y : Int) (w : World) (hr : ok2 x y = true) :
    Calls Tryz.prog 184 #[pv x y, pv 0 0] w fun e w' => e = .returned (.tuple #[pv 0 0, pv 0 0, .int .i64 33]) ∧ Grew w w' := by
  have Ra := fun W => rright_any x y W
  have Rb := fun W => rright_any 0 0 W
  have Nn : ∀ W, Calls Tryz.prog 74 #[pv 0 0] W fun e w' => e = .returned (.int .i64 0) ∧ Grew W w' := fun W => rnorm_any 0 0 W
  rw [hr] at Ra
  rw [show ok2 0 0 = true from rfl] at Rb
  clear hr
  go_enter Tryz.func184, Tryz.ntmps184
  go_wp2_with fail
  refine (Ra _).mono ?_
  rintro e w' ⟨rfl, os, n, rfl⟩
  go_wp2_with fail
  refine (Rb _).mono ?_
  rintro e w' ⟨rfl, os', n', rfl⟩
  go_wp2_with (go_at_call 74; refine (Nn _).mono ?_; rintro e w' ⟨rfl, os2, n2, rfl⟩)
  refine bodyPost_ret_by (v := .tuple #[pv 0 0, pv 0 0, .int .i64 33]) ?_ rfl ⟨rfl, ?_⟩
  · simp [results, Tryz.results184, go_sem]
  · repeat (first | exact Grew.refl _ | apply Grew.drew | apply Grew.drewN | apply Grew.alloc | apply Grew.more)

set_option maxHeartbeats 4000000 in
theorem rdiv_good (x y u v : Int) (w : World) (ha : ok2 x y = true) (hb : ok2 u v = true) (hn : 0 < u * u + v * v) :
    Calls Tryz.prog 184 #[pv x y, pv u v] w fun e w' => e = .returned (.tuple #[pv (qX x y u v) (qY x y u v), pv (rX x y u v) (rY x y u v), .int .i64 0]) ∧ Grew w w' := by
  have P := fun W => rparts_any x y u v W ha hb hn
  have Ra := fun W => rright_any x y W
  have Rb := fun W => rright_any u v W
  rw [ha] at Ra
  rw [hb] at Rb
  have Nn := fun W => rnorm_any u v W
  have hnn : ¬ nrm u v = 0 := by rw [show nrm u v = u * u + v * v by simp [nrm, hb]]; omega
  rw [ok2_iff] at ha hb
  have hq := quo_ok x y u v ⟨ha.1, ha.2.1⟩ ⟨ha.2.2.1, ha.2.2.2⟩ hn
  have hr := rest_ok x y u v ⟨hb.1, hb.2.1⟩ ⟨hb.2.2.1, hb.2.2.2⟩ hn
  have Rc := fun W => rright_any (qX x y u v) (qY x y u v) W
  have Rd := fun W => rright_any (rX x y u v) (rY x y u v) W
  rw [(ok2_iff _ _).2 ⟨hq.1.1, hq.1.2, hq.2.1, hq.2.2⟩] at Rc
  rw [(ok2_iff _ _).2 ⟨hr.1.1, hr.1.2, hr.2.1, hr.2.2⟩] at Rd
  generalize qX x y u v = c1 at *
  generalize qY x y u v = c2 at *
  generalize rX x y u v = r1 at *
  generalize rY x y u v = r2 at *
  generalize nrm u v = nn at *
  clear hq hr ha hb hn
  go_enter Tryz.func184, Tryz.ntmps184
  go_wp2_with fail
  refine (Ra _).mono ?_
  rintro e w' ⟨rfl, os, n, rfl⟩
  go_wp2_with fail
  refine (Rb _).mono ?_
  rintro e w' ⟨rfl, os', n', rfl⟩
  go_wp2_with (first
    | (go_at_call 74; refine (Nn _).mono ?_; rintro e w' ⟨rfl, os2, n2, rfl⟩)
    | (go_at_call 217; refine (P _).mono ?_; rintro e w' ⟨rfl, os3, n3, rfl⟩))
  refine (Rc _).mono ?_
  rintro e w' ⟨rfl, os4, n4, rfl⟩
  go_wp2_with fail
  refine (Rd _).mono ?_
  rintro e w' ⟨rfl, os5, n5, rfl⟩
  go_wp2_with fail
  go_region_held2 (fun W => W.cell? ⟨(more ((((w.alloc blank).alloc blank).alloc blank).alloc blank) (os ++ (os' ++ (os2 ++ os3)))).heap.size, 0, none⟩ = some (.int .i64 c1) ∧ W.cell? ⟨(more ((((w.alloc blank).alloc blank).alloc blank).alloc blank) (os ++ (os' ++ (os2 ++ os3)))).heap.size, 1, none⟩ = some (.int .i64 c2) ∧
    W.cell? ⟨(more ((((w.alloc blank).alloc blank).alloc blank).alloc blank) (os ++ (os' ++ (os2 ++ os3)))).heap.size + 1, 0, none⟩ = some (.int .i64 r1) ∧ W.cell? ⟨(more ((((w.alloc blank).alloc blank).alloc blank).alloc blank) (os ++ (os' ++ (os2 ++ os3)))).heap.size + 1, 1, none⟩ = some (.int .i64 r2)) (simp (maxDischargeDepth := 12) [go_sem]) (fail)
  all_goals go_wp2_with fail
  all_goals refine bodyPost_ret_by (v := .tuple #[pv c1 c2, pv r1 r2, .int .i64 0]) ?_ rfl ⟨rfl, ?_⟩
  all_goals first
    | (simp [results, Tryz.results184, go_sem]; done)
    | (repeat (first | exact Grew.refl _ | apply Grew.drew | apply Grew.drewN | apply Grew.alloc | apply Grew.more))
end Go.Proofs.YtnpdecbgakgbgaaGreatDoor.Ga

namespace Go.Proofs.YtnpdecbgakgbgaaGreatDoor
open Go.RowKit Go.Shelf
attribute [local go_sem] cell?_more frozen?_more setCell_more more_lt more_more more_drew more_drewN setCell_drewN alloc_drewN
attribute [local go_sem high] Ga.cellMA Ga.frozenMA Ga.setMA Ga.cellMAM Ga.frozenMAM Ga.setMAM Ga.cellMAA Ga.frozenMAA Ga.setMAA Ga.cellMAAM Ga.frozenMAAM Ga.setMAAM Ga.cellMAMA Ga.frozenMAMA Ga.setMAMA Ga.cellMAMAM Ga.frozenMAMAM Ga.setMAMAM Ga.cellMAMAMA Ga.frozenMAMAMA Ga.setMAMAMA Ga.cellMAMAMAM Ga.frozenMAMAMAM Ga.setMAMAMAM Ga.size_blank

set_option maxHeartbeats 2000000 in
theorem rpt_9 (an am bn bm x y z : Int) (w : World) (D : ∀ W, Calls Tryz.prog 182 #[dv an am, dv bn bm] W fun e w' => e = .returned (.tuple #[dv x y, .int .i64 z]) ∧ Grew W w') :
    Calls Tryz.prog 122 #[.int .i64 9, dv an am, dv bn bm] w fun e w' => e = .returned (rs (placedR x y z)) ∧ Grew w w' := by
  have H := fun n s x W => rofPoint_any n s x W
  go_enter Tryz.func122, Tryz.ntmps122
  go_wp2_with (first
    | (go_at_call 182; refine (D _).mono ?_; rintro e w1 ⟨rfl, os1, n1, rfl⟩)
    | (go_at_call 47; refine (H _ _ _ _).mono ?_; rintro e w1 ⟨rfl, os2, n2, rfl⟩))
  refine bodyPost_ret_by (v := rs (placedR x y z)) ?_ rfl ⟨rfl, (by repeat (first | assumption | exact Grew.refl _ | apply Grew.drew | apply Grew.drewN | apply Grew.alloc | apply Grew.more))⟩
  simp [results, Tryz.results122, go_sem]

set_option maxHeartbeats 2000000 in
theorem rpt_10 (an am bn bm x y z : Int) (w : World) (D : ∀ W, Calls Tryz.prog 183 #[dv an am, dv bn bm] W fun e w' => e = .returned (.tuple #[dv x y, .int .i64 z]) ∧ Grew W w') :
    Calls Tryz.prog 122 #[.int .i64 10, dv an am, dv bn bm] w fun e w' => e = .returned (rs (placedR x y z)) ∧ Grew w w' := by
  have H := fun n s x W => rofPoint_any n s x W
  go_enter Tryz.func122, Tryz.ntmps122
  go_wp2_with (first
    | (go_at_call 183; refine (D _).mono ?_; rintro e w1 ⟨rfl, os1, n1, rfl⟩)
    | (go_at_call 47; refine (H _ _ _ _).mono ?_; rintro e w1 ⟨rfl, os2, n2, rfl⟩))
  refine bodyPost_ret_by (v := rs (placedR x y z)) ?_ rfl ⟨rfl, (by repeat (first | assumption | exact Grew.refl _ | apply Grew.drew | apply Grew.drewN | apply Grew.alloc | apply Grew.more))⟩
  simp [results, Tryz.results122, go_sem]

set_option maxHeartbeats 2000000 in
theorem rpt_6 (an am bn bm x y z : Int) (w : World) (D : ∀ W, Calls Tryz.prog 181 #[dv an am, dv bn bm] W fun e w' => e = .returned (.tuple #[dv x y, .int .i64 z]) ∧ Grew W w') :
    Calls Tryz.prog 122 #[.int .i64 6, dv an am, dv bn bm] w fun e w' => e = .returned (rs (placedR x y z)) ∧ Grew w w' := by
  have H := fun n s x W => rofPoint_any n s x W
  go_enter Tryz.func122, Tryz.ntmps122
  go_wp2_with (first
    | (go_at_call 181; refine (D _).mono ?_; rintro e w1 ⟨rfl, os1, n1, rfl⟩)
    | (go_at_call 47; refine (H _ _ _ _).mono ?_; rintro e w1 ⟨rfl, os2, n2, rfl⟩))
  refine bodyPost_ret_by (v := rs (placedR x y z)) ?_ rfl ⟨rfl, (by repeat (first | assumption | exact Grew.refl _ | apply Grew.drew | apply Grew.drewN | apply Grew.alloc | apply Grew.more))⟩
  simp [results, Tryz.results122, go_sem]

set_option maxHeartbeats 2000000 in
theorem rpt_7 (an am bn bm x y u v z : Int) (w : World) (D : ∀ W, Calls Tryz.prog 184 #[dv an am, dv bn bm] W fun e w' => e = .returned (.tuple #[dv x y, dv u v, .int .i64 z]) ∧ Grew W w') :
    Calls Tryz.prog 122 #[.int .i64 7, dv an am, dv bn bm] w fun e w' => e = .returned (rs (placedR x y z)) ∧ Grew w w' := by
  have H := fun n s x W => rofPoint_any n s x W
  go_enter Tryz.func122, Tryz.ntmps122
  go_wp2_with (first
    | (go_at_call 184; refine (D _).mono ?_; rintro e w1 ⟨rfl, os1, n1, rfl⟩)
    | (go_at_call 47; refine (H _ _ _ _).mono ?_; rintro e w1 ⟨rfl, os2, n2, rfl⟩))
  refine bodyPost_ret_by (v := rs (placedR x y z)) ?_ rfl ⟨rfl, (by repeat (first | assumption | exact Grew.refl _ | apply Grew.drew | apply Grew.drewN | apply Grew.alloc | apply Grew.more))⟩
  simp [results, Tryz.results122, go_sem]

set_option maxHeartbeats 2000000 in
theorem rpt_8 (an am bn bm x y u v z : Int) (w : World) (D : ∀ W, Calls Tryz.prog 184 #[dv an am, dv bn bm] W fun e w' => e = .returned (.tuple #[dv x y, dv u v, .int .i64 z]) ∧ Grew W w') :
    Calls Tryz.prog 122 #[.int .i64 8, dv an am, dv bn bm] w fun e w' => e = .returned (rs (placedR u v z)) ∧ Grew w w' := by
  have H := fun n s x W => rofPoint_any n s x W
  go_enter Tryz.func122, Tryz.ntmps122
  go_wp2_with (first
    | (go_at_call 184; refine (D _).mono ?_; rintro e w1 ⟨rfl, os1, n1, rfl⟩)
    | (go_at_call 47; refine (H _ _ _ _).mono ?_; rintro e w1 ⟨rfl, os2, n2, rfl⟩))
  refine bodyPost_ret_by (v := rs (placedR u v z)) ?_ rfl ⟨rfl, (by repeat (first | assumption | exact Grew.refl _ | apply Grew.drew | apply Grew.drewN | apply Grew.alloc | apply Grew.more))⟩
  simp [results, Tryz.results122, go_sem]

theorem rpoints7_any (op : Int) (a b : Va) (w : World) (h1 : 6 ≤ op) (h2 : op ≤ 10) (ha : Ga.ok2 a.n a.m = true) (hb : Ga.ok2 b.n b.m = true) :
    Calls Tryz.prog 122 #[.int .i64 op, dv a.n a.m, dv b.n b.m] w fun e w' => e = .returned (rs (ptsR op a b)) ∧ Grew w w' := by
  unfold ptsR ptR
  rcases (by omega : op = 9 ∨ op = 10 ∨ op = 6 ∨ op = 7 ∨ op = 8) with rfl | rfl | rfl | rfl | rfl
  · exact rpt_9 _ _ _ _ _ _ _ w (fun W => Ga.radd_good a.n a.m b.n b.m W ha hb)
  · exact rpt_10 _ _ _ _ _ _ _ w (fun W => Ga.rsub_good a.n a.m b.n b.m W ha hb)
  · exact rpt_6 _ _ _ _ _ _ _ w (fun W => Ga.rmul_good a.n a.m b.n b.m W ha hb)
  · rw [if_neg (by decide), if_neg (by decide), if_neg (by decide), if_pos rfl]
    by_cases hz : b.n = 0 ∧ b.m = 0
    · rw [if_pos hz, hz.1, hz.2]
      exact rpt_7 _ _ _ _ _ _ _ _ _ w (fun W => Ga.rdiv_zero a.n a.m W ha)
    · rw [if_neg hz]
      exact rpt_7 _ _ _ _ _ _ _ _ _ w (fun W => Ga.rdiv_good a.n a.m b.n b.m W ha hb (Ga.norm_pos hz))
  · rw [if_neg (by decide), if_neg (by decide), if_neg (by decide), if_neg (by decide), if_pos rfl]
    by_cases hz : b.n = 0 ∧ b.m = 0
    · rw [if_pos hz, hz.1, hz.2]
      exact rpt_8 _ _ _ _ _ _ _ _ _ w (fun W => Ga.rdiv_zero a.n a.m W ha)
    · rw [if_neg hz]
      exact rpt_8 _ _ _ _ _ _ _ _ _ w (fun W => Ga.rdiv_good a.n a.m b.n b.m W ha hb (Ga.norm_pos hz))
end Go.Proofs.YtnpdecbgakgbgaaGreatDoor

namespace Go.Proofs.YtnpdecbgakgbgaaGreatDoor
open Go.RowKit Go.Shelf
attribute [local go_sem] cell?_more frozen?_more setCell_more more_lt more_more more_drew more_drewN setCell_drewN alloc_drewN

set_option maxHeartbeats 4000000 in
theorem reck_ints (op : Int) (an am bn bm : Int) (ab bb : ByteArray) (w : World) (x z : Int) (I : ∀ W, Calls Tryz.prog 120 #[.int .i64 op, .int .i64 an, .int .i64 bn] W fun e w' => e = .returned (.tuple #[.int .i64 x, .int .i64 z]) ∧ Grew W w')  :
    Calls Tryz.prog 61 #[.int .i64 op, va 1 an am ab, va 1 bn bm bb] w fun e w' => e = .returned (rs (wholeR x z)) ∧ Grew w w' := by
  have NB := fun k n m b W => rnumber7_any k n m b W
  go_enter Tryz.func61, Tryz.ntmps61
  have H := fun n x W => rofInt_any n x W
  go_wp2_with (first
    | (go_at_call 62; refine (NB _ _ _ _ _).mono ?_; rintro e w1 ⟨rfl, os0, n0, rfl⟩)
    | (go_at_call 120; refine (I _).mono ?_; rintro e w1 ⟨rfl, os1, n1, rfl⟩)
    | (go_at_call 45; refine (H _ _ _).mono ?_; rintro e w1 ⟨rfl, os2, n2, rfl⟩))
  refine bodyPost_ret_by (v := rs (wholeR x z)) ?_ rfl ⟨rfl, (by repeat (first | assumption | exact Grew.refl _ | apply Grew.drew | apply Grew.drewN | apply Grew.alloc | apply Grew.more))⟩
  simp [results, Tryz.results61, go_sem]

set_option maxHeartbeats 4000000 in
theorem reck_n12 (op : Int) (an am bn bm : Int) (ab bb : ByteArray) (w : World) (r : Va × Int) (D : ∀ W, Calls Tryz.prog 121 #[.int .i64 op, dv an am, dv bn bm] W fun e w' => e = .returned (rs r) ∧ Grew W w')  :
    Calls Tryz.prog 61 #[.int .i64 op, va 1 an am ab, va 2 bn bm bb] w fun e w' => e = .returned (rs r) ∧ Grew w w' := by
  have NB := fun k n m b W => rnumber7_any k n m b W
  go_enter Tryz.func61, Tryz.ntmps61
  have U := fun k n m b W => rdec7_any k n m b W
  go_wp2_with (first
    | (go_at_call 62; refine (NB _ _ _ _ _).mono ?_; rintro e w1 ⟨rfl, os0, n0, rfl⟩))
  go_region_held2 (fun W => W.cell? ⟨w.heap.size, 0, none⟩ = some (.int .i64 1) ∧ W.cell? ⟨w.heap.size, 1, none⟩ = some (.int .i64 an) ∧ W.cell? ⟨w.heap.size, 2, none⟩ = some (.int .i64 am) ∧ W.cell? ⟨w.heap.size, 3, none⟩ = some (.string ab) ∧
      W.cell? ⟨w.heap.size + 1, 0, none⟩ = some (.int .i64 2) ∧ W.cell? ⟨w.heap.size + 1, 1, none⟩ = some (.int .i64 bn) ∧ W.cell? ⟨w.heap.size + 1, 2, none⟩ = some (.int .i64 bm) ∧ W.cell? ⟨w.heap.size + 1, 3, none⟩ = some (.string bb)) (simp (maxDischargeDepth := 12) [go_sem]) (first
    | (go_at_call 44; refine (U _ _ _ _ _).mono ?_; rintro e w1 ⟨rfl, os1, n1, rfl⟩)
    | (go_at_call 121; refine (D _).mono ?_; rintro e w2 ⟨rfl, os2, n2, rfl⟩))
  go_wp2
  refine bodyPost_ret_by (v := rs r) ?_ rfl ⟨rfl, (by repeat (first | assumption | exact Grew.refl _ | apply Grew.drew | apply Grew.drewN | apply Grew.alloc | apply Grew.more))⟩
  simp [results, Tryz.results61, go_sem]

set_option maxHeartbeats 4000000 in
theorem reck_n21 (op : Int) (an am bn bm : Int) (ab bb : ByteArray) (w : World) (r : Va × Int) (D : ∀ W, Calls Tryz.prog 121 #[.int .i64 op, dv an am, dv bn bm] W fun e w' => e = .returned (rs r) ∧ Grew W w')  :
    Calls Tryz.prog 61 #[.int .i64 op, va 2 an am ab, va 1 bn bm bb] w fun e w' => e = .returned (rs r) ∧ Grew w w' := by
  have NB := fun k n m b W => rnumber7_any k n m b W
  go_enter Tryz.func61, Tryz.ntmps61
  have U := fun k n m b W => rdec7_any k n m b W
  go_wp2_with (first
    | (go_at_call 62; refine (NB _ _ _ _ _).mono ?_; rintro e w1 ⟨rfl, os0, n0, rfl⟩))
  go_region_held2 (fun W => W.cell? ⟨w.heap.size, 0, none⟩ = some (.int .i64 2) ∧ W.cell? ⟨w.heap.size, 1, none⟩ = some (.int .i64 an) ∧ W.cell? ⟨w.heap.size, 2, none⟩ = some (.int .i64 am) ∧ W.cell? ⟨w.heap.size, 3, none⟩ = some (.string ab) ∧
      W.cell? ⟨w.heap.size + 1, 0, none⟩ = some (.int .i64 1) ∧ W.cell? ⟨w.heap.size + 1, 1, none⟩ = some (.int .i64 bn) ∧ W.cell? ⟨w.heap.size + 1, 2, none⟩ = some (.int .i64 bm) ∧ W.cell? ⟨w.heap.size + 1, 3, none⟩ = some (.string bb)) (simp (maxDischargeDepth := 12) [go_sem]) (first
    | (go_at_call 44; refine (U _ _ _ _ _).mono ?_; rintro e w1 ⟨rfl, os1, n1, rfl⟩)
    | (go_at_call 121; refine (D _).mono ?_; rintro e w2 ⟨rfl, os2, n2, rfl⟩))
  go_wp2
  refine bodyPost_ret_by (v := rs r) ?_ rfl ⟨rfl, (by repeat (first | assumption | exact Grew.refl _ | apply Grew.drew | apply Grew.drewN | apply Grew.alloc | apply Grew.more))⟩
  simp [results, Tryz.results61, go_sem]

set_option maxHeartbeats 4000000 in
theorem reck_n22 (op : Int) (an am bn bm : Int) (ab bb : ByteArray) (w : World) (r : Va × Int) (D : ∀ W, Calls Tryz.prog 121 #[.int .i64 op, dv an am, dv bn bm] W fun e w' => e = .returned (rs r) ∧ Grew W w')  :
    Calls Tryz.prog 61 #[.int .i64 op, va 2 an am ab, va 2 bn bm bb] w fun e w' => e = .returned (rs r) ∧ Grew w w' := by
  have NB := fun k n m b W => rnumber7_any k n m b W
  go_enter Tryz.func61, Tryz.ntmps61
  have U := fun k n m b W => rdec7_any k n m b W
  go_wp2_with (first
    | (go_at_call 62; refine (NB _ _ _ _ _).mono ?_; rintro e w1 ⟨rfl, os0, n0, rfl⟩))
  go_region_held2 (fun W => W.cell? ⟨w.heap.size, 0, none⟩ = some (.int .i64 2) ∧ W.cell? ⟨w.heap.size, 1, none⟩ = some (.int .i64 an) ∧ W.cell? ⟨w.heap.size, 2, none⟩ = some (.int .i64 am) ∧ W.cell? ⟨w.heap.size, 3, none⟩ = some (.string ab) ∧
      W.cell? ⟨w.heap.size + 1, 0, none⟩ = some (.int .i64 2) ∧ W.cell? ⟨w.heap.size + 1, 1, none⟩ = some (.int .i64 bn) ∧ W.cell? ⟨w.heap.size + 1, 2, none⟩ = some (.int .i64 bm) ∧ W.cell? ⟨w.heap.size + 1, 3, none⟩ = some (.string bb)) (simp (maxDischargeDepth := 12) [go_sem]) (first
    | (go_at_call 44; refine (U _ _ _ _ _).mono ?_; rintro e w1 ⟨rfl, os1, n1, rfl⟩)
    | (go_at_call 121; refine (D _).mono ?_; rintro e w2 ⟨rfl, os2, n2, rfl⟩))
  go_wp2
  refine bodyPost_ret_by (v := rs r) ?_ rfl ⟨rfl, (by repeat (first | assumption | exact Grew.refl _ | apply Grew.drew | apply Grew.drewN | apply Grew.alloc | apply Grew.more))⟩
  simp [results, Tryz.results61, go_sem]

set_option maxHeartbeats 4000000 in
theorem reck_pts (op : Int) (an am bn bm : Int) (ab bb : ByteArray) (w : World) (r : Va × Int) (D : ∀ W, Calls Tryz.prog 122 #[.int .i64 op, dv an am, dv bn bm] W fun e w' => e = .returned (rs r) ∧ Grew W w')  :
    Calls Tryz.prog 61 #[.int .i64 op, va 5 an am ab, va 5 bn bm bb] w fun e w' => e = .returned (rs r) ∧ Grew w w' := by
  have NB := fun k n m b W => rnumber7_any k n m b W
  go_enter Tryz.func61, Tryz.ntmps61
  have U := fun k n m b W => rpoint7_any k n m b W
  go_wp2_with (first
    | (go_at_call 62; refine (NB _ _ _ _ _).mono ?_; rintro e w1 ⟨rfl, os0, n0, rfl⟩))
  go_region_held2 (fun W => W.cell? ⟨w.heap.size, 0, none⟩ = some (.int .i64 5) ∧ W.cell? ⟨w.heap.size, 1, none⟩ = some (.int .i64 an) ∧ W.cell? ⟨w.heap.size, 2, none⟩ = some (.int .i64 am) ∧ W.cell? ⟨w.heap.size, 3, none⟩ = some (.string ab) ∧
      W.cell? ⟨w.heap.size + 1, 0, none⟩ = some (.int .i64 5) ∧ W.cell? ⟨w.heap.size + 1, 1, none⟩ = some (.int .i64 bn) ∧ W.cell? ⟨w.heap.size + 1, 2, none⟩ = some (.int .i64 bm) ∧ W.cell? ⟨w.heap.size + 1, 3, none⟩ = some (.string bb)) (simp (maxDischargeDepth := 12) [go_sem]) (first
    | (go_at_call 49; refine (U _ _ _ _ _).mono ?_; rintro e w1 ⟨rfl, os1, n1, rfl⟩)
    | (go_at_call 122; refine (D _).mono ?_; rintro e w2 ⟨rfl, os2, n2, rfl⟩))
  go_wp2
  refine bodyPost_ret_by (v := rs r) ?_ rfl ⟨rfl, (by repeat (first | assumption | exact Grew.refl _ | apply Grew.drew | apply Grew.drewN | apply Grew.alloc | apply Grew.more))⟩
  simp [results, Tryz.results61, go_sem]

set_option maxHeartbeats 4000000 in
theorem reck_over (an am bn bm : Int) (ab bb : ByteArray) (w : World) (hs : (256 : Int) < (ab.size : Int) + (bb.size : Int)) (hw : IntKind.i64.wrap ((ab.size : Int) + (bb.size : Int)) = (ab.size : Int) + (bb.size : Int))  :
    Calls Tryz.prog 61 #[.int .i64 9, va 3 an am ab, va 3 bn bm bb] w fun e w' => e = .returned (.tuple #[va 0 0 0 ⟨#[]⟩, .int .i64 32]) ∧ Grew w w' := by
  have NB := fun k n m b W => rnumber7_any k n m b W
  go_enter Tryz.func61, Tryz.ntmps61
  go_wp2_with (first
    | (go_at_call 62; refine (NB _ _ _ _ _).mono ?_; rintro e w1 ⟨rfl, os0, n0, rfl⟩))
  refine bodyPost_ret_by (v := .tuple #[va 0 0 0 ⟨#[]⟩, .int .i64 32]) ?_ rfl ⟨rfl, (by repeat (first | assumption | exact Grew.refl _ | apply Grew.drew | apply Grew.drewN | apply Grew.alloc | apply Grew.more))⟩
  simp [results, Tryz.results61, go_sem]

set_option maxHeartbeats 4000000 in
theorem reck_join (an am bn bm : Int) (ab bb : ByteArray) (w : World) (hs : ¬ (256 : Int) < (ab.size : Int) + (bb.size : Int)) (hw : IntKind.i64.wrap ((ab.size : Int) + (bb.size : Int)) = (ab.size : Int) + (bb.size : Int))  :
    Calls Tryz.prog 61 #[.int .i64 9, va 3 an am ab, va 3 bn bm bb] w fun e w' => e = .returned (.tuple #[va 3 0 0 (ab ++ bb), .int .i64 0]) ∧ Grew w w' := by
  have NB := fun k n m b W => rnumber7_any k n m b W
  go_enter Tryz.func61, Tryz.ntmps61
  go_wp2_with (first
    | (go_at_call 62; refine (NB _ _ _ _ _).mono ?_; rintro e w1 ⟨rfl, os0, n0, rfl⟩))
  refine bodyPost_ret_by (v := .tuple #[va 3 0 0 (ab ++ bb), .int .i64 0]) ?_ rfl ⟨rfl, (by repeat (first | assumption | exact Grew.refl _ | apply Grew.drew | apply Grew.drewN | apply Grew.alloc | apply Grew.more))⟩
  simp [results, Tryz.results61, go_sem]

set_option maxHeartbeats 4000000 in
theorem reck_txt (op : Int) (an am bn bm : Int) (ab bb : ByteArray) (w : World) (e9 : (op == 9) = false)  :
    Calls Tryz.prog 61 #[.int .i64 op, va 3 an am ab, va 3 bn bm bb] w fun e w' => e = .returned (.tuple #[va 0 0 0 ⟨#[]⟩, .int .i64 31]) ∧ Grew w w' := by
  have NB := fun k n m b W => rnumber7_any k n m b W
  go_enter Tryz.func61, Tryz.ntmps61
  go_wp2_with (first
    | (go_at_call 62; refine (NB _ _ _ _ _).mono ?_; rintro e w1 ⟨rfl, os0, n0, rfl⟩))
  refine bodyPost_ret_by (v := .tuple #[va 0 0 0 ⟨#[]⟩, .int .i64 31]) ?_ rfl ⟨rfl, (by repeat (first | assumption | exact Grew.refl _ | apply Grew.drew | apply Grew.drewN | apply Grew.alloc | apply Grew.more))⟩
  simp [results, Tryz.results61, go_sem]

set_option maxHeartbeats 4000000 in
theorem reck_o1 (op : Int) (bk : Int) (an am bn bm : Int) (ab bb : ByteArray) (w : World) (e1 : (bk == 1) = false) (e2 : (bk == 2) = false)  :
    Calls Tryz.prog 61 #[.int .i64 op, va 1 an am ab, va bk bn bm bb] w fun e w' => e = .returned (.tuple #[va 0 0 0 ⟨#[]⟩, .int .i64 31]) ∧ Grew w w' := by
  have NB := fun k n m b W => rnumber7_any k n m b W
  go_enter Tryz.func61, Tryz.ntmps61
  go_wp2_with (first
    | (go_at_call 62; refine (NB _ _ _ _ _).mono ?_; rintro e w1 ⟨rfl, os0, n0, rfl⟩))
  refine bodyPost_ret_by (v := .tuple #[va 0 0 0 ⟨#[]⟩, .int .i64 31]) ?_ rfl ⟨rfl, (by repeat (first | assumption | exact Grew.refl _ | apply Grew.drew | apply Grew.drewN | apply Grew.alloc | apply Grew.more))⟩
  simp [results, Tryz.results61, go_sem]

set_option maxHeartbeats 4000000 in
theorem reck_o2 (op : Int) (bk : Int) (an am bn bm : Int) (ab bb : ByteArray) (w : World) (e1 : (bk == 1) = false) (e2 : (bk == 2) = false)  :
    Calls Tryz.prog 61 #[.int .i64 op, va 2 an am ab, va bk bn bm bb] w fun e w' => e = .returned (.tuple #[va 0 0 0 ⟨#[]⟩, .int .i64 31]) ∧ Grew w w' := by
  have NB := fun k n m b W => rnumber7_any k n m b W
  go_enter Tryz.func61, Tryz.ntmps61
  go_wp2_with (first
    | (go_at_call 62; refine (NB _ _ _ _ _).mono ?_; rintro e w1 ⟨rfl, os0, n0, rfl⟩))
  refine bodyPost_ret_by (v := .tuple #[va 0 0 0 ⟨#[]⟩, .int .i64 31]) ?_ rfl ⟨rfl, (by repeat (first | assumption | exact Grew.refl _ | apply Grew.drew | apply Grew.drewN | apply Grew.alloc | apply Grew.more))⟩
  simp [results, Tryz.results61, go_sem]

set_option maxHeartbeats 4000000 in
theorem reck_o3 (op : Int) (bk : Int) (an am bn bm : Int) (ab bb : ByteArray) (w : World) (e3 : (bk == 3) = false)  :
    Calls Tryz.prog 61 #[.int .i64 op, va 3 an am ab, va bk bn bm bb] w fun e w' => e = .returned (.tuple #[va 0 0 0 ⟨#[]⟩, .int .i64 31]) ∧ Grew w w' := by
  have NB := fun k n m b W => rnumber7_any k n m b W
  go_enter Tryz.func61, Tryz.ntmps61
  go_wp2_with (first
    | (go_at_call 62; refine (NB _ _ _ _ _).mono ?_; rintro e w1 ⟨rfl, os0, n0, rfl⟩))
  refine bodyPost_ret_by (v := .tuple #[va 0 0 0 ⟨#[]⟩, .int .i64 31]) ?_ rfl ⟨rfl, (by repeat (first | assumption | exact Grew.refl _ | apply Grew.drew | apply Grew.drewN | apply Grew.alloc | apply Grew.more))⟩
  simp [results, Tryz.results61, go_sem]

set_option maxHeartbeats 4000000 in
theorem reck_o4 (op : Int) (bk : Int) (an am bn bm : Int) (ab bb : ByteArray) (w : World)   :
    Calls Tryz.prog 61 #[.int .i64 op, va 4 an am ab, va bk bn bm bb] w fun e w' => e = .returned (.tuple #[va 0 0 0 ⟨#[]⟩, .int .i64 31]) ∧ Grew w w' := by
  have NB := fun k n m b W => rnumber7_any k n m b W
  go_enter Tryz.func61, Tryz.ntmps61
  go_wp2_with (first
    | (go_at_call 62; refine (NB _ _ _ _ _).mono ?_; rintro e w1 ⟨rfl, os0, n0, rfl⟩))
  refine bodyPost_ret_by (v := .tuple #[va 0 0 0 ⟨#[]⟩, .int .i64 31]) ?_ rfl ⟨rfl, (by repeat (first | assumption | exact Grew.refl _ | apply Grew.drew | apply Grew.drewN | apply Grew.alloc | apply Grew.more))⟩
  simp [results, Tryz.results61, go_sem]

set_option maxHeartbeats 4000000 in
theorem reck_o5 (op : Int) (bk : Int) (an am bn bm : Int) (ab bb : ByteArray) (w : World) (e5 : (bk == 5) = false)  :
    Calls Tryz.prog 61 #[.int .i64 op, va 5 an am ab, va bk bn bm bb] w fun e w' => e = .returned (.tuple #[va 0 0 0 ⟨#[]⟩, .int .i64 31]) ∧ Grew w w' := by
  have NB := fun k n m b W => rnumber7_any k n m b W
  go_enter Tryz.func61, Tryz.ntmps61
  go_wp2_with (first
    | (go_at_call 62; refine (NB _ _ _ _ _).mono ?_; rintro e w1 ⟨rfl, os0, n0, rfl⟩))
  refine bodyPost_ret_by (v := .tuple #[va 0 0 0 ⟨#[]⟩, .int .i64 31]) ?_ rfl ⟨rfl, (by repeat (first | assumption | exact Grew.refl _ | apply Grew.drew | apply Grew.drewN | apply Grew.alloc | apply Grew.more))⟩
  simp [results, Tryz.results61, go_sem]
end Go.Proofs.YtnpdecbgakgbgaaGreatDoor

namespace Go.Proofs.YtnpdecbgakgbgaaGreatDoor
open Go.RowKit Go.Shelf
attribute [local go_sem] cell?_more frozen?_more setCell_more more_lt more_more more_drew more_drewN setCell_drewN alloc_drewN

set_option maxRecDepth 20000 in
set_option maxHeartbeats 4000000 in
theorem rbin_low (op : Int) (ak : Int) (bk : Int) (an am bn bm : Int) (ab bb : List UInt8) (w : World) (o1 : op < 6)  :
    Calls Tryz.prog 18 #[.int .i64 op, va ak an am ⟨ab.toArray⟩, va bk bn bm ⟨bb.toArray⟩] w fun e w' => e = .returned (.tuple #[va 0 0 0 ⟨#[]⟩, .int .i64 1]) ∧ Below w.heap.size w w' := by
  obtain ⟨w0, hw0, bxa, bxb, bxr, Bw⟩ := three_boxes w ⟨ak, an, am, ab⟩ ⟨bk, bn, bm, bb⟩
  dsimp only at hw0
  go_enter Tryz.func18, Tryz.ntmps18
  go_upto_region 1 with fail
  rw [← hw0]
  clear hw0
  have B0 : Below w0.heap.size w0 w0 := Below.refl _ _
  obtain ⟨a0, a1, a2, a3⟩ := (bxa.later B0).at4
  obtain ⟨b0, b1, b2, b3⟩ := (bxb.later B0).at4
  dsimp only at a0 a1 a2 a3 b0 b1 b2 b3
  have br := bxr.later B0
  obtain ⟨r0, r1, r2, r3⟩ := br.at4
  dsimp only [nul] at r0 r1 r2 r3
  simp only [Nat.zero_add] at r1 r2 r3
  have f0 := br.free 0
  have f1 := br.free 1
  have f2 := br.free 2
  have f3 := br.free 3
  have lt1 := br.lt
  have Be := below_trans Bw B0
  go_wp2
  refine bodyPost_ret_by (v := .tuple #[va 0 0 0 ⟨#[]⟩, .int .i64 1]) ?_ rfl ⟨rfl, ?_⟩
  · simp [results, Tryz.results18, go_sem, r0, r1, r2, r3]
  · exact (((Be.setCell (p := ⟨w.heap.size + 1 + 1, 0, none⟩) (by dsimp only; omega) _).setCell (p := ⟨w.heap.size + 1 + 1, 1, none⟩) (by dsimp only; omega) _).setCell (p := ⟨w.heap.size + 1 + 1, 2, none⟩) (by dsimp only; omega) _).setCell (p := ⟨w.heap.size + 1 + 1, 3, none⟩) (by dsimp only; omega) _


set_option maxRecDepth 20000 in
set_option maxHeartbeats 4000000 in
theorem rbin_badB (op : Int) (ak : Int) (bk : Int) (an am bn bm : Int) (ab bb : List UInt8) (w : World) (o1 : ¬ op < 6) (o2 : ¬ op > 18) (Ra : Tells 26 #[va ak an am ⟨ab.toArray⟩] w (.bool true)) (Rb : Tells 26 #[va bk bn bm ⟨bb.toArray⟩] w (.bool false)) :
    Calls Tryz.prog 18 #[.int .i64 op, va ak an am ⟨ab.toArray⟩, va bk bn bm ⟨bb.toArray⟩] w fun e w' => e = .returned (.tuple #[va 0 0 0 ⟨#[]⟩, .int .i64 1]) ∧ Below w.heap.size w w' := by
  obtain ⟨w0, hw0, bxa, bxb, bxr, Bw⟩ := three_boxes w ⟨ak, an, am, ab⟩ ⟨bk, bn, bm, bb⟩
  dsimp only at hw0
  go_enter Tryz.func18, Tryz.ntmps18
  go_upto_region 1 with fail
  rw [← hw0]
  clear hw0
  have B0 : Below w0.heap.size w0 w0 := Below.refl _ _
  obtain ⟨a0, a1, a2, a3⟩ := (bxa.later B0).at4
  obtain ⟨b0, b1, b2, b3⟩ := (bxb.later B0).at4
  dsimp only at a0 a1 a2 a3 b0 b1 b2 b3
  go_wp2_with fail
  refine (Ra _ (below_trans Bw B0)).mono ?_
  rintro e w1 ⟨rfl, c⟩
  have B1 := below_trans B0 c
  clear a0 a1 a2 a3 b0 b1 b2 b3 c
  obtain ⟨a0, a1, a2, a3⟩ := (bxa.later B1).at4
  obtain ⟨b0, b1, b2, b3⟩ := (bxb.later B1).at4
  dsimp only at a0 a1 a2 a3 b0 b1 b2 b3
  go_wp2_with fail
  refine (Rb _ (below_trans Bw B1)).mono ?_
  rintro e w2 ⟨rfl, c⟩
  have B2 := below_trans B1 c
  clear a0 a1 a2 a3 b0 b1 b2 b3 c
  obtain ⟨a0, a1, a2, a3⟩ := (bxa.later B2).at4
  obtain ⟨b0, b1, b2, b3⟩ := (bxb.later B2).at4
  dsimp only at a0 a1 a2 a3 b0 b1 b2 b3
  have br := bxr.later B2
  obtain ⟨r0, r1, r2, r3⟩ := br.at4
  dsimp only [nul] at r0 r1 r2 r3
  simp only [Nat.zero_add] at r1 r2 r3
  have f0 := br.free 0
  have f1 := br.free 1
  have f2 := br.free 2
  have f3 := br.free 3
  have lt1 := br.lt
  have Be := below_trans Bw B2
  go_wp2
  refine bodyPost_ret_by (v := .tuple #[va 0 0 0 ⟨#[]⟩, .int .i64 1]) ?_ rfl ⟨rfl, ?_⟩
  · simp [results, Tryz.results18, go_sem, r0, r1, r2, r3]
  · exact (((Be.setCell (p := ⟨w.heap.size + 1 + 1, 0, none⟩) (by dsimp only; omega) _).setCell (p := ⟨w.heap.size + 1 + 1, 1, none⟩) (by dsimp only; omega) _).setCell (p := ⟨w.heap.size + 1 + 1, 2, none⟩) (by dsimp only; omega) _).setCell (p := ⟨w.heap.size + 1 + 1, 3, none⟩) (by dsimp only; omega) _


set_option maxRecDepth 20000 in
set_option maxHeartbeats 4000000 in
theorem rbin_ft17 (ak : Int) (bk : Int) (an am bn bm : Int) (ab bb : List UInt8) (w : World) (t u : Int) (Ra : Tells 26 #[va ak an am ⟨ab.toArray⟩] w (.bool true)) (Rb : Tells 26 #[va bk bn bm ⟨bb.toArray⟩] w (.bool true)) (Ta : Tells 41 #[va ak an am ⟨ab.toArray⟩] w (.tuple #[.int .i64 t, .bool true])) (Tb : Tells 41 #[va bk bn bm ⟨bb.toArray⟩] w (.tuple #[.int .i64 u, .bool false])) :
    Calls Tryz.prog 18 #[.int .i64 17, va ak an am ⟨ab.toArray⟩, va bk bn bm ⟨bb.toArray⟩] w fun e w' => e = .returned (.tuple #[va 0 0 0 ⟨#[]⟩, .int .i64 31]) ∧ Below w.heap.size w w' := by
  obtain ⟨w0, hw0, bxa, bxb, bxr, Bw⟩ := three_boxes w ⟨ak, an, am, ab⟩ ⟨bk, bn, bm, bb⟩
  dsimp only at hw0
  go_enter Tryz.func18, Tryz.ntmps18
  go_upto_region 1 with fail
  rw [← hw0]
  clear hw0
  have B0 : Below w0.heap.size w0 w0 := Below.refl _ _
  obtain ⟨a0, a1, a2, a3⟩ := (bxa.later B0).at4
  obtain ⟨b0, b1, b2, b3⟩ := (bxb.later B0).at4
  dsimp only at a0 a1 a2 a3 b0 b1 b2 b3
  go_wp2_with fail
  refine (Ra _ (below_trans Bw B0)).mono ?_
  rintro e w1 ⟨rfl, c⟩
  have B1 := below_trans B0 c
  clear a0 a1 a2 a3 b0 b1 b2 b3 c
  obtain ⟨a0, a1, a2, a3⟩ := (bxa.later B1).at4
  obtain ⟨b0, b1, b2, b3⟩ := (bxb.later B1).at4
  dsimp only at a0 a1 a2 a3 b0 b1 b2 b3
  go_wp2_with fail
  refine (Rb _ (below_trans Bw B1)).mono ?_
  rintro e w2 ⟨rfl, c⟩
  have B2 := below_trans B1 c
  clear a0 a1 a2 a3 b0 b1 b2 b3 c
  obtain ⟨a0, a1, a2, a3⟩ := (bxa.later B2).at4
  obtain ⟨b0, b1, b2, b3⟩ := (bxb.later B2).at4
  dsimp only at a0 a1 a2 a3 b0 b1 b2 b3
  go_wp2_with fail
  refine (Ta _ (below_trans Bw B2)).mono ?_
  rintro e w3 ⟨rfl, c⟩
  have B3 := below_trans B2 c
  clear a0 a1 a2 a3 b0 b1 b2 b3 c
  obtain ⟨a0, a1, a2, a3⟩ := (bxa.later B3).at4
  obtain ⟨b0, b1, b2, b3⟩ := (bxb.later B3).at4
  dsimp only at a0 a1 a2 a3 b0 b1 b2 b3
  go_wp2_with fail
  refine (Tb _ (below_trans Bw B3)).mono ?_
  rintro e w4 ⟨rfl, c⟩
  have B4 := below_trans B3 c
  clear a0 a1 a2 a3 b0 b1 b2 b3 c
  obtain ⟨a0, a1, a2, a3⟩ := (bxa.later B4).at4
  obtain ⟨b0, b1, b2, b3⟩ := (bxb.later B4).at4
  dsimp only at a0 a1 a2 a3 b0 b1 b2 b3
  have br := bxr.later B4
  obtain ⟨r0, r1, r2, r3⟩ := br.at4
  dsimp only [nul] at r0 r1 r2 r3
  simp only [Nat.zero_add] at r1 r2 r3
  have f0 := br.free 0
  have f1 := br.free 1
  have f2 := br.free 2
  have f3 := br.free 3
  have lt1 := br.lt
  have Be := below_trans Bw B4
  go_wp2
  refine bodyPost_ret_by (v := .tuple #[va 0 0 0 ⟨#[]⟩, .int .i64 31]) ?_ rfl ⟨rfl, ?_⟩
  · simp [results, Tryz.results18, go_sem, r0, r1, r2, r3]
  · exact (((Be.setCell (p := ⟨w.heap.size + 1 + 1, 0, none⟩) (by dsimp only; omega) _).setCell (p := ⟨w.heap.size + 1 + 1, 1, none⟩) (by dsimp only; omega) _).setCell (p := ⟨w.heap.size + 1 + 1, 2, none⟩) (by dsimp only; omega) _).setCell (p := ⟨w.heap.size + 1 + 1, 3, none⟩) (by dsimp only; omega) _


set_option maxRecDepth 20000 in
set_option maxHeartbeats 4000000 in
theorem rbin_ft18 (ak : Int) (bk : Int) (an am bn bm : Int) (ab bb : List UInt8) (w : World) (t u : Int) (Ra : Tells 26 #[va ak an am ⟨ab.toArray⟩] w (.bool true)) (Rb : Tells 26 #[va bk bn bm ⟨bb.toArray⟩] w (.bool true)) (Ta : Tells 41 #[va ak an am ⟨ab.toArray⟩] w (.tuple #[.int .i64 t, .bool true])) (Tb : Tells 41 #[va bk bn bm ⟨bb.toArray⟩] w (.tuple #[.int .i64 u, .bool false])) :
    Calls Tryz.prog 18 #[.int .i64 18, va ak an am ⟨ab.toArray⟩, va bk bn bm ⟨bb.toArray⟩] w fun e w' => e = .returned (.tuple #[va 0 0 0 ⟨#[]⟩, .int .i64 31]) ∧ Below w.heap.size w w' := by
  obtain ⟨w0, hw0, bxa, bxb, bxr, Bw⟩ := three_boxes w ⟨ak, an, am, ab⟩ ⟨bk, bn, bm, bb⟩
  dsimp only at hw0
  go_enter Tryz.func18, Tryz.ntmps18
  go_upto_region 1 with fail
  rw [← hw0]
  clear hw0
  have B0 : Below w0.heap.size w0 w0 := Below.refl _ _
  obtain ⟨a0, a1, a2, a3⟩ := (bxa.later B0).at4
  obtain ⟨b0, b1, b2, b3⟩ := (bxb.later B0).at4
  dsimp only at a0 a1 a2 a3 b0 b1 b2 b3
  go_wp2_with fail
  refine (Ra _ (below_trans Bw B0)).mono ?_
  rintro e w1 ⟨rfl, c⟩
  have B1 := below_trans B0 c
  clear a0 a1 a2 a3 b0 b1 b2 b3 c
  obtain ⟨a0, a1, a2, a3⟩ := (bxa.later B1).at4
  obtain ⟨b0, b1, b2, b3⟩ := (bxb.later B1).at4
  dsimp only at a0 a1 a2 a3 b0 b1 b2 b3
  go_wp2_with fail
  refine (Rb _ (below_trans Bw B1)).mono ?_
  rintro e w2 ⟨rfl, c⟩
  have B2 := below_trans B1 c
  clear a0 a1 a2 a3 b0 b1 b2 b3 c
  obtain ⟨a0, a1, a2, a3⟩ := (bxa.later B2).at4
  obtain ⟨b0, b1, b2, b3⟩ := (bxb.later B2).at4
  dsimp only at a0 a1 a2 a3 b0 b1 b2 b3
  go_wp2_with fail
  refine (Ta _ (below_trans Bw B2)).mono ?_
  rintro e w3 ⟨rfl, c⟩
  have B3 := below_trans B2 c
  clear a0 a1 a2 a3 b0 b1 b2 b3 c
  obtain ⟨a0, a1, a2, a3⟩ := (bxa.later B3).at4
  obtain ⟨b0, b1, b2, b3⟩ := (bxb.later B3).at4
  dsimp only at a0 a1 a2 a3 b0 b1 b2 b3
  go_wp2_with fail
  refine (Tb _ (below_trans Bw B3)).mono ?_
  rintro e w4 ⟨rfl, c⟩
  have B4 := below_trans B3 c
  clear a0 a1 a2 a3 b0 b1 b2 b3 c
  obtain ⟨a0, a1, a2, a3⟩ := (bxa.later B4).at4
  obtain ⟨b0, b1, b2, b3⟩ := (bxb.later B4).at4
  dsimp only at a0 a1 a2 a3 b0 b1 b2 b3
  have br := bxr.later B4
  obtain ⟨r0, r1, r2, r3⟩ := br.at4
  dsimp only [nul] at r0 r1 r2 r3
  simp only [Nat.zero_add] at r1 r2 r3
  have f0 := br.free 0
  have f1 := br.free 1
  have f2 := br.free 2
  have f3 := br.free 3
  have lt1 := br.lt
  have Be := below_trans Bw B4
  go_wp2
  refine bodyPost_ret_by (v := .tuple #[va 0 0 0 ⟨#[]⟩, .int .i64 31]) ?_ rfl ⟨rfl, ?_⟩
  · simp [results, Tryz.results18, go_sem, r0, r1, r2, r3]
  · exact (((Be.setCell (p := ⟨w.heap.size + 1 + 1, 0, none⟩) (by dsimp only; omega) _).setCell (p := ⟨w.heap.size + 1 + 1, 1, none⟩) (by dsimp only; omega) _).setCell (p := ⟨w.heap.size + 1 + 1, 2, none⟩) (by dsimp only; omega) _).setCell (p := ⟨w.heap.size + 1 + 1, 3, none⟩) (by dsimp only; omega) _


set_option maxRecDepth 20000 in
set_option maxHeartbeats 4000000 in
theorem rbin_reck (op : Int) (ak : Int) (bk : Int) (an am bn bm : Int) (ab bb : List UInt8) (w : World) (rk rn rm re : Int) (rb : ByteArray) (o1 : ¬ op < 6) (o2 : ¬ op > 18) (o4 : op ≤ 10) (Ra : Tells 26 #[va ak an am ⟨ab.toArray⟩] w (.bool true)) (Rb : Tells 26 #[va bk bn bm ⟨bb.toArray⟩] w (.bool true)) (Na : Tells 39 #[va ak an am ⟨ab.toArray⟩] w (.bool false)) (Nb : Tells 39 #[va bk bn bm ⟨bb.toArray⟩] w (.bool false)) (F : Tells 61 #[.int .i64 op, va ak an am ⟨ab.toArray⟩, va bk bn bm ⟨bb.toArray⟩] w (.tuple #[va rk rn rm rb, .int .i64 re])) :
    Calls Tryz.prog 18 #[.int .i64 op, va ak an am ⟨ab.toArray⟩, va bk bn bm ⟨bb.toArray⟩] w fun e w' => e = .returned (.tuple #[va rk rn rm rb, .int .i64 re]) ∧ Below w.heap.size w w' := by
  obtain ⟨w0, hw0, bxa, bxb, bxr, Bw⟩ := three_boxes w ⟨ak, an, am, ab⟩ ⟨bk, bn, bm, bb⟩
  dsimp only at hw0
  go_enter Tryz.func18, Tryz.ntmps18
  go_upto_region 1 with fail
  rw [← hw0]
  clear hw0
  have B0 : Below w0.heap.size w0 w0 := Below.refl _ _
  obtain ⟨a0, a1, a2, a3⟩ := (bxa.later B0).at4
  obtain ⟨b0, b1, b2, b3⟩ := (bxb.later B0).at4
  dsimp only at a0 a1 a2 a3 b0 b1 b2 b3
  go_wp2_with fail
  refine (Ra _ (below_trans Bw B0)).mono ?_
  rintro e w1 ⟨rfl, c⟩
  have B1 := below_trans B0 c
  clear a0 a1 a2 a3 b0 b1 b2 b3 c
  obtain ⟨a0, a1, a2, a3⟩ := (bxa.later B1).at4
  obtain ⟨b0, b1, b2, b3⟩ := (bxb.later B1).at4
  dsimp only at a0 a1 a2 a3 b0 b1 b2 b3
  go_wp2_with fail
  refine (Rb _ (below_trans Bw B1)).mono ?_
  rintro e w2 ⟨rfl, c⟩
  have B2 := below_trans B1 c
  clear a0 a1 a2 a3 b0 b1 b2 b3 c
  obtain ⟨a0, a1, a2, a3⟩ := (bxa.later B2).at4
  obtain ⟨b0, b1, b2, b3⟩ := (bxb.later B2).at4
  dsimp only at a0 a1 a2 a3 b0 b1 b2 b3
  go_wp2_with fail
  refine (Na _ (below_trans Bw B2)).mono ?_
  rintro e w3 ⟨rfl, c⟩
  have B3 := below_trans B2 c
  clear a0 a1 a2 a3 b0 b1 b2 b3 c
  obtain ⟨a0, a1, a2, a3⟩ := (bxa.later B3).at4
  obtain ⟨b0, b1, b2, b3⟩ := (bxb.later B3).at4
  dsimp only at a0 a1 a2 a3 b0 b1 b2 b3
  go_wp2_with fail
  refine (Nb _ (below_trans Bw B3)).mono ?_
  rintro e w4 ⟨rfl, c⟩
  have B4 := below_trans B3 c
  clear a0 a1 a2 a3 b0 b1 b2 b3 c
  obtain ⟨a0, a1, a2, a3⟩ := (bxa.later B4).at4
  obtain ⟨b0, b1, b2, b3⟩ := (bxb.later B4).at4
  dsimp only at a0 a1 a2 a3 b0 b1 b2 b3
  go_wp2_with fail
  refine (F _ (below_trans Bw B4)).mono ?_
  rintro e w5 ⟨rfl, c⟩
  have B5 := below_trans B4 c
  clear a0 a1 a2 a3 b0 b1 b2 b3 c
  obtain ⟨a0, a1, a2, a3⟩ := (bxa.later B5).at4
  obtain ⟨b0, b1, b2, b3⟩ := (bxb.later B5).at4
  dsimp only at a0 a1 a2 a3 b0 b1 b2 b3
  have br := bxr.later B5
  obtain ⟨r0, r1, r2, r3⟩ := br.at4
  dsimp only [nul] at r0 r1 r2 r3
  simp only [Nat.zero_add] at r1 r2 r3
  have f0 := br.free 0
  have f1 := br.free 1
  have f2 := br.free 2
  have f3 := br.free 3
  have lt1 := br.lt
  have Be := below_trans Bw B5
  go_wp2
  refine bodyPost_ret_by (v := .tuple #[va rk rn rm rb, .int .i64 re]) ?_ rfl ⟨rfl, ?_⟩
  · simp [results, Tryz.results18, go_sem, r0, r1, r2, r3]
  · exact (((Be.setCell (p := ⟨w.heap.size + 1 + 1, 0, none⟩) (by dsimp only; omega) _).setCell (p := ⟨w.heap.size + 1 + 1, 1, none⟩) (by dsimp only; omega) _).setCell (p := ⟨w.heap.size + 1 + 1, 2, none⟩) (by dsimp only; omega) _).setCell (p := ⟨w.heap.size + 1 + 1, 3, none⟩) (by dsimp only; omega) _


set_option maxRecDepth 20000 in
set_option maxHeartbeats 4000000 in
theorem rbin_othF (op : Int) (ak : Int) (bk : Int) (an am bn bm : Int) (ab bb : List UInt8) (w : World) (o1 : ¬ op < 6) (o2 : ¬ op > 18) (o3 : ¬ op ≥ 17) (o4 : ¬ op ≤ 10) (ek : (ak != bk) = true) (Ra : Tells 26 #[va ak an am ⟨ab.toArray⟩] w (.bool true)) (Rb : Tells 26 #[va bk bn bm ⟨bb.toArray⟩] w (.bool true)) (Na : Tells 39 #[va ak an am ⟨ab.toArray⟩] w (.bool false)) (Nb : Tells 39 #[va bk bn bm ⟨bb.toArray⟩] w (.bool false)) (Ma : Tells 62 #[va ak an am ⟨ab.toArray⟩] w (.bool false)) :
    Calls Tryz.prog 18 #[.int .i64 op, va ak an am ⟨ab.toArray⟩, va bk bn bm ⟨bb.toArray⟩] w fun e w' => e = .returned (.tuple #[va 0 0 0 ⟨#[]⟩, .int .i64 31]) ∧ Below w.heap.size w w' := by
  obtain ⟨w0, hw0, bxa, bxb, bxr, Bw⟩ := three_boxes w ⟨ak, an, am, ab⟩ ⟨bk, bn, bm, bb⟩
  dsimp only at hw0
  go_enter Tryz.func18, Tryz.ntmps18
  go_upto_region 1 with fail
  rw [← hw0]
  clear hw0
  have B0 : Below w0.heap.size w0 w0 := Below.refl _ _
  obtain ⟨a0, a1, a2, a3⟩ := (bxa.later B0).at4
  obtain ⟨b0, b1, b2, b3⟩ := (bxb.later B0).at4
  dsimp only at a0 a1 a2 a3 b0 b1 b2 b3
  go_wp2_with fail
  refine (Ra _ (below_trans Bw B0)).mono ?_
  rintro e w1 ⟨rfl, c⟩
  have B1 := below_trans B0 c
  clear a0 a1 a2 a3 b0 b1 b2 b3 c
  obtain ⟨a0, a1, a2, a3⟩ := (bxa.later B1).at4
  obtain ⟨b0, b1, b2, b3⟩ := (bxb.later B1).at4
  dsimp only at a0 a1 a2 a3 b0 b1 b2 b3
  go_wp2_with fail
  refine (Rb _ (below_trans Bw B1)).mono ?_
  rintro e w2 ⟨rfl, c⟩
  have B2 := below_trans B1 c
  clear a0 a1 a2 a3 b0 b1 b2 b3 c
  obtain ⟨a0, a1, a2, a3⟩ := (bxa.later B2).at4
  obtain ⟨b0, b1, b2, b3⟩ := (bxb.later B2).at4
  dsimp only at a0 a1 a2 a3 b0 b1 b2 b3
  go_wp2_with fail
  refine (Na _ (below_trans Bw B2)).mono ?_
  rintro e w3 ⟨rfl, c⟩
  have B3 := below_trans B2 c
  clear a0 a1 a2 a3 b0 b1 b2 b3 c
  obtain ⟨a0, a1, a2, a3⟩ := (bxa.later B3).at4
  obtain ⟨b0, b1, b2, b3⟩ := (bxb.later B3).at4
  dsimp only at a0 a1 a2 a3 b0 b1 b2 b3
  go_wp2_with fail
  refine (Nb _ (below_trans Bw B3)).mono ?_
  rintro e w4 ⟨rfl, c⟩
  have B4 := below_trans B3 c
  clear a0 a1 a2 a3 b0 b1 b2 b3 c
  obtain ⟨a0, a1, a2, a3⟩ := (bxa.later B4).at4
  obtain ⟨b0, b1, b2, b3⟩ := (bxb.later B4).at4
  dsimp only at a0 a1 a2 a3 b0 b1 b2 b3
  go_wp2_with fail
  refine (Ma _ (below_trans Bw B4)).mono ?_
  rintro e w5 ⟨rfl, c⟩
  have B5 := below_trans B4 c
  clear a0 a1 a2 a3 b0 b1 b2 b3 c
  obtain ⟨a0, a1, a2, a3⟩ := (bxa.later B5).at4
  obtain ⟨b0, b1, b2, b3⟩ := (bxb.later B5).at4
  dsimp only at a0 a1 a2 a3 b0 b1 b2 b3
  have br := bxr.later B5
  obtain ⟨r0, r1, r2, r3⟩ := br.at4
  dsimp only [nul] at r0 r1 r2 r3
  simp only [Nat.zero_add] at r1 r2 r3
  have f0 := br.free 0
  have f1 := br.free 1
  have f2 := br.free 2
  have f3 := br.free 3
  have lt1 := br.lt
  have Be := below_trans Bw B5
  go_wp2
  refine bodyPost_ret_by (v := .tuple #[va 0 0 0 ⟨#[]⟩, .int .i64 31]) ?_ rfl ⟨rfl, ?_⟩
  · simp [results, Tryz.results18, go_sem, r0, r1, r2, r3]
  · exact (((Be.setCell (p := ⟨w.heap.size + 1 + 1, 0, none⟩) (by dsimp only; omega) _).setCell (p := ⟨w.heap.size + 1 + 1, 1, none⟩) (by dsimp only; omega) _).setCell (p := ⟨w.heap.size + 1 + 1, 2, none⟩) (by dsimp only; omega) _).setCell (p := ⟨w.heap.size + 1 + 1, 3, none⟩) (by dsimp only; omega) _
end Go.Proofs.YtnpdecbgakgbgaaGreatDoor
