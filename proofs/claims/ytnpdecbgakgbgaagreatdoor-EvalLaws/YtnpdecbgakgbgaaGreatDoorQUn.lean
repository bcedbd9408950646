/-
  eval.Unary.
-/
import Derived.Test.YtnpdecbgakgbgaaGreatDoorMzQTells
import Derived.Test.YtnpdecbgakgbgaaGreatDoorMQQTru
import Derived.Test.YtnpdecbgakgbgaaGreatDoorMVQNeg
namespace Go.Proofs.YtnpdecbgakgbgaaGreatDoor
open Go.RowKit Go.Shelf
attribute [local go_sem] cell?_more frozen?_more setCell_more more_lt more_more more_drew more_drewN setCell_drewN alloc_drewN

theorem one_boxes (w : World) (a : Va) : ∃ w0, w0 = (w.alloc (.cells #[.int .i64 a.k, .int .i64 a.n, .int .i64 a.m, .string ⟨a.b.toArray⟩] 30)).alloc (.cells #[.int .i64 0, .int .i64 0, .int .i64 0, .string ⟨#[]⟩] 30) ∧
    Box w0 w.heap.size a ∧ Box w0 (w.heap.size + 1) nul ∧ Below w.heap.size w w0 := by
  obtain ⟨h1, h2, h3⟩ := two_boxes w a nul
  exact ⟨_, rfl, h1, h2, h3⟩

set_option maxHeartbeats 2000000 in
theorem qun_low (op : Int) (ak : Int) (an am : Int) (ab : List UInt8) (w : World) (o1 : op < 3)  :
    Calls Tryz.prog 15 #[.int .i64 op, va ak an am ⟨ab.toArray⟩] w fun e w' => e = .returned (.tuple #[va 0 0 0 ⟨#[]⟩, .int .i64 1]) ∧ Below w.heap.size w w' := by
  obtain ⟨w0, hw0, bxa, bxr, Bw⟩ := one_boxes w ⟨ak, an, am, ab⟩
  dsimp only at hw0
  have B0 : Below w0.heap.size w0 w0 := Below.refl _ _
  go_enter Tryz.func15, Tryz.ntmps15
  go_upto_region 1 with fail
  rw [← hw0]
  clear hw0
  obtain ⟨a0, a1, a2, a3⟩ := bxa.at4
  dsimp only at a0 a1 a2 a3
  have br := bxr.later B0
  obtain ⟨r0, r1, r2, r3⟩ := br.at4
  dsimp only [nul] at r0 r1 r2 r3
  simp only [Nat.zero_add] at r1 r2 r3
  have f0 := br.free 0
  have f1 := br.free 1
  have f2 := br.free 2
  have f3 := br.free 3
  have lt1 := br.lt
  have Be := below_trans Bw B0
  go_wp2
  refine bodyPost_ret_by (v := .tuple #[va 0 0 0 ⟨#[]⟩, .int .i64 1]) ?_ rfl ⟨rfl, ?_⟩
  · simp [results, Tryz.results15, go_sem, r0, r1, r2, r3]
  · refine below_trans (Be.setCell (p := ⟨w.heap.size + 1, 0, none⟩) (by dsimp only; omega) (.int .i64 0) |>.setCell (p := ⟨w.heap.size + 1, 1, none⟩) (by dsimp only; omega) (.int .i64 0) |>.setCell (p := ⟨w.heap.size + 1, 2, none⟩) (by dsimp only; omega) (.int .i64 0) |>.setCell (p := ⟨w.heap.size + 1, 3, none⟩) (by dsimp only; omega) (.string ⟨#[]⟩)) (Grew.below ?_)
    repeat (first | assumption | exact Grew.refl _ | apply Grew.drew | apply Grew.drewN | apply Grew.alloc | apply Grew.more)

set_option maxHeartbeats 2000000 in
theorem qun_high (op : Int) (ak : Int) (an am : Int) (ab : List UInt8) (w : World) (o1 : ¬ op < 3) (o2 : op > 5)  :
    Calls Tryz.prog 15 #[.int .i64 op, va ak an am ⟨ab.toArray⟩] w fun e w' => e = .returned (.tuple #[va 0 0 0 ⟨#[]⟩, .int .i64 1]) ∧ Below w.heap.size w w' := by
  obtain ⟨w0, hw0, bxa, bxr, Bw⟩ := one_boxes w ⟨ak, an, am, ab⟩
  dsimp only at hw0
  have B0 : Below w0.heap.size w0 w0 := Below.refl _ _
  go_enter Tryz.func15, Tryz.ntmps15
  go_upto_region 1 with fail
  rw [← hw0]
  clear hw0
  obtain ⟨a0, a1, a2, a3⟩ := bxa.at4
  dsimp only at a0 a1 a2 a3
  have br := bxr.later B0
  obtain ⟨r0, r1, r2, r3⟩ := br.at4
  dsimp only [nul] at r0 r1 r2 r3
  simp only [Nat.zero_add] at r1 r2 r3
  have f0 := br.free 0
  have f1 := br.free 1
  have f2 := br.free 2
  have f3 := br.free 3
  have lt1 := br.lt
  have Be := below_trans Bw B0
  go_wp2
  refine bodyPost_ret_by (v := .tuple #[va 0 0 0 ⟨#[]⟩, .int .i64 1]) ?_ rfl ⟨rfl, ?_⟩
  · simp [results, Tryz.results15, go_sem, r0, r1, r2, r3]
  · refine below_trans (Be.setCell (p := ⟨w.heap.size + 1, 0, none⟩) (by dsimp only; omega) (.int .i64 0) |>.setCell (p := ⟨w.heap.size + 1, 1, none⟩) (by dsimp only; omega) (.int .i64 0) |>.setCell (p := ⟨w.heap.size + 1, 2, none⟩) (by dsimp only; omega) (.int .i64 0) |>.setCell (p := ⟨w.heap.size + 1, 3, none⟩) (by dsimp only; omega) (.string ⟨#[]⟩)) (Grew.below ?_)
    repeat (first | assumption | exact Grew.refl _ | apply Grew.drew | apply Grew.drewN | apply Grew.alloc | apply Grew.more)

set_option maxHeartbeats 2000000 in
theorem qun_bad (op : Int) (ak : Int) (an am : Int) (ab : List UInt8) (w : World) (o1 : ¬ op < 3) (o2 : ¬ op > 5) (Ra : Tells 35 #[va ak an am ⟨ab.toArray⟩] w (.bool false)) :
    Calls Tryz.prog 15 #[.int .i64 op, va ak an am ⟨ab.toArray⟩] w fun e w' => e = .returned (.tuple #[va 0 0 0 ⟨#[]⟩, .int .i64 1]) ∧ Below w.heap.size w w' := by
  obtain ⟨w0, hw0, bxa, bxr, Bw⟩ := one_boxes w ⟨ak, an, am, ab⟩
  dsimp only at hw0
  have B0 : Below w0.heap.size w0 w0 := Below.refl _ _
  go_enter Tryz.func15, Tryz.ntmps15
  go_upto_region 1 with fail
  rw [← hw0]
  clear hw0
  obtain ⟨a0, a1, a2, a3⟩ := bxa.at4
  dsimp only at a0 a1 a2 a3
  go_wp2_with fail
  refine (Ra _ (below_trans Bw B0)).mono ?_
  rintro e w1 ⟨rfl, cc⟩
  have B1 := below_trans B0 cc
  clear a0 a1 a2 a3 cc
  obtain ⟨a0, a1, a2, a3⟩ := (bxa.later B1).at4
  dsimp only at a0 a1 a2 a3
  have br := bxr.later B1
  obtain ⟨r0, r1, r2, r3⟩ := br.at4
  dsimp only [nul] at r0 r1 r2 r3
  simp only [Nat.zero_add] at r1 r2 r3
  have f0 := br.free 0
  have f1 := br.free 1
  have f2 := br.free 2
  have f3 := br.free 3
  have lt1 := br.lt
  have Be := below_trans Bw B1
  go_wp2
  refine bodyPost_ret_by (v := .tuple #[va 0 0 0 ⟨#[]⟩, .int .i64 1]) ?_ rfl ⟨rfl, ?_⟩
  · simp [results, Tryz.results15, go_sem, r0, r1, r2, r3]
  · refine below_trans (Be.setCell (p := ⟨w.heap.size + 1, 0, none⟩) (by dsimp only; omega) (.int .i64 0) |>.setCell (p := ⟨w.heap.size + 1, 1, none⟩) (by dsimp only; omega) (.int .i64 0) |>.setCell (p := ⟨w.heap.size + 1, 2, none⟩) (by dsimp only; omega) (.int .i64 0) |>.setCell (p := ⟨w.heap.size + 1, 3, none⟩) (by dsimp only; omega) (.string ⟨#[]⟩)) (Grew.below ?_)
    repeat (first | assumption | exact Grew.refl _ | apply Grew.drew | apply Grew.drewN | apply Grew.alloc | apply Grew.more)

set_option maxHeartbeats 2000000 in
theorem qun_isnull (ak : Int) (an am : Int) (ab : List UInt8) (w : World) (rn : Int) (Ra : Tells 35 #[va ak an am ⟨ab.toArray⟩] w (.bool true)) (T : Tells 36 #[.bool (ak == 0)] w (va 4 rn 0 ⟨#[]⟩)) :
    Calls Tryz.prog 15 #[.int .i64 5, va ak an am ⟨ab.toArray⟩] w fun e w' => e = .returned (.tuple #[va 4 rn 0 ⟨#[]⟩, .int .i64 0]) ∧ Below w.heap.size w w' := by
  obtain ⟨w0, hw0, bxa, bxr, Bw⟩ := one_boxes w ⟨ak, an, am, ab⟩
  dsimp only at hw0
  have B0 : Below w0.heap.size w0 w0 := Below.refl _ _
  go_enter Tryz.func15, Tryz.ntmps15
  go_upto_region 1 with fail
  rw [← hw0]
  clear hw0
  obtain ⟨a0, a1, a2, a3⟩ := bxa.at4
  dsimp only at a0 a1 a2 a3
  go_wp2_with fail
  refine (Ra _ (below_trans Bw B0)).mono ?_
  rintro e w1 ⟨rfl, cc⟩
  have B1 := below_trans B0 cc
  clear a0 a1 a2 a3 cc
  obtain ⟨a0, a1, a2, a3⟩ := (bxa.later B1).at4
  dsimp only at a0 a1 a2 a3
  go_wp2_with fail
  refine (T _ (below_trans Bw B1)).mono ?_
  rintro e w2 ⟨rfl, cc⟩
  have B2 := below_trans B1 cc
  clear a0 a1 a2 a3 cc
  obtain ⟨a0, a1, a2, a3⟩ := (bxa.later B2).at4
  dsimp only at a0 a1 a2 a3
  have br := bxr.later B2
  obtain ⟨r0, r1, r2, r3⟩ := br.at4
  dsimp only [nul] at r0 r1 r2 r3
  simp only [Nat.zero_add] at r1 r2 r3
  have f0 := br.free 0
  have f1 := br.free 1
  have f2 := br.free 2
  have f3 := br.free 3
  have lt1 := br.lt
  have Be := below_trans Bw B2
  go_wp2
  refine bodyPost_ret_by (v := .tuple #[va 4 rn 0 ⟨#[]⟩, .int .i64 0]) ?_ rfl ⟨rfl, ?_⟩
  · simp [results, Tryz.results15, go_sem, r0, r1, r2, r3]
  · refine below_trans (Be.setCell (p := ⟨w.heap.size + 1, 0, none⟩) (by dsimp only; omega) (.int .i64 4) |>.setCell (p := ⟨w.heap.size + 1, 1, none⟩) (by dsimp only; omega) (.int .i64 rn) |>.setCell (p := ⟨w.heap.size + 1, 2, none⟩) (by dsimp only; omega) (.int .i64 0) |>.setCell (p := ⟨w.heap.size + 1, 3, none⟩) (by dsimp only; omega) (.string ⟨#[]⟩)) (Grew.below ?_)
    repeat (first | assumption | exact Grew.refl _ | apply Grew.drew | apply Grew.drewN | apply Grew.alloc | apply Grew.more)

set_option maxHeartbeats 2000000 in
theorem qun_not (ak : Int) (an am : Int) (ab : List UInt8) (w : World) (rk rn rm re : Int) (rb : ByteArray) (Ra : Tells 35 #[va ak an am ⟨ab.toArray⟩] w (.bool true)) (F : Tells 37 #[va ak an am ⟨ab.toArray⟩] w (.tuple #[va rk rn rm rb, .int .i64 re])) :
    Calls Tryz.prog 15 #[.int .i64 4, va ak an am ⟨ab.toArray⟩] w fun e w' => e = .returned (.tuple #[va rk rn rm rb, .int .i64 re]) ∧ Below w.heap.size w w' := by
  obtain ⟨w0, hw0, bxa, bxr, Bw⟩ := one_boxes w ⟨ak, an, am, ab⟩
  dsimp only at hw0
  have B0 : Below w0.heap.size w0 w0 := Below.refl _ _
  go_enter Tryz.func15, Tryz.ntmps15
  go_upto_region 1 with fail
  rw [← hw0]
  clear hw0
  obtain ⟨a0, a1, a2, a3⟩ := bxa.at4
  dsimp only at a0 a1 a2 a3
  go_wp2_with fail
  refine (Ra _ (below_trans Bw B0)).mono ?_
  rintro e w1 ⟨rfl, cc⟩
  have B1 := below_trans B0 cc
  clear a0 a1 a2 a3 cc
  obtain ⟨a0, a1, a2, a3⟩ := (bxa.later B1).at4
  dsimp only at a0 a1 a2 a3
  go_wp2_with fail
  refine (F _ (below_trans Bw B1)).mono ?_
  rintro e w2 ⟨rfl, cc⟩
  have B2 := below_trans B1 cc
  clear a0 a1 a2 a3 cc
  obtain ⟨a0, a1, a2, a3⟩ := (bxa.later B2).at4
  dsimp only at a0 a1 a2 a3
  have br := bxr.later B2
  obtain ⟨r0, r1, r2, r3⟩ := br.at4
  dsimp only [nul] at r0 r1 r2 r3
  simp only [Nat.zero_add] at r1 r2 r3
  have f0 := br.free 0
  have f1 := br.free 1
  have f2 := br.free 2
  have f3 := br.free 3
  have lt1 := br.lt
  have Be := below_trans Bw B2
  go_wp2
  refine bodyPost_ret_by (v := .tuple #[va rk rn rm rb, .int .i64 re]) ?_ rfl ⟨rfl, ?_⟩
  · simp [results, Tryz.results15, go_sem, r0, r1, r2, r3]
  · refine below_trans (Be.setCell (p := ⟨w.heap.size + 1, 0, none⟩) (by dsimp only; omega) (.int .i64 rk) |>.setCell (p := ⟨w.heap.size + 1, 1, none⟩) (by dsimp only; omega) (.int .i64 rn) |>.setCell (p := ⟨w.heap.size + 1, 2, none⟩) (by dsimp only; omega) (.int .i64 rm) |>.setCell (p := ⟨w.heap.size + 1, 3, none⟩) (by dsimp only; omega) (.string rb)) (Grew.below ?_)
    repeat (first | assumption | exact Grew.refl _ | apply Grew.drew | apply Grew.drewN | apply Grew.alloc | apply Grew.more)

set_option maxHeartbeats 2000000 in
theorem qun_neg (ak : Int) (an am : Int) (ab : List UInt8) (w : World) (rk rn rm re : Int) (rb : ByteArray) (Ra : Tells 35 #[va ak an am ⟨ab.toArray⟩] w (.bool true)) (F : Tells 38 #[va ak an am ⟨ab.toArray⟩] w (.tuple #[va rk rn rm rb, .int .i64 re])) :
    Calls Tryz.prog 15 #[.int .i64 3, va ak an am ⟨ab.toArray⟩] w fun e w' => e = .returned (.tuple #[va rk rn rm rb, .int .i64 re]) ∧ Below w.heap.size w w' := by
  obtain ⟨w0, hw0, bxa, bxr, Bw⟩ := one_boxes w ⟨ak, an, am, ab⟩
  dsimp only at hw0
  have B0 : Below w0.heap.size w0 w0 := Below.refl _ _
  go_enter Tryz.func15, Tryz.ntmps15
  go_upto_region 1 with fail
  rw [← hw0]
  clear hw0
  obtain ⟨a0, a1, a2, a3⟩ := bxa.at4
  dsimp only at a0 a1 a2 a3
  go_wp2_with fail
  refine (Ra _ (below_trans Bw B0)).mono ?_
  rintro e w1 ⟨rfl, cc⟩
  have B1 := below_trans B0 cc
  clear a0 a1 a2 a3 cc
  obtain ⟨a0, a1, a2, a3⟩ := (bxa.later B1).at4
  dsimp only at a0 a1 a2 a3
  go_wp2_with fail
  refine (F _ (below_trans Bw B1)).mono ?_
  rintro e w2 ⟨rfl, cc⟩
  have B2 := below_trans B1 cc
  clear a0 a1 a2 a3 cc
  obtain ⟨a0, a1, a2, a3⟩ := (bxa.later B2).at4
  dsimp only at a0 a1 a2 a3
  have br := bxr.later B2
  obtain ⟨r0, r1, r2, r3⟩ := br.at4
  dsimp only [nul] at r0 r1 r2 r3
  simp only [Nat.zero_add] at r1 r2 r3
  have f0 := br.free 0
  have f1 := br.free 1
  have f2 := br.free 2
  have f3 := br.free 3
  have lt1 := br.lt
  have Be := below_trans Bw B2
  go_wp2
  refine bodyPost_ret_by (v := .tuple #[va rk rn rm rb, .int .i64 re]) ?_ rfl ⟨rfl, ?_⟩
  · simp [results, Tryz.results15, go_sem, r0, r1, r2, r3]
  · refine below_trans (Be.setCell (p := ⟨w.heap.size + 1, 0, none⟩) (by dsimp only; omega) (.int .i64 rk) |>.setCell (p := ⟨w.heap.size + 1, 1, none⟩) (by dsimp only; omega) (.int .i64 rn) |>.setCell (p := ⟨w.heap.size + 1, 2, none⟩) (by dsimp only; omega) (.int .i64 rm) |>.setCell (p := ⟨w.heap.size + 1, 3, none⟩) (by dsimp only; omega) (.string rb)) (Grew.below ?_)
    repeat (first | assumption | exact Grew.refl _ | apply Grew.drew | apply Grew.drewN | apply Grew.alloc | apply Grew.more)

theorem qun_any (op : Int) (a : Va) (w : World) (hT : Tabs w) (hP : Pw w) (va' : vin a) :
    Calls Tryz.prog 15 #[.int .i64 op, vv a] w fun e w' => e = .returned (rs (unR op a)) ∧ Below w.heap.size w w' := by
  have Ra : Tells 35 #[vv a] w (.bool (vr a)) := fun W h => vright_any a.k a.n a.m ⟨a.b.toArray⟩ W (hT.later h)
  unfold unR
  by_cases o1 : op < 3
  · rw [if_pos (by omega)]
    exact qun_low op a.k a.n a.m a.b w o1
  by_cases o2 : op > 5
  · rw [if_pos (by omega)]
    exact qun_high op a.k a.n a.m a.b w o1 o2
  cases hr : vr a
  · rw [hr] at Ra
    rw [if_pos (by simp)]
    exact qun_bad op a.k a.n a.m a.b w o1 o2 Ra
  rw [hr] at Ra
  rw [if_neg (by simp; omega)]
  by_cases h5 : op = 5
  · subst h5
    rw [if_pos rfl]
    exact qun_isnull a.k a.n a.m a.b w _ Ra (fun W _ => (qtruth_any (a.k == 0) W).mono fun _ _ h => ⟨h.1, h.2.below⟩)
  rw [if_neg h5]
  by_cases h4 : op = 4
  · subst h4
    rw [if_pos rfl]
    exact qun_not a.k a.n a.m a.b w _ _ _ _ _ Ra (fun W _ => (qnot_any a W).mono fun _ _ h => ⟨h.1, h.2.below⟩)
  rw [if_neg h4]
  obtain rfl : op = 3 := by omega
  exact qun_neg a.k a.n a.m a.b w _ _ _ _ _ Ra (fun W h => (qneg_any a W (hP.below h) hr va').mono fun _ _ h => ⟨h.1, h.2.below⟩)
end Go.Proofs.YtnpdecbgakgbgaaGreatDoor
