/-
  eval.negOf: from kind to kind.
  eval.Unary.
  The document's answers for eval: the smallest functions.
  The document's answers for eval: points.
  The document's answers for eval: Binary, path by path.
-/
import Derived.Test.YtgapmofhnjfdiaaGreatDoorMDQNums
import Derived.Test.YtgapmofhnjfdiaaGreatDoorDNeg
import Derived.Test.YtgapmofhnjfdiaaGreatDoorMBHRef3
import Derived.Test.YtgapmofhnjfdiaaGreatDoorMCQBinB
import Derived.Test.YtgapmofhnjfdiaaGreatDoorMFQCall
namespace Go.Proofs.YtgapmofhnjfdiaaGreatDoor
open Go.RowKit Go.Shelf
attribute [local go_sem] cell?_more frozen?_more setCell_more more_lt more_more more_drew more_drewN setCell_drewN alloc_drewN

set_option maxHeartbeats 2000000 in
theorem qneg_null (an am : Int) (ab : ByteArray) (w : World)  :
    Calls Tryz.prog 45 #[va 0 an am ab] w fun e w' => e = .returned (.tuple #[va 0 0 0 ⟨#[]⟩, .int .i64 0]) ∧ Grew w w' := by
  go_enter Tryz.func45, Tryz.ntmps45
  go_wp2_with fail
  refine wp_scope_on 5 ?_
  go_wp2
  refine onward_ret (by intro l h; cases h) ?_
  refine bodyPost_ret_by (v := .tuple #[va 0 0 0 ⟨#[]⟩, .int .i64 0]) ?_ rfl ⟨rfl, (by repeat (first | assumption | exact Grew.refl _ | apply Grew.drew | apply Grew.drewN | apply Grew.alloc | apply Grew.more))⟩
  simp [results, Tryz.results45, go_sem]

set_option maxHeartbeats 2000000 in
theorem qneg_int (an am : Int) (ab : ByteArray) (w : World) (z x : Int) (D : ∀ W, Grew w W → Calls Tryz.prog 106 #[.int .i64 0, .int .i64 an] W fun e w' => e = .returned (.tuple #[.int .i64 z, .int .i64 x]) ∧ Grew W w') :
    Calls Tryz.prog 45 #[va 1 an am ab] w fun e w' => e = .returned (rs (wholeR z x)) ∧ Grew w w' := by
  have H := fun n x W => qwhole_any n x W
  go_enter Tryz.func45, Tryz.ntmps45
  go_wp2_with fail
  refine wp_scope_on 5 ?_
  go_wp2_with fail
  refine goto_on (n := 4) rfl ?_
  go_wp2_with (first
    | (go_at_call 106; refine (D _ (by repeat (first | assumption | exact Grew.refl _ | apply Grew.drew | apply Grew.drewN | apply Grew.alloc | apply Grew.more))).mono ?_; rintro e w1 ⟨rfl, os1, n1, rfl⟩)
    | (go_at_call 105; refine (H _ _ _).mono ?_; rintro e w1 ⟨rfl, os2, n2, rfl⟩))
  refine onward_ret (by intro l h; cases h) ?_
  refine bodyPost_ret_by (v := rs (wholeR z x)) ?_ rfl ⟨rfl, (by repeat (first | assumption | exact Grew.refl _ | apply Grew.drew | apply Grew.drewN | apply Grew.alloc | apply Grew.more))⟩
  simp [results, Tryz.results45, go_sem]

set_option maxHeartbeats 2000000 in
theorem qneg_dec (an am : Int) (ab : ByteArray) (w : World) (z s x : Int) (D : ∀ W, Grew w W → Calls Tryz.prog 108 #[dv an am] W fun e w' => e = .returned (.tuple #[dv z s, .int .i64 x]) ∧ Grew W w') :
    Calls Tryz.prog 45 #[va 2 an am ab] w fun e w' => e = .returned (rs (exactR z s x)) ∧ Grew w w' := by
  have H := fun n s x W => qexact_any n s x W
  have U := fun k n m b W => qunits_any k n m b W
  go_enter Tryz.func45, Tryz.ntmps45
  go_wp2_with fail
  refine wp_scope_on 5 ?_
  go_wp2_with fail
  refine goto_on (n := 4) rfl ?_
  go_wp2_with fail
  refine goto_on (n := 3) rfl ?_
  go_wp2_with (first
    | (go_at_call 62; refine (U _ _ _ _ _).mono ?_; rintro e w1 ⟨rfl, os0, n0, rfl⟩)
    | (go_at_call 108; refine (D _ (by repeat (first | assumption | exact Grew.refl _ | apply Grew.drew | apply Grew.drewN | apply Grew.alloc | apply Grew.more))).mono ?_; rintro e w1 ⟨rfl, os1, n1, rfl⟩)
    | (go_at_call 107; refine (H _ _ _ _).mono ?_; rintro e w1 ⟨rfl, os2, n2, rfl⟩))
  refine onward_ret (by intro l h; cases h) ?_
  refine bodyPost_ret_by (v := rs (exactR z s x)) ?_ rfl ⟨rfl, (by repeat (first | assumption | exact Grew.refl _ | apply Grew.drew | apply Grew.drewN | apply Grew.alloc | apply Grew.more))⟩
  simp [results, Tryz.results45, go_sem]

set_option maxHeartbeats 2000000 in
theorem qneg_pt (an am : Int) (ab : ByteArray) (w : World) (x y : Int) (D : ∀ W, Calls Tryz.prog 110 #[dv an am, .int .i64 2] W fun e w' => e = .returned (dv x y) ∧ Grew W w') :
    Calls Tryz.prog 45 #[va 5 an am ab] w fun e w' => e = .returned (rs (placedR x y 0)) ∧ Grew w w' := by
  have H := fun n s x W => qplaced_any n s x W
  have U := fun k n m b W => qpoint_any k n m b W
  go_enter Tryz.func45, Tryz.ntmps45
  go_wp2_with fail
  refine wp_scope_on 5 ?_
  go_wp2_with fail
  refine goto_on (n := 4) rfl ?_
  go_wp2_with fail
  refine goto_on (n := 3) rfl ?_
  go_wp2_with fail
  refine goto_on (n := 2) rfl ?_
  go_wp2_with (first
    | (go_at_call 111; refine (U _ _ _ _ _).mono ?_; rintro e w1 ⟨rfl, os0, n0, rfl⟩)
    | (go_at_call 110; refine (D _).mono ?_; rintro e w1 ⟨rfl, os1, n1, rfl⟩)
    | (go_at_call 109; refine (H _ _ _ _).mono ?_; rintro e w1 ⟨rfl, os2, n2, rfl⟩))
  refine onward_ret (by intro l h; cases h) ?_
  refine bodyPost_ret_by (v := rs (placedR x y 0)) ?_ rfl ⟨rfl, (by repeat (first | assumption | exact Grew.refl _ | apply Grew.drew | apply Grew.drewN | apply Grew.alloc | apply Grew.more))⟩
  simp [results, Tryz.results45, go_sem]

set_option maxHeartbeats 2000000 in
theorem qneg_other (ak : Int) (an am : Int) (ab : ByteArray) (w : World) (e0 : (ak != 0) = true) (e1 : (ak != 1) = true) (e2 : (ak != 2) = true) (e5 : (ak != 5) = true) :
    Calls Tryz.prog 45 #[va ak an am ab] w fun e w' => e = .returned (.tuple #[va 0 0 0 ⟨#[]⟩, .int .i64 31]) ∧ Grew w w' := by
  go_enter Tryz.func45, Tryz.ntmps45
  go_wp2_with fail
  refine wp_scope_on 5 ?_
  go_wp2_with fail
  refine goto_on (n := 4) rfl ?_
  go_wp2_with fail
  refine goto_on (n := 3) rfl ?_
  go_wp2_with fail
  refine goto_on (n := 2) rfl ?_
  go_wp2_with fail
  refine goto_on (n := 1) rfl ?_
  go_wp2
  refine onward_ret (by intro l h; cases h) ?_
  refine bodyPost_ret_by (v := .tuple #[va 0 0 0 ⟨#[]⟩, .int .i64 31]) ?_ rfl ⟨rfl, (by repeat (first | assumption | exact Grew.refl _ | apply Grew.drew | apply Grew.drewN | apply Grew.alloc | apply Grew.more))⟩
  simp [results, Tryz.results45, go_sem]

theorem qneg_any (a : Va) (w : World) (hP : Pw w) (hr : vr a = true) (va' : vin a) : Calls Tryz.prog 45 #[vv a] w fun e w' => e = .returned (rs (negR a)) ∧ Grew w w' := by
  obtain ⟨k, n, m, b⟩ := a
  have hv := (vr_iff _).1 hr
  simp only [vok] at hv
  obtain ⟨⟨a0, a1⟩, -⟩ := va'
  simp only at a0 a1
  unfold negR
  by_cases h0 : k = 0
  · subst h0
    exact qneg_null n m _ w
  by_cases h1 : k = 1
  · subst h1
    exact qneg_int n m _ w _ _ (fun W h => qdiff_any 0 n W (hP.later h) (by decide) (by decide) a0 a1)
  by_cases h2 : k = 2
  · subst h2
    have hm : 0 ≤ m ∧ m ≤ 6 := by omega
    have hs : rightS m = true := (rightS_iff m).2 hm
    have := qneg_dec n m ⟨b.toArray⟩ w _ _ _ (fun W h => neg_any n m W (hP.later h) a0 a1)
    simp only [negU, negS, negE, hs, if_true] at this
    exact this
  by_cases h5 : k = 5
  · subst h5
    have hp : Ga.ok2 n m = true := (Ga.ok2_iff n m).2 (by omega)
    exact qneg_pt n m _ w _ _ (fun W => Ga.turn_good n m 2 W hp)
  simp only [h0, h1, h2, h5, if_false]
  exact qneg_other k n m _ w (by simpa using h0) (by simpa using h1) (by simpa using h2) (by simpa using h5)
end Go.Proofs.YtgapmofhnjfdiaaGreatDoor

namespace Go.Proofs.YtgapmofhnjfdiaaGreatDoor
open Go.RowKit Go.Shelf
attribute [local go_sem] cell?_more frozen?_more setCell_more more_lt more_more more_drew more_drewN setCell_drewN alloc_drewN

theorem one_boxes (w : World) (a : Va) : ∃ w0, w0 = (w.alloc (.cells #[.int .i64 a.k, .int .i64 a.n, .int .i64 a.m, .string ⟨a.b.toArray⟩] 30)).alloc (.cells #[.int .i64 0, .int .i64 0, .int .i64 0, .string ⟨#[]⟩] 30) ∧
    Box w0 w.heap.size a ∧ Box w0 (w.heap.size + 1) nul ∧ Below w.heap.size w w0 := by
  obtain ⟨h1, h2, h3⟩ := two_boxes w a nul
  exact ⟨_, rfl, h1, h2, h3⟩

set_option maxHeartbeats 2000000 in
theorem qun_low (op : Int) (ak : Int) (an am : Int) (ab : List UInt8) (w : World) (o1 : op < 3)  :
    Calls Tryz.prog 14 #[.int .i64 op, va ak an am ⟨ab.toArray⟩] w fun e w' => e = .returned (.tuple #[va 0 0 0 ⟨#[]⟩, .int .i64 1]) ∧ Below w.heap.size w w' := by
  obtain ⟨w0, hw0, bxa, bxr, Bw⟩ := one_boxes w ⟨ak, an, am, ab⟩
  dsimp only at hw0
  have B0 : Below w0.heap.size w0 w0 := Below.refl _ _
  go_enter Tryz.func14, Tryz.ntmps14
  go_upto_region 1 with fail
  rw [← hw0]
  clear hw0
  obtain ⟨a0, a1, a2, a3⟩ := bxa.at4
  dsimp only at a0 a1 a2 a3
  have br := bxr.later B0
  obtain ⟨r0, r1, r2, r3⟩ := br.at4
  dsimp only [nul] at r0 r1 r2 r3
  simp only [Nat.zero_add] at r1 r2 r3
  have f0 := br.free 0
  have f1 := br.free 1
  have f2 := br.free 2
  have f3 := br.free 3
  have lt1 := br.lt
  have Be := below_trans Bw B0
  go_wp2
  refine bodyPost_ret_by (v := .tuple #[va 0 0 0 ⟨#[]⟩, .int .i64 1]) ?_ rfl ⟨rfl, ?_⟩
  · simp [results, Tryz.results14, go_sem, r0, r1, r2, r3]
  · refine below_trans (Be.setCell (p := ⟨w.heap.size + 1, 0, none⟩) (by dsimp only; omega) (.int .i64 0) |>.setCell (p := ⟨w.heap.size + 1, 1, none⟩) (by dsimp only; omega) (.int .i64 0) |>.setCell (p := ⟨w.heap.size + 1, 2, none⟩) (by dsimp only; omega) (.int .i64 0) |>.setCell (p := ⟨w.heap.size + 1, 3, none⟩) (by dsimp only; omega) (.string ⟨#[]⟩)) (Grew.below ?_)
    repeat (first | assumption | exact Grew.refl _ | apply Grew.drew | apply Grew.drewN | apply Grew.alloc | apply Grew.more)

set_option maxHeartbeats 2000000 in
theorem qun_high (op : Int) (ak : Int) (an am : Int) (ab : List UInt8) (w : World) (o1 : ¬ op < 3) (o2 : op > 5)  :
    Calls Tryz.prog 14 #[.int .i64 op, va ak an am ⟨ab.toArray⟩] w fun e w' => e = .returned (.tuple #[va 0 0 0 ⟨#[]⟩, .int .i64 1]) ∧ Below w.heap.size w w' := by
  obtain ⟨w0, hw0, bxa, bxr, Bw⟩ := one_boxes w ⟨ak, an, am, ab⟩
  dsimp only at hw0
  have B0 : Below w0.heap.size w0 w0 := Below.refl _ _
  go_enter Tryz.func14, Tryz.ntmps14
  go_upto_region 1 with fail
  rw [← hw0]
  clear hw0
  obtain ⟨a0, a1, a2, a3⟩ := bxa.at4
  dsimp only at a0 a1 a2 a3
  have br := bxr.later B0
  obtain ⟨r0, r1, r2, r3⟩ := br.at4
  dsimp only [nul] at r0 r1 r2 r3
  simp only [Nat.zero_add] at r1 r2 r3
  have f0 := br.free 0
  have f1 := br.free 1
  have f2 := br.free 2
  have f3 := br.free 3
  have lt1 := br.lt
  have Be := below_trans Bw B0
  go_wp2
  refine bodyPost_ret_by (v := .tuple #[va 0 0 0 ⟨#[]⟩, .int .i64 1]) ?_ rfl ⟨rfl, ?_⟩
  · simp [results, Tryz.results14, go_sem, r0, r1, r2, r3]
  · refine below_trans (Be.setCell (p := ⟨w.heap.size + 1, 0, none⟩) (by dsimp only; omega) (.int .i64 0) |>.setCell (p := ⟨w.heap.size + 1, 1, none⟩) (by dsimp only; omega) (.int .i64 0) |>.setCell (p := ⟨w.heap.size + 1, 2, none⟩) (by dsimp only; omega) (.int .i64 0) |>.setCell (p := ⟨w.heap.size + 1, 3, none⟩) (by dsimp only; omega) (.string ⟨#[]⟩)) (Grew.below ?_)
    repeat (first | assumption | exact Grew.refl _ | apply Grew.drew | apply Grew.drewN | apply Grew.alloc | apply Grew.more)

set_option maxHeartbeats 2000000 in
theorem qun_bad (op : Int) (ak : Int) (an am : Int) (ab : List UInt8) (w : World) (o1 : ¬ op < 3) (o2 : ¬ op > 5) (Ra : Tells 42 #[va ak an am ⟨ab.toArray⟩] w (.bool false)) :
    Calls Tryz.prog 14 #[.int .i64 op, va ak an am ⟨ab.toArray⟩] w fun e w' => e = .returned (.tuple #[va 0 0 0 ⟨#[]⟩, .int .i64 1]) ∧ Below w.heap.size w w' := by
  obtain ⟨w0, hw0, bxa, bxr, Bw⟩ := one_boxes w ⟨ak, an, am, ab⟩
  dsimp only at hw0
  have B0 : Below w0.heap.size w0 w0 := Below.refl _ _
  go_enter Tryz.func14, Tryz.ntmps14
  go_upto_region 1 with fail
  rw [← hw0]
  clear hw0
  obtain ⟨a0, a1, a2, a3⟩ := bxa.at4
  dsimp only at a0 a1 a2 a3
  go_wp2_with fail
  refine (Ra _ (below_trans Bw B0)).mono ?_
  rintro e w1 ⟨rfl, cc⟩
  have B1 := below_trans B0 cc
  clear a0 a1 a2 a3 cc
  obtain ⟨a0, a1, a2, a3⟩ := (bxa.later B1).at4
  dsimp only at a0 a1 a2 a3
  have br := bxr.later B1
  obtain ⟨r0, r1, r2, r3⟩ := br.at4
  dsimp only [nul] at r0 r1 r2 r3
  simp only [Nat.zero_add] at r1 r2 r3
  have f0 := br.free 0
  have f1 := br.free 1
  have f2 := br.free 2
  have f3 := br.free 3
  have lt1 := br.lt
  have Be := below_trans Bw B1
  go_wp2
  refine bodyPost_ret_by (v := .tuple #[va 0 0 0 ⟨#[]⟩, .int .i64 1]) ?_ rfl ⟨rfl, ?_⟩
  · simp [results, Tryz.results14, go_sem, r0, r1, r2, r3]
  · refine below_trans (Be.setCell (p := ⟨w.heap.size + 1, 0, none⟩) (by dsimp only; omega) (.int .i64 0) |>.setCell (p := ⟨w.heap.size + 1, 1, none⟩) (by dsimp only; omega) (.int .i64 0) |>.setCell (p := ⟨w.heap.size + 1, 2, none⟩) (by dsimp only; omega) (.int .i64 0) |>.setCell (p := ⟨w.heap.size + 1, 3, none⟩) (by dsimp only; omega) (.string ⟨#[]⟩)) (Grew.below ?_)
    repeat (first | assumption | exact Grew.refl _ | apply Grew.drew | apply Grew.drewN | apply Grew.alloc | apply Grew.more)

set_option maxHeartbeats 2000000 in
theorem qun_isnull (ak : Int) (an am : Int) (ab : List UInt8) (w : World) (rn : Int) (Ra : Tells 42 #[va ak an am ⟨ab.toArray⟩] w (.bool true)) (T : Tells 43 #[.bool (ak == 0)] w (va 4 rn 0 ⟨#[]⟩)) :
    Calls Tryz.prog 14 #[.int .i64 5, va ak an am ⟨ab.toArray⟩] w fun e w' => e = .returned (.tuple #[va 4 rn 0 ⟨#[]⟩, .int .i64 0]) ∧ Below w.heap.size w w' := by
  obtain ⟨w0, hw0, bxa, bxr, Bw⟩ := one_boxes w ⟨ak, an, am, ab⟩
  dsimp only at hw0
  have B0 : Below w0.heap.size w0 w0 := Below.refl _ _
  go_enter Tryz.func14, Tryz.ntmps14
  go_upto_region 1 with fail
  rw [← hw0]
  clear hw0
  obtain ⟨a0, a1, a2, a3⟩ := bxa.at4
  dsimp only at a0 a1 a2 a3
  go_wp2_with fail
  refine (Ra _ (below_trans Bw B0)).mono ?_
  rintro e w1 ⟨rfl, cc⟩
  have B1 := below_trans B0 cc
  clear a0 a1 a2 a3 cc
  obtain ⟨a0, a1, a2, a3⟩ := (bxa.later B1).at4
  dsimp only at a0 a1 a2 a3
  go_wp2_with fail
  refine (T _ (below_trans Bw B1)).mono ?_
  rintro e w2 ⟨rfl, cc⟩
  have B2 := below_trans B1 cc
  clear a0 a1 a2 a3 cc
  obtain ⟨a0, a1, a2, a3⟩ := (bxa.later B2).at4
  dsimp only at a0 a1 a2 a3
  have br := bxr.later B2
  obtain ⟨r0, r1, r2, r3⟩ := br.at4
  dsimp only [nul] at r0 r1 r2 r3
  simp only [Nat.zero_add] at r1 r2 r3
  have f0 := br.free 0
  have f1 := br.free 1
  have f2 := br.free 2
  have f3 := br.free 3
  have lt1 := br.lt
  have Be := below_trans Bw B2
  go_wp2
  refine bodyPost_ret_by (v := .tuple #[va 4 rn 0 ⟨#[]⟩, .int .i64 0]) ?_ rfl ⟨rfl, ?_⟩
  · simp [results, Tryz.results14, go_sem, r0, r1, r2, r3]
  · refine below_trans (Be.setCell (p := ⟨w.heap.size + 1, 0, none⟩) (by dsimp only; omega) (.int .i64 4) |>.setCell (p := ⟨w.heap.size + 1, 1, none⟩) (by dsimp only; omega) (.int .i64 rn) |>.setCell (p := ⟨w.heap.size + 1, 2, none⟩) (by dsimp only; omega) (.int .i64 0) |>.setCell (p := ⟨w.heap.size + 1, 3, none⟩) (by dsimp only; omega) (.string ⟨#[]⟩)) (Grew.below ?_)
    repeat (first | assumption | exact Grew.refl _ | apply Grew.drew | apply Grew.drewN | apply Grew.alloc | apply Grew.more)

set_option maxHeartbeats 2000000 in
theorem qun_not (ak : Int) (an am : Int) (ab : List UInt8) (w : World) (rk rn rm re : Int) (rb : ByteArray) (Ra : Tells 42 #[va ak an am ⟨ab.toArray⟩] w (.bool true)) (F : Tells 44 #[va ak an am ⟨ab.toArray⟩] w (.tuple #[va rk rn rm rb, .int .i64 re])) :
    Calls Tryz.prog 14 #[.int .i64 4, va ak an am ⟨ab.toArray⟩] w fun e w' => e = .returned (.tuple #[va rk rn rm rb, .int .i64 re]) ∧ Below w.heap.size w w' := by
  obtain ⟨w0, hw0, bxa, bxr, Bw⟩ := one_boxes w ⟨ak, an, am, ab⟩
  dsimp only at hw0
  have B0 : Below w0.heap.size w0 w0 := Below.refl _ _
  go_enter Tryz.func14, Tryz.ntmps14
  go_upto_region 1 with fail
  rw [← hw0]
  clear hw0
  obtain ⟨a0, a1, a2, a3⟩ := bxa.at4
  dsimp only at a0 a1 a2 a3
  go_wp2_with fail
  refine (Ra _ (below_trans Bw B0)).mono ?_
  rintro e w1 ⟨rfl, cc⟩
  have B1 := below_trans B0 cc
  clear a0 a1 a2 a3 cc
  obtain ⟨a0, a1, a2, a3⟩ := (bxa.later B1).at4
  dsimp only at a0 a1 a2 a3
  go_wp2_with fail
  refine (F _ (below_trans Bw B1)).mono ?_
  rintro e w2 ⟨rfl, cc⟩
  have B2 := below_trans B1 cc
  clear a0 a1 a2 a3 cc
  obtain ⟨a0, a1, a2, a3⟩ := (bxa.later B2).at4
  dsimp only at a0 a1 a2 a3
  have br := bxr.later B2
  obtain ⟨r0, r1, r2, r3⟩ := br.at4
  dsimp only [nul] at r0 r1 r2 r3
  simp only [Nat.zero_add] at r1 r2 r3
  have f0 := br.free 0
  have f1 := br.free 1
  have f2 := br.free 2
  have f3 := br.free 3
  have lt1 := br.lt
  have Be := below_trans Bw B2
  go_wp2
  refine bodyPost_ret_by (v := .tuple #[va rk rn rm rb, .int .i64 re]) ?_ rfl ⟨rfl, ?_⟩
  · simp [results, Tryz.results14, go_sem, r0, r1, r2, r3]
  · refine below_trans (Be.setCell (p := ⟨w.heap.size + 1, 0, none⟩) (by dsimp only; omega) (.int .i64 rk) |>.setCell (p := ⟨w.heap.size + 1, 1, none⟩) (by dsimp only; omega) (.int .i64 rn) |>.setCell (p := ⟨w.heap.size + 1, 2, none⟩) (by dsimp only; omega) (.int .i64 rm) |>.setCell (p := ⟨w.heap.size + 1, 3, none⟩) (by dsimp only; omega) (.string rb)) (Grew.below ?_)
    repeat (first | assumption | exact Grew.refl _ | apply Grew.drew | apply Grew.drewN | apply Grew.alloc | apply Grew.more)

set_option maxHeartbeats 2000000 in
theorem qun_neg (ak : Int) (an am : Int) (ab : List UInt8) (w : World) (rk rn rm re : Int) (rb : ByteArray) (Ra : Tells 42 #[va ak an am ⟨ab.toArray⟩] w (.bool true)) (F : Tells 45 #[va ak an am ⟨ab.toArray⟩] w (.tuple #[va rk rn rm rb, .int .i64 re])) :
    Calls Tryz.prog 14 #[.int .i64 3, va ak an am ⟨ab.toArray⟩] w fun e w' => e = .returned (.tuple #[va rk rn rm rb, .int .i64 re]) ∧ Below w.heap.size w w' := by
  obtain ⟨w0, hw0, bxa, bxr, Bw⟩ := one_boxes w ⟨ak, an, am, ab⟩
  dsimp only at hw0
  have B0 : Below w0.heap.size w0 w0 := Below.refl _ _
  go_enter Tryz.func14, Tryz.ntmps14
  go_upto_region 1 with fail
  rw [← hw0]
  clear hw0
  obtain ⟨a0, a1, a2, a3⟩ := bxa.at4
  dsimp only at a0 a1 a2 a3
  go_wp2_with fail
  refine (Ra _ (below_trans Bw B0)).mono ?_
  rintro e w1 ⟨rfl, cc⟩
  have B1 := below_trans B0 cc
  clear a0 a1 a2 a3 cc
  obtain ⟨a0, a1, a2, a3⟩ := (bxa.later B1).at4
  dsimp only at a0 a1 a2 a3
  go_wp2_with fail
  refine (F _ (below_trans Bw B1)).mono ?_
  rintro e w2 ⟨rfl, cc⟩
  have B2 := below_trans B1 cc
  clear a0 a1 a2 a3 cc
  obtain ⟨a0, a1, a2, a3⟩ := (bxa.later B2).at4
  dsimp only at a0 a1 a2 a3
  have br := bxr.later B2
  obtain ⟨r0, r1, r2, r3⟩ := br.at4
  dsimp only [nul] at r0 r1 r2 r3
  simp only [Nat.zero_add] at r1 r2 r3
  have f0 := br.free 0
  have f1 := br.free 1
  have f2 := br.free 2
  have f3 := br.free 3
  have lt1 := br.lt
  have Be := below_trans Bw B2
  go_wp2
  refine bodyPost_ret_by (v := .tuple #[va rk rn rm rb, .int .i64 re]) ?_ rfl ⟨rfl, ?_⟩
  · simp [results, Tryz.results14, go_sem, r0, r1, r2, r3]
  · refine below_trans (Be.setCell (p := ⟨w.heap.size + 1, 0, none⟩) (by dsimp only; omega) (.int .i64 rk) |>.setCell (p := ⟨w.heap.size + 1, 1, none⟩) (by dsimp only; omega) (.int .i64 rn) |>.setCell (p := ⟨w.heap.size + 1, 2, none⟩) (by dsimp only; omega) (.int .i64 rm) |>.setCell (p := ⟨w.heap.size + 1, 3, none⟩) (by dsimp only; omega) (.string rb)) (Grew.below ?_)
    repeat (first | assumption | exact Grew.refl _ | apply Grew.drew | apply Grew.drewN | apply Grew.alloc | apply Grew.more)

theorem qun_any (op : Int) (a : Va) (w : World) (hT : Tabs w) (hP : Pw w) (va' : vin a) :
    Calls Tryz.prog 14 #[.int .i64 op, vv a] w fun e w' => e = .returned (rs (unR op a)) ∧ Below w.heap.size w w' := by
  have Ra : Tells 42 #[vv a] w (.bool (vr a)) := fun W h => vright_any a.k a.n a.m ⟨a.b.toArray⟩ W (hT.later h)
  unfold unR
  by_cases o1 : op < 3
  · rw [if_pos (by omega)]
    exact qun_low op a.k a.n a.m a.b w o1
  by_cases o2 : op > 5
  · rw [if_pos (by omega)]
    exact qun_high op a.k a.n a.m a.b w o1 o2
  cases hr : vr a
  · rw [hr] at Ra
    rw [if_pos (by simp)]
    exact qun_bad op a.k a.n a.m a.b w o1 o2 Ra
  rw [hr] at Ra
  rw [if_neg (by simp; omega)]
  by_cases h5 : op = 5
  · subst h5
    rw [if_pos rfl]
    exact qun_isnull a.k a.n a.m a.b w _ Ra (fun W _ => (qtruth_any (a.k == 0) W).mono fun _ _ h => ⟨h.1, h.2.below⟩)
  rw [if_neg h5]
  by_cases h4 : op = 4
  · subst h4
    rw [if_pos rfl]
    exact qun_not a.k a.n a.m a.b w _ _ _ _ _ Ra (fun W _ => (qnot_any a W).mono fun _ _ h => ⟨h.1, h.2.below⟩)
  rw [if_neg h4]
  obtain rfl : op = 3 := by omega
  exact qun_neg a.k a.n a.m a.b w _ _ _ _ _ Ra (fun W h => (qneg_any a W (hP.below h) hr va').mono fun _ _ h => ⟨h.1, h.2.below⟩)
end Go.Proofs.YtgapmofhnjfdiaaGreatDoor

namespace Go.Proofs.YtgapmofhnjfdiaaGreatDoor
open Go.RowKit Go.Shelf
attribute [local go_sem] cell?_more frozen?_more setCell_more more_lt more_more more_drew more_drewN setCell_drewN alloc_drewN

theorem rnumber7_any (k n m : Int) (b : ByteArray) (w : World) : Calls Tryz.prog 70 #[va k n m b] w fun e w' => e = .returned (.bool (k == 1 || k == 2)) ∧ Grew w w' := by
  by_cases h : k = 1
  · subst h
    go_enter Tryz.func70, Tryz.ntmps70
    go_wp2
    all_goals go_ret
    all_goals exact ⟨rfl, by repeat (first | exact Grew.refl _ | apply Grew.drew | apply Grew.drewN | apply Grew.alloc | apply Grew.more)⟩
  · have h' : (k == 1) = false := by simpa using h
    rw [h', Bool.false_or]
    go_enter Tryz.func70, Tryz.ntmps70
    go_wp2
    all_goals go_ret
    all_goals exact ⟨rfl, by repeat (first | exact Grew.refl _ | apply Grew.drew | apply Grew.drewN | apply Grew.alloc | apply Grew.more)⟩

theorem rdec7_any (k n m : Int) (b : ByteArray) (w : World) : Calls Tryz.prog 52 #[va k n m b] w fun e w' => e = .returned (dv n m) ∧ Grew w w' := by
  go_enter Tryz.func52, Tryz.ntmps52
  go_wp2
  refine bodyPost_ret_by (v := dv n m) ?_ rfl ⟨rfl, ?_⟩
  · simp [results, Tryz.results52, go_sem]
  · repeat (first | exact Grew.refl _ | apply Grew.drew | apply Grew.drewN | apply Grew.alloc | apply Grew.more)

theorem rpoint7_any (k n m : Int) (b : ByteArray) (w : World) : Calls Tryz.prog 57 #[va k n m b] w fun e w' => e = .returned (dv n m) ∧ Grew w w' := by
  go_enter Tryz.func57, Tryz.ntmps57
  go_wp2
  refine bodyPost_ret_by (v := dv n m) ?_ rfl ⟨rfl, ?_⟩
  · simp [results, Tryz.results57, go_sem]
  · repeat (first | exact Grew.refl _ | apply Grew.drew | apply Grew.drewN | apply Grew.alloc | apply Grew.more)

theorem rofInt_any (n x : Int) (w : World) : Calls Tryz.prog 53 #[.int .i64 n, .int .i64 x] w fun e w' => e = .returned (rs (wholeR n x)) ∧ Grew w w' := by
  unfold wholeR
  by_cases h : x = 0
  · subst h
    rw [if_pos rfl]
    go_enter Tryz.func53, Tryz.ntmps53
    go_wp2
    refine bodyPost_ret_by (v := rs (vI n, 0)) ?_ rfl ⟨rfl, ?_⟩
    · simp [results, Tryz.results53, go_sem, vI]
    · repeat (first | exact Grew.refl _ | apply Grew.drew | apply Grew.drewN | apply Grew.alloc | apply Grew.more)
  · rw [if_neg h]
    have h' : (x == 0) = false := by simpa using h
    go_enter Tryz.func53, Tryz.ntmps53
    go_wp2
    refine bodyPost_ret_by (v := rs (nul, x)) ?_ rfl ⟨rfl, ?_⟩
    · simp [results, Tryz.results53, go_sem, nul]
    · repeat (first | exact Grew.refl _ | apply Grew.drew | apply Grew.drewN | apply Grew.alloc | apply Grew.more)

theorem rofDec_any (u s x : Int) (w : World) : Calls Tryz.prog 54 #[dv u s, .int .i64 x] w fun e w' => e = .returned (rs (exactR u s x)) ∧ Grew w w' := by
  unfold exactR
  by_cases h : x = 0
  · subst h
    rw [if_pos rfl]
    go_enter Tryz.func54, Tryz.ntmps54
    go_wp2
    refine bodyPost_ret_by (v := rs (vD u s, 0)) ?_ rfl ⟨rfl, ?_⟩
    · simp [results, Tryz.results54, go_sem, vD]
    · repeat (first | exact Grew.refl _ | apply Grew.drew | apply Grew.drewN | apply Grew.alloc | apply Grew.more)
  · rw [if_neg h]
    have h' : (x == 0) = false := by simpa using h
    go_enter Tryz.func54, Tryz.ntmps54
    go_wp2
    refine bodyPost_ret_by (v := rs (nul, x)) ?_ rfl ⟨rfl, ?_⟩
    · simp [results, Tryz.results54, go_sem, nul]
    · repeat (first | exact Grew.refl _ | apply Grew.drew | apply Grew.drewN | apply Grew.alloc | apply Grew.more)

theorem rofPoint_any (u s x : Int) (w : World) : Calls Tryz.prog 55 #[dv u s, .int .i64 x] w fun e w' => e = .returned (rs (placedR u s x)) ∧ Grew w w' := by
  unfold placedR
  by_cases h : x = 0
  · subst h
    rw [if_pos rfl]
    go_enter Tryz.func55, Tryz.ntmps55
    go_wp2
    refine bodyPost_ret_by (v := rs (vP u s, 0)) ?_ rfl ⟨rfl, ?_⟩
    · simp [results, Tryz.results55, go_sem, vP]
    · repeat (first | exact Grew.refl _ | apply Grew.drew | apply Grew.drewN | apply Grew.alloc | apply Grew.more)
  · rw [if_neg h]
    have h' : (x == 0) = false := by simpa using h
    go_enter Tryz.func55, Tryz.ntmps55
    go_wp2
    refine bodyPost_ret_by (v := rs (nul, x)) ?_ rfl ⟨rfl, ?_⟩
    · simp [results, Tryz.results55, go_sem, nul]
    · repeat (first | exact Grew.refl _ | apply Grew.drew | apply Grew.drewN | apply Grew.alloc | apply Grew.more)

theorem rtruth7_any (b : Bool) (w : World) : Calls Tryz.prog 71 #[.bool b] w fun e w' => e = .returned (vv (vB b)) ∧ Grew w w' := by
  have O1 : ∀ W, Calls Tryz.prog 48 #[.int .i64 1] W fun e w' => e = .returned (va 4 1 0 ⟨#[]⟩) ∧ Grew W w' := fun W => rof_any 1 W
  have O0 : ∀ W, Calls Tryz.prog 48 #[.int .i64 0] W fun e w' => e = .returned (va 4 0 0 ⟨#[]⟩) ∧ Grew W w' := fun W => rof_any 0 W
  cases b
  · go_enter Tryz.func71, Tryz.ntmps71
    go_wp2_with (first
      | (go_at_call_of 48 (Value.int IntKind.i64 1); refine (O1 _).mono ?_; rintro e w1 ⟨rfl, os1, n1, rfl⟩)
      | (go_at_call_of 48 (Value.int IntKind.i64 0); refine (O0 _).mono ?_; rintro e w1 ⟨rfl, os1, n1, rfl⟩))
    refine bodyPost_ret_by (v := vv (vB false)) ?_ rfl ⟨rfl, ?_⟩
    · simp [results, Tryz.results71, go_sem, vB]
    · repeat (first | exact Grew.refl _ | apply Grew.drew | apply Grew.drewN | apply Grew.alloc | apply Grew.more)
  · go_enter Tryz.func71, Tryz.ntmps71
    go_wp2_with (first
      | (go_at_call_of 48 (Value.int IntKind.i64 1); refine (O1 _).mono ?_; rintro e w1 ⟨rfl, os1, n1, rfl⟩)
      | (go_at_call_of 48 (Value.int IntKind.i64 0); refine (O0 _).mono ?_; rintro e w1 ⟨rfl, os1, n1, rfl⟩))
    refine bodyPost_ret_by (v := vv (vB true)) ?_ rfl ⟨rfl, ?_⟩
    · simp [results, Tryz.results71, go_sem, vB]
    · repeat (first | exact Grew.refl _ | apply Grew.drew | apply Grew.drewN | apply Grew.alloc | apply Grew.more)

theorem rnull7_any (k n m : Int) (b : ByteArray) (w : World) : Calls Tryz.prog 47 #[va k n m b] w fun e w' => e = .returned (.bool (k == 0)) ∧ Grew w w' := by
  go_enter Tryz.func47, Tryz.ntmps47
  go_wp2
  all_goals go_ret
  all_goals exact ⟨rfl, (by repeat (first | assumption | exact Grew.refl _ | apply Grew.drew | apply Grew.drewN | apply Grew.alloc | apply Grew.more))⟩

/-- Does a comparison hold of two that stand so? -/
def hb7 (op c : Int) : Bool := if op = 11 then c == 0 else if op = 12 then !(c == 0) else if op = 13 then decide (c < 0) else if op = 14 then decide (c ≤ 0) else if op = 15 then decide (c > 0) else decide (c ≥ 0)
theorem cmpR_hb (op c : Int) (h1 : 11 ≤ op) (h2 : op ≤ 16) : cmpR op c = (vB (hb7 op c), 0) := by
  unfold cmpR hb7
  split
  · rfl
  split
  · rfl
  split
  · rfl
  split
  · rfl
  split
  · rfl
  split
  · rfl
  · omega

theorem rholds_any (op c : Int) (w : World) : Calls Tryz.prog 72 #[.int .i64 op, .int .i64 c] w fun e w' => e = .returned (.bool (hb7 op c)) ∧ w = w' := by
  unfold hb7
  by_cases h11 : op = 11
  · subst h11
    rw [if_pos rfl]
    go_enter Tryz.func72, Tryz.ntmps72
    go_wp2
    go_ret
    exact ⟨rfl, rfl⟩
  have c11 : (op == 11) = false := by simpa using h11
  by_cases h12 : op = 12
  · subst h12
    rw [if_neg (by decide), if_pos rfl]
    go_enter Tryz.func72, Tryz.ntmps72
    go_wp2
    go_ret
    exact ⟨rfl, rfl⟩
  have c12 : (op == 12) = false := by simpa using h12
  by_cases h13 : op = 13
  · subst h13
    rw [if_neg (by decide), if_neg (by decide), if_pos rfl]
    go_enter Tryz.func72, Tryz.ntmps72
    go_wp2
    go_ret
    exact ⟨rfl, rfl⟩
  have c13 : (op == 13) = false := by simpa using h13
  by_cases h14 : op = 14
  · subst h14
    rw [if_neg (by decide), if_neg (by decide), if_neg (by decide), if_pos rfl]
    go_enter Tryz.func72, Tryz.ntmps72
    go_wp2
    go_ret
    exact ⟨rfl, rfl⟩
  have c14 : (op == 14) = false := by simpa using h14
  by_cases h15 : op = 15
  · subst h15
    rw [if_neg (by decide), if_neg (by decide), if_neg (by decide), if_neg (by decide), if_pos rfl]
    go_enter Tryz.func72, Tryz.ntmps72
    go_wp2
    go_ret
    exact ⟨rfl, rfl⟩
  have c15 : (op == 15) = false := by simpa using h15
  rw [if_neg h11, if_neg h12, if_neg h13, if_neg h14, if_neg h15]
  go_enter Tryz.func72, Tryz.ntmps72
  go_wp2
  go_ret
  exact ⟨rfl, rfl⟩
end Go.Proofs.YtgapmofhnjfdiaaGreatDoor

namespace Go.Proofs.YtgapmofhnjfdiaaGreatDoor
open Go.RowKit Go.Shelf
attribute [local go_sem] cell?_more frozen?_more setCell_more more_lt more_more more_drew more_drewN setCell_drewN alloc_drewN
attribute [local go_sem high] Ga.cellMA Ga.frozenMA Ga.setMA Ga.cellMAM Ga.frozenMAM Ga.setMAM Ga.cellMAA Ga.frozenMAA Ga.setMAA Ga.cellMAAM Ga.frozenMAAM Ga.setMAAM Ga.cellMAMA Ga.frozenMAMA Ga.setMAMA Ga.cellMAMAM Ga.frozenMAMAM Ga.setMAMAM Ga.cellMAMAMA Ga.frozenMAMAMA Ga.setMAMAMA Ga.cellMAMAMAM Ga.frozenMAMAMAM Ga.setMAMAMAM Ga.size_blank

set_option maxHeartbeats 2000000 in
theorem rpt_9 (an am bn bm x y z : Int) (w : World) (D : ∀ W, Calls Tryz.prog 196 #[dv an am, dv bn bm] W fun e w' => e = .returned (.tuple #[dv x y, .int .i64 z]) ∧ Grew W w') :
    Calls Tryz.prog 135 #[.int .i64 9, dv an am, dv bn bm] w fun e w' => e = .returned (rs (placedR x y z)) ∧ Grew w w' := by
  have H := fun n s x W => rofPoint_any n s x W
  go_enter Tryz.func135, Tryz.ntmps135
  go_wp2_with (first
    | (go_at_call 196; refine (D _).mono ?_; rintro e w1 ⟨rfl, os1, n1, rfl⟩)
    | (go_at_call 55; refine (H _ _ _ _).mono ?_; rintro e w1 ⟨rfl, os2, n2, rfl⟩))
  refine bodyPost_ret_by (v := rs (placedR x y z)) ?_ rfl ⟨rfl, (by repeat (first | assumption | exact Grew.refl _ | apply Grew.drew | apply Grew.drewN | apply Grew.alloc | apply Grew.more))⟩
  simp [results, Tryz.results135, go_sem]

set_option maxHeartbeats 2000000 in
theorem rpt_10 (an am bn bm x y z : Int) (w : World) (D : ∀ W, Calls Tryz.prog 197 #[dv an am, dv bn bm] W fun e w' => e = .returned (.tuple #[dv x y, .int .i64 z]) ∧ Grew W w') :
    Calls Tryz.prog 135 #[.int .i64 10, dv an am, dv bn bm] w fun e w' => e = .returned (rs (placedR x y z)) ∧ Grew w w' := by
  have H := fun n s x W => rofPoint_any n s x W
  go_enter Tryz.func135, Tryz.ntmps135
  go_wp2_with (first
    | (go_at_call 197; refine (D _).mono ?_; rintro e w1 ⟨rfl, os1, n1, rfl⟩)
    | (go_at_call 55; refine (H _ _ _ _).mono ?_; rintro e w1 ⟨rfl, os2, n2, rfl⟩))
  refine bodyPost_ret_by (v := rs (placedR x y z)) ?_ rfl ⟨rfl, (by repeat (first | assumption | exact Grew.refl _ | apply Grew.drew | apply Grew.drewN | apply Grew.alloc | apply Grew.more))⟩
  simp [results, Tryz.results135, go_sem]

set_option maxHeartbeats 2000000 in
theorem rpt_6 (an am bn bm x y z : Int) (w : World) (D : ∀ W, Calls Tryz.prog 195 #[dv an am, dv bn bm] W fun e w' => e = .returned (.tuple #[dv x y, .int .i64 z]) ∧ Grew W w') :
    Calls Tryz.prog 135 #[.int .i64 6, dv an am, dv bn bm] w fun e w' => e = .returned (rs (placedR x y z)) ∧ Grew w w' := by
  have H := fun n s x W => rofPoint_any n s x W
  go_enter Tryz.func135, Tryz.ntmps135
  go_wp2_with (first
    | (go_at_call 195; refine (D _).mono ?_; rintro e w1 ⟨rfl, os1, n1, rfl⟩)
    | (go_at_call 55; refine (H _ _ _ _).mono ?_; rintro e w1 ⟨rfl, os2, n2, rfl⟩))
  refine bodyPost_ret_by (v := rs (placedR x y z)) ?_ rfl ⟨rfl, (by repeat (first | assumption | exact Grew.refl _ | apply Grew.drew | apply Grew.drewN | apply Grew.alloc | apply Grew.more))⟩
  simp [results, Tryz.results135, go_sem]

set_option maxHeartbeats 2000000 in
theorem rpt_7 (an am bn bm x y u v z : Int) (w : World) (D : ∀ W, Calls Tryz.prog 198 #[dv an am, dv bn bm] W fun e w' => e = .returned (.tuple #[dv x y, dv u v, .int .i64 z]) ∧ Grew W w') :
    Calls Tryz.prog 135 #[.int .i64 7, dv an am, dv bn bm] w fun e w' => e = .returned (rs (placedR x y z)) ∧ Grew w w' := by
  have H := fun n s x W => rofPoint_any n s x W
  go_enter Tryz.func135, Tryz.ntmps135
  go_wp2_with (first
    | (go_at_call 198; refine (D _).mono ?_; rintro e w1 ⟨rfl, os1, n1, rfl⟩)
    | (go_at_call 55; refine (H _ _ _ _).mono ?_; rintro e w1 ⟨rfl, os2, n2, rfl⟩))
  refine bodyPost_ret_by (v := rs (placedR x y z)) ?_ rfl ⟨rfl, (by repeat (first | assumption | exact Grew.refl _ | apply Grew.drew | apply Grew.drewN | apply Grew.alloc | apply Grew.more))⟩
  simp [results, Tryz.results135, go_sem]

set_option maxHeartbeats 2000000 in
theorem rpt_8 (an am bn bm x y u v z : Int) (w : World) (D : ∀ W, Calls Tryz.prog 198 #[dv an am, dv bn bm] W fun e w' => e = .returned (.tuple #[dv x y, dv u v, .int .i64 z]) ∧ Grew W w') :
    Calls Tryz.prog 135 #[.int .i64 8, dv an am, dv bn bm] w fun e w' => e = .returned (rs (placedR u v z)) ∧ Grew w w' := by
  have H := fun n s x W => rofPoint_any n s x W
  go_enter Tryz.func135, Tryz.ntmps135
  go_wp2_with (first
    | (go_at_call 198; refine (D _).mono ?_; rintro e w1 ⟨rfl, os1, n1, rfl⟩)
    | (go_at_call 55; refine (H _ _ _ _).mono ?_; rintro e w1 ⟨rfl, os2, n2, rfl⟩))
  refine bodyPost_ret_by (v := rs (placedR u v z)) ?_ rfl ⟨rfl, (by repeat (first | assumption | exact Grew.refl _ | apply Grew.drew | apply Grew.drewN | apply Grew.alloc | apply Grew.more))⟩
  simp [results, Tryz.results135, go_sem]

theorem rpoints7_any (op : Int) (a b : Va) (w : World) (h1 : 6 ≤ op) (h2 : op ≤ 10) (ha : Ga.ok2 a.n a.m = true) (hb : Ga.ok2 b.n b.m = true) :
    Calls Tryz.prog 135 #[.int .i64 op, dv a.n a.m, dv b.n b.m] w fun e w' => e = .returned (rs (ptsR op a b)) ∧ Grew w w' := by
  unfold ptsR ptR
  rcases (by omega : op = 9 ∨ op = 10 ∨ op = 6 ∨ op = 7 ∨ op = 8) with rfl | rfl | rfl | rfl | rfl
  · exact rpt_9 _ _ _ _ _ _ _ w (fun W => Ga.radd_good a.n a.m b.n b.m W ha hb)
  · exact rpt_10 _ _ _ _ _ _ _ w (fun W => Ga.rsub_good a.n a.m b.n b.m W ha hb)
  · exact rpt_6 _ _ _ _ _ _ _ w (fun W => Ga.rmul_good a.n a.m b.n b.m W ha hb)
  · rw [if_neg (by decide), if_neg (by decide), if_neg (by decide), if_pos rfl]
    by_cases hz : b.n = 0 ∧ b.m = 0
    · rw [if_pos hz, hz.1, hz.2]
      exact rpt_7 _ _ _ _ _ _ _ _ _ w (fun W => Ga.rdiv_zero a.n a.m W ha)
    · rw [if_neg hz]
      exact rpt_7 _ _ _ _ _ _ _ _ _ w (fun W => Ga.rdiv_good a.n a.m b.n b.m W ha hb (Ga.norm_pos hz))
  · rw [if_neg (by decide), if_neg (by decide), if_neg (by decide), if_neg (by decide), if_pos rfl]
    by_cases hz : b.n = 0 ∧ b.m = 0
    · rw [if_pos hz, hz.1, hz.2]
      exact rpt_8 _ _ _ _ _ _ _ _ _ w (fun W => Ga.rdiv_zero a.n a.m W ha)
    · rw [if_neg hz]
      exact rpt_8 _ _ _ _ _ _ _ _ _ w (fun W => Ga.rdiv_good a.n a.m b.n b.m W ha hb (Ga.norm_pos hz))
end Go.Proofs.YtgapmofhnjfdiaaGreatDoor

namespace Go.Proofs.YtgapmofhnjfdiaaGreatDoor
open Go.RowKit Go.Shelf
attribute [local go_sem] cell?_more frozen?_more setCell_more more_lt more_more more_drew more_drewN setCell_drewN alloc_drewN

set_option maxRecDepth 20000 in
set_option maxHeartbeats 4000000 in
theorem rbin_low (op : Int) (ak : Int) (bk : Int) (an am bn bm : Int) (ab bb : List UInt8) (w : World) (o1 : op < 6)  :
    Calls Tryz.prog 17 #[.int .i64 op, va ak an am ⟨ab.toArray⟩, va bk bn bm ⟨bb.toArray⟩] w fun e w' => e = .returned (.tuple #[va 0 0 0 ⟨#[]⟩, .int .i64 1]) ∧ Below w.heap.size w w' := by
  obtain ⟨w0, hw0, bxa, bxb, bxr, Bw⟩ := three_boxes w ⟨ak, an, am, ab⟩ ⟨bk, bn, bm, bb⟩
  dsimp only at hw0
  go_enter Tryz.func17, Tryz.ntmps17
  go_upto_region 1 with fail
  rw [← hw0]
  clear hw0
  have B0 : Below w0.heap.size w0 w0 := Below.refl _ _
  obtain ⟨a0, a1, a2, a3⟩ := (bxa.later B0).at4
  obtain ⟨b0, b1, b2, b3⟩ := (bxb.later B0).at4
  dsimp only at a0 a1 a2 a3 b0 b1 b2 b3
  have br := bxr.later B0
  obtain ⟨r0, r1, r2, r3⟩ := br.at4
  dsimp only [nul] at r0 r1 r2 r3
  simp only [Nat.zero_add] at r1 r2 r3
  have f0 := br.free 0
  have f1 := br.free 1
  have f2 := br.free 2
  have f3 := br.free 3
  have lt1 := br.lt
  have Be := below_trans Bw B0
  go_wp2
  refine bodyPost_ret_by (v := .tuple #[va 0 0 0 ⟨#[]⟩, .int .i64 1]) ?_ rfl ⟨rfl, ?_⟩
  · simp [results, Tryz.results17, go_sem, r0, r1, r2, r3]
  · exact (((Be.setCell (p := ⟨w.heap.size + 1 + 1, 0, none⟩) (by dsimp only; omega) _).setCell (p := ⟨w.heap.size + 1 + 1, 1, none⟩) (by dsimp only; omega) _).setCell (p := ⟨w.heap.size + 1 + 1, 2, none⟩) (by dsimp only; omega) _).setCell (p := ⟨w.heap.size + 1 + 1, 3, none⟩) (by dsimp only; omega) _


set_option maxRecDepth 20000 in
set_option maxHeartbeats 4000000 in
theorem rbin_badB (op : Int) (ak : Int) (bk : Int) (an am bn bm : Int) (ab bb : List UInt8) (w : World) (o1 : ¬ op < 6) (o2 : ¬ op > 18) (Ra : Tells 46 #[va ak an am ⟨ab.toArray⟩] w (.bool true)) (Rb : Tells 46 #[va bk bn bm ⟨bb.toArray⟩] w (.bool false)) :
    Calls Tryz.prog 17 #[.int .i64 op, va ak an am ⟨ab.toArray⟩, va bk bn bm ⟨bb.toArray⟩] w fun e w' => e = .returned (.tuple #[va 0 0 0 ⟨#[]⟩, .int .i64 1]) ∧ Below w.heap.size w w' := by
  obtain ⟨w0, hw0, bxa, bxb, bxr, Bw⟩ := three_boxes w ⟨ak, an, am, ab⟩ ⟨bk, bn, bm, bb⟩
  dsimp only at hw0
  go_enter Tryz.func17, Tryz.ntmps17
  go_upto_region 1 with fail
  rw [← hw0]
  clear hw0
  have B0 : Below w0.heap.size w0 w0 := Below.refl _ _
  obtain ⟨a0, a1, a2, a3⟩ := (bxa.later B0).at4
  obtain ⟨b0, b1, b2, b3⟩ := (bxb.later B0).at4
  dsimp only at a0 a1 a2 a3 b0 b1 b2 b3
  go_wp2_with fail
  refine (Ra _ (below_trans Bw B0)).mono ?_
  rintro e w1 ⟨rfl, c⟩
  have B1 := below_trans B0 c
  clear a0 a1 a2 a3 b0 b1 b2 b3 c
  obtain ⟨a0, a1, a2, a3⟩ := (bxa.later B1).at4
  obtain ⟨b0, b1, b2, b3⟩ := (bxb.later B1).at4
  dsimp only at a0 a1 a2 a3 b0 b1 b2 b3
  go_wp2_with fail
  refine (Rb _ (below_trans Bw B1)).mono ?_
  rintro e w2 ⟨rfl, c⟩
  have B2 := below_trans B1 c
  clear a0 a1 a2 a3 b0 b1 b2 b3 c
  obtain ⟨a0, a1, a2, a3⟩ := (bxa.later B2).at4
  obtain ⟨b0, b1, b2, b3⟩ := (bxb.later B2).at4
  dsimp only at a0 a1 a2 a3 b0 b1 b2 b3
  have br := bxr.later B2
  obtain ⟨r0, r1, r2, r3⟩ := br.at4
  dsimp only [nul] at r0 r1 r2 r3
  simp only [Nat.zero_add] at r1 r2 r3
  have f0 := br.free 0
  have f1 := br.free 1
  have f2 := br.free 2
  have f3 := br.free 3
  have lt1 := br.lt
  have Be := below_trans Bw B2
  go_wp2
  refine bodyPost_ret_by (v := .tuple #[va 0 0 0 ⟨#[]⟩, .int .i64 1]) ?_ rfl ⟨rfl, ?_⟩
  · simp [results, Tryz.results17, go_sem, r0, r1, r2, r3]
  · exact (((Be.setCell (p := ⟨w.heap.size + 1 + 1, 0, none⟩) (by dsimp only; omega) _).setCell (p := ⟨w.heap.size + 1 + 1, 1, none⟩) (by dsimp only; omega) _).setCell (p := ⟨w.heap.size + 1 + 1, 2, none⟩) (by dsimp only; omega) _).setCell (p := ⟨w.heap.size + 1 + 1, 3, none⟩) (by dsimp only; omega) _


set_option maxRecDepth 20000 in
set_option maxHeartbeats 4000000 in
theorem rbin_ft17 (ak : Int) (bk : Int) (an am bn bm : Int) (ab bb : List UInt8) (w : World) (t u : Int) (Ra : Tells 46 #[va ak an am ⟨ab.toArray⟩] w (.bool true)) (Rb : Tells 46 #[va bk bn bm ⟨bb.toArray⟩] w (.bool true)) (Ta : Tells 49 #[va ak an am ⟨ab.toArray⟩] w (.tuple #[.int .i64 t, .bool true])) (Tb : Tells 49 #[va bk bn bm ⟨bb.toArray⟩] w (.tuple #[.int .i64 u, .bool false])) :
    Calls Tryz.prog 17 #[.int .i64 17, va ak an am ⟨ab.toArray⟩, va bk bn bm ⟨bb.toArray⟩] w fun e w' => e = .returned (.tuple #[va 0 0 0 ⟨#[]⟩, .int .i64 31]) ∧ Below w.heap.size w w' := by
  obtain ⟨w0, hw0, bxa, bxb, bxr, Bw⟩ := three_boxes w ⟨ak, an, am, ab⟩ ⟨bk, bn, bm, bb⟩
  dsimp only at hw0
  go_enter Tryz.func17, Tryz.ntmps17
  go_upto_region 1 with fail
  rw [← hw0]
  clear hw0
  have B0 : Below w0.heap.size w0 w0 := Below.refl _ _
  obtain ⟨a0, a1, a2, a3⟩ := (bxa.later B0).at4
  obtain ⟨b0, b1, b2, b3⟩ := (bxb.later B0).at4
  dsimp only at a0 a1 a2 a3 b0 b1 b2 b3
  go_wp2_with fail
  refine (Ra _ (below_trans Bw B0)).mono ?_
  rintro e w1 ⟨rfl, c⟩
  have B1 := below_trans B0 c
  clear a0 a1 a2 a3 b0 b1 b2 b3 c
  obtain ⟨a0, a1, a2, a3⟩ := (bxa.later B1).at4
  obtain ⟨b0, b1, b2, b3⟩ := (bxb.later B1).at4
  dsimp only at a0 a1 a2 a3 b0 b1 b2 b3
  go_wp2_with fail
  refine (Rb _ (below_trans Bw B1)).mono ?_
  rintro e w2 ⟨rfl, c⟩
  have B2 := below_trans B1 c
  clear a0 a1 a2 a3 b0 b1 b2 b3 c
  obtain ⟨a0, a1, a2, a3⟩ := (bxa.later B2).at4
  obtain ⟨b0, b1, b2, b3⟩ := (bxb.later B2).at4
  dsimp only at a0 a1 a2 a3 b0 b1 b2 b3
  go_wp2_with fail
  refine (Ta _ (below_trans Bw B2)).mono ?_
  rintro e w3 ⟨rfl, c⟩
  have B3 := below_trans B2 c
  clear a0 a1 a2 a3 b0 b1 b2 b3 c
  obtain ⟨a0, a1, a2, a3⟩ := (bxa.later B3).at4
  obtain ⟨b0, b1, b2, b3⟩ := (bxb.later B3).at4
  dsimp only at a0 a1 a2 a3 b0 b1 b2 b3
  go_wp2_with fail
  refine (Tb _ (below_trans Bw B3)).mono ?_
  rintro e w4 ⟨rfl, c⟩
  have B4 := below_trans B3 c
  clear a0 a1 a2 a3 b0 b1 b2 b3 c
  obtain ⟨a0, a1, a2, a3⟩ := (bxa.later B4).at4
  obtain ⟨b0, b1, b2, b3⟩ := (bxb.later B4).at4
  dsimp only at a0 a1 a2 a3 b0 b1 b2 b3
  have br := bxr.later B4
  obtain ⟨r0, r1, r2, r3⟩ := br.at4
  dsimp only [nul] at r0 r1 r2 r3
  simp only [Nat.zero_add] at r1 r2 r3
  have f0 := br.free 0
  have f1 := br.free 1
  have f2 := br.free 2
  have f3 := br.free 3
  have lt1 := br.lt
  have Be := below_trans Bw B4
  go_wp2
  refine bodyPost_ret_by (v := .tuple #[va 0 0 0 ⟨#[]⟩, .int .i64 31]) ?_ rfl ⟨rfl, ?_⟩
  · simp [results, Tryz.results17, go_sem, r0, r1, r2, r3]
  · exact (((Be.setCell (p := ⟨w.heap.size + 1 + 1, 0, none⟩) (by dsimp only; omega) _).setCell (p := ⟨w.heap.size + 1 + 1, 1, none⟩) (by dsimp only; omega) _).setCell (p := ⟨w.heap.size + 1 + 1, 2, none⟩) (by dsimp only; omega) _).setCell (p := ⟨w.heap.size + 1 + 1, 3, none⟩) (by dsimp only; omega) _


set_option maxRecDepth 20000 in
set_option maxHeartbeats 4000000 in
theorem rbin_ft18 (ak : Int) (bk : Int) (an am bn bm : Int) (ab bb : List UInt8) (w : World) (t u : Int) (Ra : Tells 46 #[va ak an am ⟨ab.toArray⟩] w (.bool true)) (Rb : Tells 46 #[va bk bn bm ⟨bb.toArray⟩] w (.bool true)) (Ta : Tells 49 #[va ak an am ⟨ab.toArray⟩] w (.tuple #[.int .i64 t, .bool true])) (Tb : Tells 49 #[va bk bn bm ⟨bb.toArray⟩] w (.tuple #[.int .i64 u, .bool false])) :
    Calls Tryz.prog 17 #[.int .i64 18, va ak an am ⟨ab.toArray⟩, va bk bn bm ⟨bb.toArray⟩] w fun e w' => e = .returned (.tuple #[va 0 0 0 ⟨#[]⟩, .int .i64 31]) ∧ Below w.heap.size w w' := by
  obtain ⟨w0, hw0, bxa, bxb, bxr, Bw⟩ := three_boxes w ⟨ak, an, am, ab⟩ ⟨bk, bn, bm, bb⟩
  dsimp only at hw0
  go_enter Tryz.func17, Tryz.ntmps17
  go_upto_region 1 with fail
  rw [← hw0]
  clear hw0
  have B0 : Below w0.heap.size w0 w0 := Below.refl _ _
  obtain ⟨a0, a1, a2, a3⟩ := (bxa.later B0).at4
  obtain ⟨b0, b1, b2, b3⟩ := (bxb.later B0).at4
  dsimp only at a0 a1 a2 a3 b0 b1 b2 b3
  go_wp2_with fail
  refine (Ra _ (below_trans Bw B0)).mono ?_
  rintro e w1 ⟨rfl, c⟩
  have B1 := below_trans B0 c
  clear a0 a1 a2 a3 b0 b1 b2 b3 c
  obtain ⟨a0, a1, a2, a3⟩ := (bxa.later B1).at4
  obtain ⟨b0, b1, b2, b3⟩ := (bxb.later B1).at4
  dsimp only at a0 a1 a2 a3 b0 b1 b2 b3
  go_wp2_with fail
  refine (Rb _ (below_trans Bw B1)).mono ?_
  rintro e w2 ⟨rfl, c⟩
  have B2 := below_trans B1 c
  clear a0 a1 a2 a3 b0 b1 b2 b3 c
  obtain ⟨a0, a1, a2, a3⟩ := (bxa.later B2).at4
  obtain ⟨b0, b1, b2, b3⟩ := (bxb.later B2).at4
  dsimp only at a0 a1 a2 a3 b0 b1 b2 b3
  go_wp2_with fail
  refine (Ta _ (below_trans Bw B2)).mono ?_
  rintro e w3 ⟨rfl, c⟩
  have B3 := below_trans B2 c
  clear a0 a1 a2 a3 b0 b1 b2 b3 c
  obtain ⟨a0, a1, a2, a3⟩ := (bxa.later B3).at4
  obtain ⟨b0, b1, b2, b3⟩ := (bxb.later B3).at4
  dsimp only at a0 a1 a2 a3 b0 b1 b2 b3
  go_wp2_with fail
  refine (Tb _ (below_trans Bw B3)).mono ?_
  rintro e w4 ⟨rfl, c⟩
  have B4 := below_trans B3 c
  clear a0 a1 a2 a3 b0 b1 b2 b3 c
  obtain ⟨a0, a1, a2, a3⟩ := (bxa.later B4).at4
  obtain ⟨b0, b1, b2, b3⟩ := (bxb.later B4).at4
  dsimp only at a0 a1 a2 a3 b0 b1 b2 b3
  have br := bxr.later B4
  obtain ⟨r0, r1, r2, r3⟩ := br.at4
  dsimp only [nul] at r0 r1 r2 r3
  simp only [Nat.zero_add] at r1 r2 r3
  have f0 := br.free 0
  have f1 := br.free 1
  have f2 := br.free 2
  have f3 := br.free 3
  have lt1 := br.lt
  have Be := below_trans Bw B4
  go_wp2
  refine bodyPost_ret_by (v := .tuple #[va 0 0 0 ⟨#[]⟩, .int .i64 31]) ?_ rfl ⟨rfl, ?_⟩
  · simp [results, Tryz.results17, go_sem, r0, r1, r2, r3]
  · exact (((Be.setCell (p := ⟨w.heap.size + 1 + 1, 0, none⟩) (by dsimp only; omega) _).setCell (p := ⟨w.heap.size + 1 + 1, 1, none⟩) (by dsimp only; omega) _).setCell (p := ⟨w.heap.size + 1 + 1, 2, none⟩) (by dsimp only; omega) _).setCell (p := ⟨w.heap.size + 1 + 1, 3, none⟩) (by dsimp only; omega) _


set_option maxRecDepth 20000 in
set_option maxHeartbeats 4000000 in
theorem rbin_reck (op : Int) (ak : Int) (bk : Int) (an am bn bm : Int) (ab bb : List UInt8) (w : World) (rk rn rm re : Int) (rb : ByteArray) (o1 : ¬ op < 6) (o2 : ¬ op > 18) (o4 : op ≤ 10) (Ra : Tells 46 #[va ak an am ⟨ab.toArray⟩] w (.bool true)) (Rb : Tells 46 #[va bk bn bm ⟨bb.toArray⟩] w (.bool true)) (Na : Tells 47 #[va ak an am ⟨ab.toArray⟩] w (.bool false)) (Nb : Tells 47 #[va bk bn bm ⟨bb.toArray⟩] w (.bool false)) (F : Tells 69 #[.int .i64 op, va ak an am ⟨ab.toArray⟩, va bk bn bm ⟨bb.toArray⟩] w (.tuple #[va rk rn rm rb, .int .i64 re])) :
    Calls Tryz.prog 17 #[.int .i64 op, va ak an am ⟨ab.toArray⟩, va bk bn bm ⟨bb.toArray⟩] w fun e w' => e = .returned (.tuple #[va rk rn rm rb, .int .i64 re]) ∧ Below w.heap.size w w' := by
  obtain ⟨w0, hw0, bxa, bxb, bxr, Bw⟩ := three_boxes w ⟨ak, an, am, ab⟩ ⟨bk, bn, bm, bb⟩
  dsimp only at hw0
  go_enter Tryz.func17, Tryz.ntmps17
  go_upto_region 1 with fail
  rw [← hw0]
  clear hw0
  have B0 : Below w0.heap.size w0 w0 := Below.refl _ _
  obtain ⟨a0, a1, a2, a3⟩ := (bxa.later B0).at4
  obtain ⟨b0, b1, b2, b3⟩ := (bxb.later B0).at4
  dsimp only at a0 a1 a2 a3 b0 b1 b2 b3
  go_wp2_with fail
  refine (Ra _ (below_trans Bw B0)).mono ?_
  rintro e w1 ⟨rfl, c⟩
  have B1 := below_trans B0 c
  clear a0 a1 a2 a3 b0 b1 b2 b3 c
  obtain ⟨a0, a1, a2, a3⟩ := (bxa.later B1).at4
  obtain ⟨b0, b1, b2, b3⟩ := (bxb.later B1).at4
  dsimp only at a0 a1 a2 a3 b0 b1 b2 b3
  go_wp2_with fail
  refine (Rb _ (below_trans Bw B1)).mono ?_
  rintro e w2 ⟨rfl, c⟩
  have B2 := below_trans B1 c
  clear a0 a1 a2 a3 b0 b1 b2 b3 c
  obtain ⟨a0, a1, a2, a3⟩ := (bxa.later B2).at4
  obtain ⟨b0, b1, b2, b3⟩ := (bxb.later B2).at4
  dsimp only at a0 a1 a2 a3 b0 b1 b2 b3
  go_wp2_with fail
  refine (Na _ (below_trans Bw B2)).mono ?_
  rintro e w3 ⟨rfl, c⟩
  have B3 := below_trans B2 c
  clear a0 a1 a2 a3 b0 b1 b2 b3 c
  obtain ⟨a0, a1, a2, a3⟩ := (bxa.later B3).at4
  obtain ⟨b0, b1, b2, b3⟩ := (bxb.later B3).at4
  dsimp only at a0 a1 a2 a3 b0 b1 b2 b3
  go_wp2_with fail
  refine (Nb _ (below_trans Bw B3)).mono ?_
  rintro e w4 ⟨rfl, c⟩
  have B4 := below_trans B3 c
  clear a0 a1 a2 a3 b0 b1 b2 b3 c
  obtain ⟨a0, a1, a2, a3⟩ := (bxa.later B4).at4
  obtain ⟨b0, b1, b2, b3⟩ := (bxb.later B4).at4
  dsimp only at a0 a1 a2 a3 b0 b1 b2 b3
  go_wp2_with fail
  refine (F _ (below_trans Bw B4)).mono ?_
  rintro e w5 ⟨rfl, c⟩
  have B5 := below_trans B4 c
  clear a0 a1 a2 a3 b0 b1 b2 b3 c
  obtain ⟨a0, a1, a2, a3⟩ := (bxa.later B5).at4
  obtain ⟨b0, b1, b2, b3⟩ := (bxb.later B5).at4
  dsimp only at a0 a1 a2 a3 b0 b1 b2 b3
  have br := bxr.later B5
  obtain ⟨r0, r1, r2, r3⟩ := br.at4
  dsimp only [nul] at r0 r1 r2 r3
  simp only [Nat.zero_add] at r1 r2 r3
  have f0 := br.free 0
  have f1 := br.free 1
  have f2 := br.free 2
  have f3 := br.free 3
  have lt1 := br.lt
  have Be := below_trans Bw B5
  go_wp2
  refine bodyPost_ret_by (v := .tuple #[va rk rn rm rb, .int .i64 re]) ?_ rfl ⟨rfl, ?_⟩
  · simp [results, Tryz.results17, go_sem, r0, r1, r2, r3]
  · exact (((Be.setCell (p := ⟨w.heap.size + 1 + 1, 0, none⟩) (by dsimp only; omega) _).setCell (p := ⟨w.heap.size + 1 + 1, 1, none⟩) (by dsimp only; omega) _).setCell (p := ⟨w.heap.size + 1 + 1, 2, none⟩) (by dsimp only; omega) _).setCell (p := ⟨w.heap.size + 1 + 1, 3, none⟩) (by dsimp only; omega) _


set_option maxRecDepth 20000 in
set_option maxHeartbeats 4000000 in
theorem rbin_othF (op : Int) (ak : Int) (bk : Int) (an am bn bm : Int) (ab bb : List UInt8) (w : World) (o1 : ¬ op < 6) (o2 : ¬ op > 18) (o3 : ¬ op ≥ 17) (o4 : ¬ op ≤ 10) (ek : (ak != bk) = true) (Ra : Tells 46 #[va ak an am ⟨ab.toArray⟩] w (.bool true)) (Rb : Tells 46 #[va bk bn bm ⟨bb.toArray⟩] w (.bool true)) (Na : Tells 47 #[va ak an am ⟨ab.toArray⟩] w (.bool false)) (Nb : Tells 47 #[va bk bn bm ⟨bb.toArray⟩] w (.bool false)) (Ma : Tells 70 #[va ak an am ⟨ab.toArray⟩] w (.bool false)) :
    Calls Tryz.prog 17 #[.int .i64 op, va ak an am ⟨ab.toArray⟩, va bk bn bm ⟨bb.toArray⟩] w fun e w' => e = .returned (.tuple #[va 0 0 0 ⟨#[]⟩, .int .i64 31]) ∧ Below w.heap.size w w' := by
  obtain ⟨w0, hw0, bxa, bxb, bxr, Bw⟩ := three_boxes w ⟨ak, an, am, ab⟩ ⟨bk, bn, bm, bb⟩
  dsimp only at hw0
  go_enter Tryz.func17, Tryz.ntmps17
  go_upto_region 1 with fail
  rw [← hw0]
  clear hw0
  have B0 : Below w0.heap.size w0 w0 := Below.refl _ _
  obtain ⟨a0, a1, a2, a3⟩ := (bxa.later B0).at4
  obtain ⟨b0, b1, b2, b3⟩ := (bxb.later B0).at4
  dsimp only at a0 a1 a2 a3 b0 b1 b2 b3
  go_wp2_with fail
  refine (Ra _ (below_trans Bw B0)).mono ?_
  rintro e w1 ⟨rfl, c⟩
  have B1 := below_trans B0 c
  clear a0 a1 a2 a3 b0 b1 b2 b3 c
  obtain ⟨a0, a1, a2, a3⟩ := (bxa.later B1).at4
  obtain ⟨b0, b1, b2, b3⟩ := (bxb.later B1).at4
  dsimp only at a0 a1 a2 a3 b0 b1 b2 b3
  go_wp2_with fail
  refine (Rb _ (below_trans Bw B1)).mono ?_
  rintro e w2 ⟨rfl, c⟩
  have B2 := below_trans B1 c
  clear a0 a1 a2 a3 b0 b1 b2 b3 c
  obtain ⟨a0, a1, a2, a3⟩ := (bxa.later B2).at4
  obtain ⟨b0, b1, b2, b3⟩ := (bxb.later B2).at4
  dsimp only at a0 a1 a2 a3 b0 b1 b2 b3
  go_wp2_with fail
  refine (Na _ (below_trans Bw B2)).mono ?_
  rintro e w3 ⟨rfl, c⟩
  have B3 := below_trans B2 c
  clear a0 a1 a2 a3 b0 b1 b2 b3 c
  obtain ⟨a0, a1, a2, a3⟩ := (bxa.later B3).at4
  obtain ⟨b0, b1, b2, b3⟩ := (bxb.later B3).at4
  dsimp only at a0 a1 a2 a3 b0 b1 b2 b3
  go_wp2_with fail
  refine (Nb _ (below_trans Bw B3)).mono ?_
  rintro e w4 ⟨rfl, c⟩
  have B4 := below_trans B3 c
  clear a0 a1 a2 a3 b0 b1 b2 b3 c
  obtain ⟨a0, a1, a2, a3⟩ := (bxa.later B4).at4
  obtain ⟨b0, b1, b2, b3⟩ := (bxb.later B4).at4
  dsimp only at a0 a1 a2 a3 b0 b1 b2 b3
  go_wp2_with fail
  refine (Ma _ (below_trans Bw B4)).mono ?_
  rintro e w5 ⟨rfl, c⟩
  have B5 := below_trans B4 c
  clear a0 a1 a2 a3 b0 b1 b2 b3 c
  obtain ⟨a0, a1, a2, a3⟩ := (bxa.later B5).at4
  obtain ⟨b0, b1, b2, b3⟩ := (bxb.later B5).at4
  dsimp only at a0 a1 a2 a3 b0 b1 b2 b3
  have br := bxr.later B5
  obtain ⟨r0, r1, r2, r3⟩ := br.at4
  dsimp only [nul] at r0 r1 r2 r3
  simp only [Nat.zero_add] at r1 r2 r3
  have f0 := br.free 0
  have f1 := br.free 1
  have f2 := br.free 2
  have f3 := br.free 3
  have lt1 := br.lt
  have Be := below_trans Bw B5
  go_wp2
  refine bodyPost_ret_by (v := .tuple #[va 0 0 0 ⟨#[]⟩, .int .i64 31]) ?_ rfl ⟨rfl, ?_⟩
  · simp [results, Tryz.results17, go_sem, r0, r1, r2, r3]
  · exact (((Be.setCell (p := ⟨w.heap.size + 1 + 1, 0, none⟩) (by dsimp only; omega) _).setCell (p := ⟨w.heap.size + 1 + 1, 1, none⟩) (by dsimp only; omega) _).setCell (p := ⟨w.heap.size + 1 + 1, 2, none⟩) (by dsimp only; omega) _).setCell (p := ⟨w.heap.size + 1 + 1, 3, none⟩) (by dsimp only; omega) _
end Go.Proofs.YtgapmofhnjfdiaaGreatDoor
