/-
  The document's answers for eval: Binary, path by path.
  The document's answers for eval: Binary, path by path.
  EvalSteps: what the row's form asks of the program's own text.
-/
import Derived.Test.YtgapmofhnjfdiaaGreatDoorMGQR6A
import Derived.Test.YtgapmofhnjfdiaaGreatDoorMFQCall
import Derived.Test.YtgapmofhnjfdiaaGreatDoorMzVOrd1
namespace Go.Proofs.YtgapmofhnjfdiaaGreatDoor
open Go.RowKit Go.Shelf
attribute [local go_sem] cell?_more frozen?_more setCell_more more_lt more_more more_drew more_drewN setCell_drewN alloc_drewN

set_option maxRecDepth 20000 in
set_option maxHeartbeats 4000000 in
theorem rbin_high (op : Int) (ak : Int) (bk : Int) (an am bn bm : Int) (ab bb : List UInt8) (w : World) (o1 : ¬ op < 6) (o2 : op > 18)  :
    Calls Tryz.prog 17 #[.int .i64 op, va ak an am ⟨ab.toArray⟩, va bk bn bm ⟨bb.toArray⟩] w fun e w' => e = .returned (.tuple #[va 0 0 0 ⟨#[]⟩, .int .i64 1]) ∧ Below w.heap.size w w' := by
  obtain ⟨w0, hw0, bxa, bxb, bxr, Bw⟩ := three_boxes w ⟨ak, an, am, ab⟩ ⟨bk, bn, bm, bb⟩
  dsimp only at hw0
  go_enter Tryz.func17, Tryz.ntmps17
  go_upto_region 1 with fail
  rw [← hw0]
  clear hw0
  have B0 : Below w0.heap.size w0 w0 := Below.refl _ _
  obtain ⟨a0, a1, a2, a3⟩ := (bxa.later B0).at4
  obtain ⟨b0, b1, b2, b3⟩ := (bxb.later B0).at4
  dsimp only at a0 a1 a2 a3 b0 b1 b2 b3
  have br := bxr.later B0
  obtain ⟨r0, r1, r2, r3⟩ := br.at4
  dsimp only [nul] at r0 r1 r2 r3
  simp only [Nat.zero_add] at r1 r2 r3
  have f0 := br.free 0
  have f1 := br.free 1
  have f2 := br.free 2
  have f3 := br.free 3
  have lt1 := br.lt
  have Be := below_trans Bw B0
  go_wp2
  refine bodyPost_ret_by (v := .tuple #[va 0 0 0 ⟨#[]⟩, .int .i64 1]) ?_ rfl ⟨rfl, ?_⟩
  · simp [results, Tryz.results17, go_sem, r0, r1, r2, r3]
  · exact (((Be.setCell (p := ⟨w.heap.size + 1 + 1, 0, none⟩) (by dsimp only; omega) _).setCell (p := ⟨w.heap.size + 1 + 1, 1, none⟩) (by dsimp only; omega) _).setCell (p := ⟨w.heap.size + 1 + 1, 2, none⟩) (by dsimp only; omega) _).setCell (p := ⟨w.heap.size + 1 + 1, 3, none⟩) (by dsimp only; omega) _


set_option maxRecDepth 20000 in
set_option maxHeartbeats 4000000 in
theorem rbin_t17 (ak : Int) (bk : Int) (an am bn bm : Int) (ab bb : List UInt8) (w : World) (rk rn rm : Int) (rb : ByteArray) (t u v : Int) (Ra : Tells 46 #[va ak an am ⟨ab.toArray⟩] w (.bool true)) (Rb : Tells 46 #[va bk bn bm ⟨bb.toArray⟩] w (.bool true)) (Ta : Tells 49 #[va ak an am ⟨ab.toArray⟩] w (.tuple #[.int .i64 t, .bool true])) (Tb : Tells 49 #[va bk bn bm ⟨bb.toArray⟩] w (.tuple #[.int .i64 u, .bool true])) (C : Tells 67 #[.int .i64 t, .int .i64 u] w (.int .i64 v)) (O : Tells 48 #[.int .i64 v] w (va rk rn rm rb)) :
    Calls Tryz.prog 17 #[.int .i64 17, va ak an am ⟨ab.toArray⟩, va bk bn bm ⟨bb.toArray⟩] w fun e w' => e = .returned (.tuple #[va rk rn rm rb, .int .i64 0]) ∧ Below w.heap.size w w' := by
  obtain ⟨w0, hw0, bxa, bxb, bxr, Bw⟩ := three_boxes w ⟨ak, an, am, ab⟩ ⟨bk, bn, bm, bb⟩
  dsimp only at hw0
  go_enter Tryz.func17, Tryz.ntmps17
  go_upto_region 1 with fail
  rw [← hw0]
  clear hw0
  have B0 : Below w0.heap.size w0 w0 := Below.refl _ _
  obtain ⟨a0, a1, a2, a3⟩ := (bxa.later B0).at4
  obtain ⟨b0, b1, b2, b3⟩ := (bxb.later B0).at4
  dsimp only at a0 a1 a2 a3 b0 b1 b2 b3
  go_wp2_with fail
  refine (Ra _ (below_trans Bw B0)).mono ?_
  rintro e w1 ⟨rfl, c⟩
  have B1 := below_trans B0 c
  clear a0 a1 a2 a3 b0 b1 b2 b3 c
  obtain ⟨a0, a1, a2, a3⟩ := (bxa.later B1).at4
  obtain ⟨b0, b1, b2, b3⟩ := (bxb.later B1).at4
  dsimp only at a0 a1 a2 a3 b0 b1 b2 b3
  go_wp2_with fail
  refine (Rb _ (below_trans Bw B1)).mono ?_
  rintro e w2 ⟨rfl, c⟩
  have B2 := below_trans B1 c
  clear a0 a1 a2 a3 b0 b1 b2 b3 c
  obtain ⟨a0, a1, a2, a3⟩ := (bxa.later B2).at4
  obtain ⟨b0, b1, b2, b3⟩ := (bxb.later B2).at4
  dsimp only at a0 a1 a2 a3 b0 b1 b2 b3
  go_wp2_with fail
  refine (Ta _ (below_trans Bw B2)).mono ?_
  rintro e w3 ⟨rfl, c⟩
  have B3 := below_trans B2 c
  clear a0 a1 a2 a3 b0 b1 b2 b3 c
  obtain ⟨a0, a1, a2, a3⟩ := (bxa.later B3).at4
  obtain ⟨b0, b1, b2, b3⟩ := (bxb.later B3).at4
  dsimp only at a0 a1 a2 a3 b0 b1 b2 b3
  go_wp2_with fail
  refine (Tb _ (below_trans Bw B3)).mono ?_
  rintro e w4 ⟨rfl, c⟩
  have B4 := below_trans B3 c
  clear a0 a1 a2 a3 b0 b1 b2 b3 c
  obtain ⟨a0, a1, a2, a3⟩ := (bxa.later B4).at4
  obtain ⟨b0, b1, b2, b3⟩ := (bxb.later B4).at4
  dsimp only at a0 a1 a2 a3 b0 b1 b2 b3
  go_wp2_with fail
  refine (C _ (below_trans Bw B4)).mono ?_
  rintro e w5 ⟨rfl, c⟩
  have B5 := below_trans B4 c
  clear a0 a1 a2 a3 b0 b1 b2 b3 c
  obtain ⟨a0, a1, a2, a3⟩ := (bxa.later B5).at4
  obtain ⟨b0, b1, b2, b3⟩ := (bxb.later B5).at4
  dsimp only at a0 a1 a2 a3 b0 b1 b2 b3
  go_wp2_with fail
  refine (O _ (below_trans Bw B5)).mono ?_
  rintro e w6 ⟨rfl, c⟩
  have B6 := below_trans B5 c
  clear a0 a1 a2 a3 b0 b1 b2 b3 c
  obtain ⟨a0, a1, a2, a3⟩ := (bxa.later B6).at4
  obtain ⟨b0, b1, b2, b3⟩ := (bxb.later B6).at4
  dsimp only at a0 a1 a2 a3 b0 b1 b2 b3
  have br := bxr.later B6
  obtain ⟨r0, r1, r2, r3⟩ := br.at4
  dsimp only [nul] at r0 r1 r2 r3
  simp only [Nat.zero_add] at r1 r2 r3
  have f0 := br.free 0
  have f1 := br.free 1
  have f2 := br.free 2
  have f3 := br.free 3
  have lt1 := br.lt
  have Be := below_trans Bw B6
  go_wp2
  refine bodyPost_ret_by (v := .tuple #[va rk rn rm rb, .int .i64 0]) ?_ rfl ⟨rfl, ?_⟩
  · simp [results, Tryz.results17, go_sem, r0, r1, r2, r3]
  · exact (((Be.setCell (p := ⟨w.heap.size + 1 + 1, 0, none⟩) (by dsimp only; omega) _).setCell (p := ⟨w.heap.size + 1 + 1, 1, none⟩) (by dsimp only; omega) _).setCell (p := ⟨w.heap.size + 1 + 1, 2, none⟩) (by dsimp only; omega) _).setCell (p := ⟨w.heap.size + 1 + 1, 3, none⟩) (by dsimp only; omega) _


set_option maxRecDepth 20000 in
set_option maxHeartbeats 4000000 in
theorem rbin_t18 (ak : Int) (bk : Int) (an am bn bm : Int) (ab bb : List UInt8) (w : World) (rk rn rm : Int) (rb : ByteArray) (t u v : Int) (Ra : Tells 46 #[va ak an am ⟨ab.toArray⟩] w (.bool true)) (Rb : Tells 46 #[va bk bn bm ⟨bb.toArray⟩] w (.bool true)) (Ta : Tells 49 #[va ak an am ⟨ab.toArray⟩] w (.tuple #[.int .i64 t, .bool true])) (Tb : Tells 49 #[va bk bn bm ⟨bb.toArray⟩] w (.tuple #[.int .i64 u, .bool true])) (C : Tells 68 #[.int .i64 t, .int .i64 u] w (.int .i64 v)) (O : Tells 48 #[.int .i64 v] w (va rk rn rm rb)) :
    Calls Tryz.prog 17 #[.int .i64 18, va ak an am ⟨ab.toArray⟩, va bk bn bm ⟨bb.toArray⟩] w fun e w' => e = .returned (.tuple #[va rk rn rm rb, .int .i64 0]) ∧ Below w.heap.size w w' := by
  obtain ⟨w0, hw0, bxa, bxb, bxr, Bw⟩ := three_boxes w ⟨ak, an, am, ab⟩ ⟨bk, bn, bm, bb⟩
  dsimp only at hw0
  go_enter Tryz.func17, Tryz.ntmps17
  go_upto_region 1 with fail
  rw [← hw0]
  clear hw0
  have B0 : Below w0.heap.size w0 w0 := Below.refl _ _
  obtain ⟨a0, a1, a2, a3⟩ := (bxa.later B0).at4
  obtain ⟨b0, b1, b2, b3⟩ := (bxb.later B0).at4
  dsimp only at a0 a1 a2 a3 b0 b1 b2 b3
  go_wp2_with fail
  refine (Ra _ (below_trans Bw B0)).mono ?_
  rintro e w1 ⟨rfl, c⟩
  have B1 := below_trans B0 c
  clear a0 a1 a2 a3 b0 b1 b2 b3 c
  obtain ⟨a0, a1, a2, a3⟩ := (bxa.later B1).at4
  obtain ⟨b0, b1, b2, b3⟩ := (bxb.later B1).at4
  dsimp only at a0 a1 a2 a3 b0 b1 b2 b3
  go_wp2_with fail
  refine (Rb _ (below_trans Bw B1)).mono ?_
  rintro e w2 ⟨rfl, c⟩
  have B2 := below_trans B1 c
  clear a0 a1 a2 a3 b0 b1 b2 b3 c
  obtain ⟨a0, a1, a2, a3⟩ := (bxa.later B2).at4
  obtain ⟨b0, b1, b2, b3⟩ := (bxb.later B2).at4
  dsimp only at a0 a1 a2 a3 b0 b1 b2 b3
  go_wp2_with fail
  refine (Ta _ (below_trans Bw B2)).mono ?_
  rintro e w3 ⟨rfl, c⟩
  have B3 := below_trans B2 c
  clear a0 a1 a2 a3 b0 b1 b2 b3 c
  obtain ⟨a0, a1, a2, a3⟩ := (bxa.later B3).at4
  obtain ⟨b0, b1, b2, b3⟩ := (bxb.later B3).at4
  dsimp only at a0 a1 a2 a3 b0 b1 b2 b3
  go_wp2_with fail
  refine (Tb _ (below_trans Bw B3)).mono ?_
  rintro e w4 ⟨rfl, c⟩
  have B4 := below_trans B3 c
  clear a0 a1 a2 a3 b0 b1 b2 b3 c
  obtain ⟨a0, a1, a2, a3⟩ := (bxa.later B4).at4
  obtain ⟨b0, b1, b2, b3⟩ := (bxb.later B4).at4
  dsimp only at a0 a1 a2 a3 b0 b1 b2 b3
  go_wp2_with fail
  refine (C _ (below_trans Bw B4)).mono ?_
  rintro e w5 ⟨rfl, c⟩
  have B5 := below_trans B4 c
  clear a0 a1 a2 a3 b0 b1 b2 b3 c
  obtain ⟨a0, a1, a2, a3⟩ := (bxa.later B5).at4
  obtain ⟨b0, b1, b2, b3⟩ := (bxb.later B5).at4
  dsimp only at a0 a1 a2 a3 b0 b1 b2 b3
  go_wp2_with fail
  refine (O _ (below_trans Bw B5)).mono ?_
  rintro e w6 ⟨rfl, c⟩
  have B6 := below_trans B5 c
  clear a0 a1 a2 a3 b0 b1 b2 b3 c
  obtain ⟨a0, a1, a2, a3⟩ := (bxa.later B6).at4
  obtain ⟨b0, b1, b2, b3⟩ := (bxb.later B6).at4
  dsimp only at a0 a1 a2 a3 b0 b1 b2 b3
  have br := bxr.later B6
  obtain ⟨r0, r1, r2, r3⟩ := br.at4
  dsimp only [nul] at r0 r1 r2 r3
  simp only [Nat.zero_add] at r1 r2 r3
  have f0 := br.free 0
  have f1 := br.free 1
  have f2 := br.free 2
  have f3 := br.free 3
  have lt1 := br.lt
  have Be := below_trans Bw B6
  go_wp2
  refine bodyPost_ret_by (v := .tuple #[va rk rn rm rb, .int .i64 0]) ?_ rfl ⟨rfl, ?_⟩
  · simp [results, Tryz.results17, go_sem, r0, r1, r2, r3]
  · exact (((Be.setCell (p := ⟨w.heap.size + 1 + 1, 0, none⟩) (by dsimp only; omega) _).setCell (p := ⟨w.heap.size + 1 + 1, 1, none⟩) (by dsimp only; omega) _).setCell (p := ⟨w.heap.size + 1 + 1, 2, none⟩) (by dsimp only; omega) _).setCell (p := ⟨w.heap.size + 1 + 1, 3, none⟩) (by dsimp only; omega) _


set_option maxRecDepth 20000 in
set_option maxHeartbeats 4000000 in
theorem rbin_nullA (op : Int) (ak : Int) (bk : Int) (an am bn bm : Int) (ab bb : List UInt8) (w : World) (o1 : ¬ op < 6) (o2 : ¬ op > 18) (o3 : ¬ op ≥ 17) (Ra : Tells 46 #[va ak an am ⟨ab.toArray⟩] w (.bool true)) (Rb : Tells 46 #[va bk bn bm ⟨bb.toArray⟩] w (.bool true)) (Na : Tells 47 #[va ak an am ⟨ab.toArray⟩] w (.bool true)) :
    Calls Tryz.prog 17 #[.int .i64 op, va ak an am ⟨ab.toArray⟩, va bk bn bm ⟨bb.toArray⟩] w fun e w' => e = .returned (.tuple #[va 0 0 0 ⟨#[]⟩, .int .i64 0]) ∧ Below w.heap.size w w' := by
  obtain ⟨w0, hw0, bxa, bxb, bxr, Bw⟩ := three_boxes w ⟨ak, an, am, ab⟩ ⟨bk, bn, bm, bb⟩
  dsimp only at hw0
  go_enter Tryz.func17, Tryz.ntmps17
  go_upto_region 1 with fail
  rw [← hw0]
  clear hw0
  have B0 : Below w0.heap.size w0 w0 := Below.refl _ _
  obtain ⟨a0, a1, a2, a3⟩ := (bxa.later B0).at4
  obtain ⟨b0, b1, b2, b3⟩ := (bxb.later B0).at4
  dsimp only at a0 a1 a2 a3 b0 b1 b2 b3
  go_wp2_with fail
  refine (Ra _ (below_trans Bw B0)).mono ?_
  rintro e w1 ⟨rfl, c⟩
  have B1 := below_trans B0 c
  clear a0 a1 a2 a3 b0 b1 b2 b3 c
  obtain ⟨a0, a1, a2, a3⟩ := (bxa.later B1).at4
  obtain ⟨b0, b1, b2, b3⟩ := (bxb.later B1).at4
  dsimp only at a0 a1 a2 a3 b0 b1 b2 b3
  go_wp2_with fail
  refine (Rb _ (below_trans Bw B1)).mono ?_
  rintro e w2 ⟨rfl, c⟩
  have B2 := below_trans B1 c
  clear a0 a1 a2 a3 b0 b1 b2 b3 c
  obtain ⟨a0, a1, a2, a3⟩ := (bxa.later B2).at4
  obtain ⟨b0, b1, b2, b3⟩ := (bxb.later B2).at4
  dsimp only at a0 a1 a2 a3 b0 b1 b2 b3
  go_wp2_with fail
  refine (Na _ (below_trans Bw B2)).mono ?_
  rintro e w3 ⟨rfl, c⟩
  have B3 := below_trans B2 c
  clear a0 a1 a2 a3 b0 b1 b2 b3 c
  obtain ⟨a0, a1, a2, a3⟩ := (bxa.later B3).at4
  obtain ⟨b0, b1, b2, b3⟩ := (bxb.later B3).at4
  dsimp only at a0 a1 a2 a3 b0 b1 b2 b3
  have br := bxr.later B3
  obtain ⟨r0, r1, r2, r3⟩ := br.at4
  dsimp only [nul] at r0 r1 r2 r3
  simp only [Nat.zero_add] at r1 r2 r3
  have f0 := br.free 0
  have f1 := br.free 1
  have f2 := br.free 2
  have f3 := br.free 3
  have lt1 := br.lt
  have Be := below_trans Bw B3
  go_wp2
  refine bodyPost_ret_by (v := .tuple #[va 0 0 0 ⟨#[]⟩, .int .i64 0]) ?_ rfl ⟨rfl, ?_⟩
  · simp [results, Tryz.results17, go_sem, r0, r1, r2, r3]
  · exact (((Be.setCell (p := ⟨w.heap.size + 1 + 1, 0, none⟩) (by dsimp only; omega) _).setCell (p := ⟨w.heap.size + 1 + 1, 1, none⟩) (by dsimp only; omega) _).setCell (p := ⟨w.heap.size + 1 + 1, 2, none⟩) (by dsimp only; omega) _).setCell (p := ⟨w.heap.size + 1 + 1, 3, none⟩) (by dsimp only; omega) _


set_option maxRecDepth 20000 in
set_option maxHeartbeats 4000000 in
theorem rbin_nums (op : Int) (ak : Int) (bk : Int) (an am bn bm : Int) (ab bb : List UInt8) (w : World) (rk rn rm : Int) (rb : ByteArray) (o1 : ¬ op < 6) (o2 : ¬ op > 18) (o3 : ¬ op ≥ 17) (o4 : ¬ op ≤ 10) (Ra : Tells 46 #[va ak an am ⟨ab.toArray⟩] w (.bool true)) (Rb : Tells 46 #[va bk bn bm ⟨bb.toArray⟩] w (.bool true)) (Na : Tells 47 #[va ak an am ⟨ab.toArray⟩] w (.bool false)) (Nb : Tells 47 #[va bk bn bm ⟨bb.toArray⟩] w (.bool false)) (Ma : Tells 70 #[va ak an am ⟨ab.toArray⟩] w (.bool true)) (Mb : Tells 70 #[va bk bn bm ⟨bb.toArray⟩] w (.bool true)) (c : Int) (C : ∀ W, Calls Tryz.prog 73 #[dv an am, dv bn bm] W fun e w' => e = .returned (.int .i64 c) ∧ Grew W w') (T : ∀ W, Calls Tryz.prog 71 #[.bool (hb7 op c)] W fun e w' => e = .returned (va rk rn rm rb) ∧ Grew W w') :
    Calls Tryz.prog 17 #[.int .i64 op, va ak an am ⟨ab.toArray⟩, va bk bn bm ⟨bb.toArray⟩] w fun e w' => e = .returned (.tuple #[va rk rn rm rb, .int .i64 0]) ∧ Below w.heap.size w w' := by
  obtain ⟨w0, hw0, bxa, bxb, bxr, Bw⟩ := three_boxes w ⟨ak, an, am, ab⟩ ⟨bk, bn, bm, bb⟩
  dsimp only at hw0
  go_enter Tryz.func17, Tryz.ntmps17
  go_upto_region 1 with fail
  rw [← hw0]
  clear hw0
  have B0 : Below w0.heap.size w0 w0 := Below.refl _ _
  obtain ⟨a0, a1, a2, a3⟩ := (bxa.later B0).at4
  obtain ⟨b0, b1, b2, b3⟩ := (bxb.later B0).at4
  dsimp only at a0 a1 a2 a3 b0 b1 b2 b3
  go_wp2_with fail
  refine (Ra _ (below_trans Bw B0)).mono ?_
  rintro e w1 ⟨rfl, c⟩
  have B1 := below_trans B0 c
  clear a0 a1 a2 a3 b0 b1 b2 b3 c
  obtain ⟨a0, a1, a2, a3⟩ := (bxa.later B1).at4
  obtain ⟨b0, b1, b2, b3⟩ := (bxb.later B1).at4
  dsimp only at a0 a1 a2 a3 b0 b1 b2 b3
  go_wp2_with fail
  refine (Rb _ (below_trans Bw B1)).mono ?_
  rintro e w2 ⟨rfl, c⟩
  have B2 := below_trans B1 c
  clear a0 a1 a2 a3 b0 b1 b2 b3 c
  obtain ⟨a0, a1, a2, a3⟩ := (bxa.later B2).at4
  obtain ⟨b0, b1, b2, b3⟩ := (bxb.later B2).at4
  dsimp only at a0 a1 a2 a3 b0 b1 b2 b3
  go_wp2_with fail
  refine (Na _ (below_trans Bw B2)).mono ?_
  rintro e w3 ⟨rfl, c⟩
  have B3 := below_trans B2 c
  clear a0 a1 a2 a3 b0 b1 b2 b3 c
  obtain ⟨a0, a1, a2, a3⟩ := (bxa.later B3).at4
  obtain ⟨b0, b1, b2, b3⟩ := (bxb.later B3).at4
  dsimp only at a0 a1 a2 a3 b0 b1 b2 b3
  go_wp2_with fail
  refine (Nb _ (below_trans Bw B3)).mono ?_
  rintro e w4 ⟨rfl, c⟩
  have B4 := below_trans B3 c
  clear a0 a1 a2 a3 b0 b1 b2 b3 c
  obtain ⟨a0, a1, a2, a3⟩ := (bxa.later B4).at4
  obtain ⟨b0, b1, b2, b3⟩ := (bxb.later B4).at4
  dsimp only at a0 a1 a2 a3 b0 b1 b2 b3
  go_wp2_with fail
  refine (Ma _ (below_trans Bw B4)).mono ?_
  rintro e w5 ⟨rfl, c⟩
  have B5 := below_trans B4 c
  clear a0 a1 a2 a3 b0 b1 b2 b3 c
  obtain ⟨a0, a1, a2, a3⟩ := (bxa.later B5).at4
  obtain ⟨b0, b1, b2, b3⟩ := (bxb.later B5).at4
  dsimp only at a0 a1 a2 a3 b0 b1 b2 b3
  go_wp2_with fail
  refine (Mb _ (below_trans Bw B5)).mono ?_
  rintro e w6 ⟨rfl, c⟩
  have B6 := below_trans B5 c
  clear a0 a1 a2 a3 b0 b1 b2 b3 c
  obtain ⟨a0, a1, a2, a3⟩ := (bxa.later B6).at4
  obtain ⟨b0, b1, b2, b3⟩ := (bxb.later B6).at4
  dsimp only at a0 a1 a2 a3 b0 b1 b2 b3
  have br := bxr.later B6
  obtain ⟨r0, r1, r2, r3⟩ := br.at4
  dsimp only [nul] at r0 r1 r2 r3
  simp only [Nat.zero_add] at r1 r2 r3
  have f0 := br.free 0
  have f1 := br.free 1
  have f2 := br.free 2
  have f3 := br.free 3
  have lt1 := br.lt
  have Be := below_trans Bw B6
  simp only [Nat.zero_add] at a1 a2 a3 b1 b2 b3
  have lta := (bxa.later B6).lt
  have ltb := (bxb.later B6).lt
  clear bxa bxb bxr br
  have U := fun k n m b W => rdec7_any k n m b W
  have C4 : ∀ W, Grew w6 W → Calls Tryz.prog 73 #[dv an am, dv bn bm] W fun e w' => e = .returned (.int .i64 c) ∧ Grew W w' := fun W h => C W
  have HH := fun W => rholds_any op c W
  have TT := fun W => T W
  clear Ra Rb Na Nb Ma Mb C T B0 B1 B2 B3 B4 B5 B6 Bw
  go_wp2_with fail
  go_region_held2 (fun W => W.cell? ⟨w.heap.size, 0, none⟩ = some (.int .i64 ak) ∧ W.cell? ⟨w.heap.size, 1, none⟩ = some (.int .i64 an) ∧ W.cell? ⟨w.heap.size, 2, none⟩ = some (.int .i64 am) ∧ W.cell? ⟨w.heap.size, 3, none⟩ = some (.string ⟨ab.toArray⟩) ∧
      W.cell? ⟨w.heap.size + 1, 0, none⟩ = some (.int .i64 bk) ∧ W.cell? ⟨w.heap.size + 1, 1, none⟩ = some (.int .i64 bn) ∧ W.cell? ⟨w.heap.size + 1, 2, none⟩ = some (.int .i64 bm) ∧ W.cell? ⟨w.heap.size + 1, 3, none⟩ = some (.string ⟨bb.toArray⟩)) (simp (maxDischargeDepth := 12) [go_sem, a0, a1, a2, a3, b0, b1, b2, b3, lta, ltb]) (first
    | (go_at_call 52; refine (U _ _ _ _ _).mono ?_; rintro e wc ⟨rfl, os1, n1, rfl⟩)
    | (go_at_call 73; refine (C4 _ (by repeat (first | assumption | exact Grew.refl _ | apply Grew.drew | apply Grew.drewN | apply Grew.alloc | apply Grew.more))).mono ?_; rintro e wc ⟨rfl, os2, n2, rfl⟩)
    | (go_at_call 72; refine (HH _).mono ?_; rintro e wc ⟨rfl, rfl⟩)
    | (go_at_call 71; refine (TT _).mono ?_; rintro e wc ⟨rfl, os3, n3, rfl⟩))
  go_wp2
  refine bodyPost_ret_by (v := .tuple #[va rk rn rm rb, .int .i64 0]) ?_ rfl ⟨rfl, ?_⟩
  · simp [results, Tryz.results17, go_sem, r0, r1, r2, r3, lt1]
  · refine below_trans (Be.setCell (p := ⟨w.heap.size + 1 + 1, 0, none⟩) (by dsimp only; omega) (.int .i64 rk) |>.setCell (p := ⟨w.heap.size + 1 + 1, 1, none⟩) (by dsimp only; omega) (.int .i64 rn) |>.setCell (p := ⟨w.heap.size + 1 + 1, 2, none⟩) (by dsimp only; omega) (.int .i64 rm) |>.setCell (p := ⟨w.heap.size + 1 + 1, 3, none⟩) (by dsimp only; omega) (.string rb)) (Grew.below ?_)
    repeat (first | assumption | exact Grew.refl _ | apply Grew.drew | apply Grew.drewN | apply Grew.alloc | apply Grew.more)


set_option maxRecDepth 20000 in
set_option maxHeartbeats 4000000 in
theorem rbin_othT (op : Int) (ak : Int) (bk : Int) (an am bn bm : Int) (ab bb : List UInt8) (w : World) (o1 : ¬ op < 6) (o2 : ¬ op > 18) (o3 : ¬ op ≥ 17) (o4 : ¬ op ≤ 10) (ek : (ak != bk) = true) (Ra : Tells 46 #[va ak an am ⟨ab.toArray⟩] w (.bool true)) (Rb : Tells 46 #[va bk bn bm ⟨bb.toArray⟩] w (.bool true)) (Na : Tells 47 #[va ak an am ⟨ab.toArray⟩] w (.bool false)) (Nb : Tells 47 #[va bk bn bm ⟨bb.toArray⟩] w (.bool false)) (Ma : Tells 70 #[va ak an am ⟨ab.toArray⟩] w (.bool true)) (Mb : Tells 70 #[va bk bn bm ⟨bb.toArray⟩] w (.bool false)) :
    Calls Tryz.prog 17 #[.int .i64 op, va ak an am ⟨ab.toArray⟩, va bk bn bm ⟨bb.toArray⟩] w fun e w' => e = .returned (.tuple #[va 0 0 0 ⟨#[]⟩, .int .i64 31]) ∧ Below w.heap.size w w' := by
  obtain ⟨w0, hw0, bxa, bxb, bxr, Bw⟩ := three_boxes w ⟨ak, an, am, ab⟩ ⟨bk, bn, bm, bb⟩
  dsimp only at hw0
  go_enter Tryz.func17, Tryz.ntmps17
  go_upto_region 1 with fail
  rw [← hw0]
  clear hw0
  have B0 : Below w0.heap.size w0 w0 := Below.refl _ _
  obtain ⟨a0, a1, a2, a3⟩ := (bxa.later B0).at4
  obtain ⟨b0, b1, b2, b3⟩ := (bxb.later B0).at4
  dsimp only at a0 a1 a2 a3 b0 b1 b2 b3
  go_wp2_with fail
  refine (Ra _ (below_trans Bw B0)).mono ?_
  rintro e w1 ⟨rfl, c⟩
  have B1 := below_trans B0 c
  clear a0 a1 a2 a3 b0 b1 b2 b3 c
  obtain ⟨a0, a1, a2, a3⟩ := (bxa.later B1).at4
  obtain ⟨b0, b1, b2, b3⟩ := (bxb.later B1).at4
  dsimp only at a0 a1 a2 a3 b0 b1 b2 b3
  go_wp2_with fail
  refine (Rb _ (below_trans Bw B1)).mono ?_
  rintro e w2 ⟨rfl, c⟩
  have B2 := below_trans B1 c
  clear a0 a1 a2 a3 b0 b1 b2 b3 c
  obtain ⟨a0, a1, a2, a3⟩ := (bxa.later B2).at4
  obtain ⟨b0, b1, b2, b3⟩ := (bxb.later B2).at4
  dsimp only at a0 a1 a2 a3 b0 b1 b2 b3
  go_wp2_with fail
  refine (Na _ (below_trans Bw B2)).mono ?_
  rintro e w3 ⟨rfl, c⟩
  have B3 := below_trans B2 c
  clear a0 a1 a2 a3 b0 b1 b2 b3 c
  obtain ⟨a0, a1, a2, a3⟩ := (bxa.later B3).at4
  obtain ⟨b0, b1, b2, b3⟩ := (bxb.later B3).at4
  dsimp only at a0 a1 a2 a3 b0 b1 b2 b3
  go_wp2_with fail
  refine (Nb _ (below_trans Bw B3)).mono ?_
  rintro e w4 ⟨rfl, c⟩
  have B4 := below_trans B3 c
  clear a0 a1 a2 a3 b0 b1 b2 b3 c
  obtain ⟨a0, a1, a2, a3⟩ := (bxa.later B4).at4
  obtain ⟨b0, b1, b2, b3⟩ := (bxb.later B4).at4
  dsimp only at a0 a1 a2 a3 b0 b1 b2 b3
  go_wp2_with fail
  refine (Ma _ (below_trans Bw B4)).mono ?_
  rintro e w5 ⟨rfl, c⟩
  have B5 := below_trans B4 c
  clear a0 a1 a2 a3 b0 b1 b2 b3 c
  obtain ⟨a0, a1, a2, a3⟩ := (bxa.later B5).at4
  obtain ⟨b0, b1, b2, b3⟩ := (bxb.later B5).at4
  dsimp only at a0 a1 a2 a3 b0 b1 b2 b3
  go_wp2_with fail
  refine (Mb _ (below_trans Bw B5)).mono ?_
  rintro e w6 ⟨rfl, c⟩
  have B6 := below_trans B5 c
  clear a0 a1 a2 a3 b0 b1 b2 b3 c
  obtain ⟨a0, a1, a2, a3⟩ := (bxa.later B6).at4
  obtain ⟨b0, b1, b2, b3⟩ := (bxb.later B6).at4
  dsimp only at a0 a1 a2 a3 b0 b1 b2 b3
  have br := bxr.later B6
  obtain ⟨r0, r1, r2, r3⟩ := br.at4
  dsimp only [nul] at r0 r1 r2 r3
  simp only [Nat.zero_add] at r1 r2 r3
  have f0 := br.free 0
  have f1 := br.free 1
  have f2 := br.free 2
  have f3 := br.free 3
  have lt1 := br.lt
  have Be := below_trans Bw B6
  go_wp2
  refine bodyPost_ret_by (v := .tuple #[va 0 0 0 ⟨#[]⟩, .int .i64 31]) ?_ rfl ⟨rfl, ?_⟩
  · simp [results, Tryz.results17, go_sem, r0, r1, r2, r3]
  · exact (((Be.setCell (p := ⟨w.heap.size + 1 + 1, 0, none⟩) (by dsimp only; omega) _).setCell (p := ⟨w.heap.size + 1 + 1, 1, none⟩) (by dsimp only; omega) _).setCell (p := ⟨w.heap.size + 1 + 1, 2, none⟩) (by dsimp only; omega) _).setCell (p := ⟨w.heap.size + 1 + 1, 3, none⟩) (by dsimp only; omega) _
end Go.Proofs.YtgapmofhnjfdiaaGreatDoor

namespace Go.Proofs.YtgapmofhnjfdiaaGreatDoor
open Go.RowKit Go.Shelf
attribute [local go_sem] cell?_more frozen?_more setCell_more more_lt more_more more_drew more_drewN setCell_drewN alloc_drewN

set_option maxRecDepth 20000 in
set_option maxHeartbeats 4000000 in
theorem rbin_badA (op : Int) (ak : Int) (bk : Int) (an am bn bm : Int) (ab bb : List UInt8) (w : World) (o1 : ¬ op < 6) (o2 : ¬ op > 18) (Ra : Tells 46 #[va ak an am ⟨ab.toArray⟩] w (.bool false)) :
    Calls Tryz.prog 17 #[.int .i64 op, va ak an am ⟨ab.toArray⟩, va bk bn bm ⟨bb.toArray⟩] w fun e w' => e = .returned (.tuple #[va 0 0 0 ⟨#[]⟩, .int .i64 1]) ∧ Below w.heap.size w w' := by
  obtain ⟨w0, hw0, bxa, bxb, bxr, Bw⟩ := three_boxes w ⟨ak, an, am, ab⟩ ⟨bk, bn, bm, bb⟩
  dsimp only at hw0
  go_enter Tryz.func17, Tryz.ntmps17
  go_upto_region 1 with fail
  rw [← hw0]
  clear hw0
  have B0 : Below w0.heap.size w0 w0 := Below.refl _ _
  obtain ⟨a0, a1, a2, a3⟩ := (bxa.later B0).at4
  obtain ⟨b0, b1, b2, b3⟩ := (bxb.later B0).at4
  dsimp only at a0 a1 a2 a3 b0 b1 b2 b3
  go_wp2_with fail
  refine (Ra _ (below_trans Bw B0)).mono ?_
  rintro e w1 ⟨rfl, c⟩
  have B1 := below_trans B0 c
  clear a0 a1 a2 a3 b0 b1 b2 b3 c
  obtain ⟨a0, a1, a2, a3⟩ := (bxa.later B1).at4
  obtain ⟨b0, b1, b2, b3⟩ := (bxb.later B1).at4
  dsimp only at a0 a1 a2 a3 b0 b1 b2 b3
  have br := bxr.later B1
  obtain ⟨r0, r1, r2, r3⟩ := br.at4
  dsimp only [nul] at r0 r1 r2 r3
  simp only [Nat.zero_add] at r1 r2 r3
  have f0 := br.free 0
  have f1 := br.free 1
  have f2 := br.free 2
  have f3 := br.free 3
  have lt1 := br.lt
  have Be := below_trans Bw B1
  go_wp2
  refine bodyPost_ret_by (v := .tuple #[va 0 0 0 ⟨#[]⟩, .int .i64 1]) ?_ rfl ⟨rfl, ?_⟩
  · simp [results, Tryz.results17, go_sem, r0, r1, r2, r3]
  · exact (((Be.setCell (p := ⟨w.heap.size + 1 + 1, 0, none⟩) (by dsimp only; omega) _).setCell (p := ⟨w.heap.size + 1 + 1, 1, none⟩) (by dsimp only; omega) _).setCell (p := ⟨w.heap.size + 1 + 1, 2, none⟩) (by dsimp only; omega) _).setCell (p := ⟨w.heap.size + 1 + 1, 3, none⟩) (by dsimp only; omega) _


set_option maxRecDepth 20000 in
set_option maxHeartbeats 4000000 in
theorem rbin_tf17 (ak : Int) (bk : Int) (an am bn bm : Int) (ab bb : List UInt8) (w : World) (t u : Int) (y : Bool) (Ra : Tells 46 #[va ak an am ⟨ab.toArray⟩] w (.bool true)) (Rb : Tells 46 #[va bk bn bm ⟨bb.toArray⟩] w (.bool true)) (Ta : Tells 49 #[va ak an am ⟨ab.toArray⟩] w (.tuple #[.int .i64 t, .bool false])) (Tb : Tells 49 #[va bk bn bm ⟨bb.toArray⟩] w (.tuple #[.int .i64 u, .bool y])) :
    Calls Tryz.prog 17 #[.int .i64 17, va ak an am ⟨ab.toArray⟩, va bk bn bm ⟨bb.toArray⟩] w fun e w' => e = .returned (.tuple #[va 0 0 0 ⟨#[]⟩, .int .i64 31]) ∧ Below w.heap.size w w' := by
  obtain ⟨w0, hw0, bxa, bxb, bxr, Bw⟩ := three_boxes w ⟨ak, an, am, ab⟩ ⟨bk, bn, bm, bb⟩
  dsimp only at hw0
  go_enter Tryz.func17, Tryz.ntmps17
  go_upto_region 1 with fail
  rw [← hw0]
  clear hw0
  have B0 : Below w0.heap.size w0 w0 := Below.refl _ _
  obtain ⟨a0, a1, a2, a3⟩ := (bxa.later B0).at4
  obtain ⟨b0, b1, b2, b3⟩ := (bxb.later B0).at4
  dsimp only at a0 a1 a2 a3 b0 b1 b2 b3
  go_wp2_with fail
  refine (Ra _ (below_trans Bw B0)).mono ?_
  rintro e w1 ⟨rfl, c⟩
  have B1 := below_trans B0 c
  clear a0 a1 a2 a3 b0 b1 b2 b3 c
  obtain ⟨a0, a1, a2, a3⟩ := (bxa.later B1).at4
  obtain ⟨b0, b1, b2, b3⟩ := (bxb.later B1).at4
  dsimp only at a0 a1 a2 a3 b0 b1 b2 b3
  go_wp2_with fail
  refine (Rb _ (below_trans Bw B1)).mono ?_
  rintro e w2 ⟨rfl, c⟩
  have B2 := below_trans B1 c
  clear a0 a1 a2 a3 b0 b1 b2 b3 c
  obtain ⟨a0, a1, a2, a3⟩ := (bxa.later B2).at4
  obtain ⟨b0, b1, b2, b3⟩ := (bxb.later B2).at4
  dsimp only at a0 a1 a2 a3 b0 b1 b2 b3
  go_wp2_with fail
  refine (Ta _ (below_trans Bw B2)).mono ?_
  rintro e w3 ⟨rfl, c⟩
  have B3 := below_trans B2 c
  clear a0 a1 a2 a3 b0 b1 b2 b3 c
  obtain ⟨a0, a1, a2, a3⟩ := (bxa.later B3).at4
  obtain ⟨b0, b1, b2, b3⟩ := (bxb.later B3).at4
  dsimp only at a0 a1 a2 a3 b0 b1 b2 b3
  go_wp2_with fail
  refine (Tb _ (below_trans Bw B3)).mono ?_
  rintro e w4 ⟨rfl, c⟩
  have B4 := below_trans B3 c
  clear a0 a1 a2 a3 b0 b1 b2 b3 c
  obtain ⟨a0, a1, a2, a3⟩ := (bxa.later B4).at4
  obtain ⟨b0, b1, b2, b3⟩ := (bxb.later B4).at4
  dsimp only at a0 a1 a2 a3 b0 b1 b2 b3
  have br := bxr.later B4
  obtain ⟨r0, r1, r2, r3⟩ := br.at4
  dsimp only [nul] at r0 r1 r2 r3
  simp only [Nat.zero_add] at r1 r2 r3
  have f0 := br.free 0
  have f1 := br.free 1
  have f2 := br.free 2
  have f3 := br.free 3
  have lt1 := br.lt
  have Be := below_trans Bw B4
  go_wp2
  refine bodyPost_ret_by (v := .tuple #[va 0 0 0 ⟨#[]⟩, .int .i64 31]) ?_ rfl ⟨rfl, ?_⟩
  · simp [results, Tryz.results17, go_sem, r0, r1, r2, r3]
  · exact (((Be.setCell (p := ⟨w.heap.size + 1 + 1, 0, none⟩) (by dsimp only; omega) _).setCell (p := ⟨w.heap.size + 1 + 1, 1, none⟩) (by dsimp only; omega) _).setCell (p := ⟨w.heap.size + 1 + 1, 2, none⟩) (by dsimp only; omega) _).setCell (p := ⟨w.heap.size + 1 + 1, 3, none⟩) (by dsimp only; omega) _


set_option maxRecDepth 20000 in
set_option maxHeartbeats 4000000 in
theorem rbin_tf18 (ak : Int) (bk : Int) (an am bn bm : Int) (ab bb : List UInt8) (w : World) (t u : Int) (y : Bool) (Ra : Tells 46 #[va ak an am ⟨ab.toArray⟩] w (.bool true)) (Rb : Tells 46 #[va bk bn bm ⟨bb.toArray⟩] w (.bool true)) (Ta : Tells 49 #[va ak an am ⟨ab.toArray⟩] w (.tuple #[.int .i64 t, .bool false])) (Tb : Tells 49 #[va bk bn bm ⟨bb.toArray⟩] w (.tuple #[.int .i64 u, .bool y])) :
    Calls Tryz.prog 17 #[.int .i64 18, va ak an am ⟨ab.toArray⟩, va bk bn bm ⟨bb.toArray⟩] w fun e w' => e = .returned (.tuple #[va 0 0 0 ⟨#[]⟩, .int .i64 31]) ∧ Below w.heap.size w w' := by
  obtain ⟨w0, hw0, bxa, bxb, bxr, Bw⟩ := three_boxes w ⟨ak, an, am, ab⟩ ⟨bk, bn, bm, bb⟩
  dsimp only at hw0
  go_enter Tryz.func17, Tryz.ntmps17
  go_upto_region 1 with fail
  rw [← hw0]
  clear hw0
  have B0 : Below w0.heap.size w0 w0 := Below.refl _ _
  obtain ⟨a0, a1, a2, a3⟩ := (bxa.later B0).at4
  obtain ⟨b0, b1, b2, b3⟩ := (bxb.later B0).at4
  dsimp only at a0 a1 a2 a3 b0 b1 b2 b3
  go_wp2_with fail
  refine (Ra _ (below_trans Bw B0)).mono ?_
  rintro e w1 ⟨rfl, c⟩
  have B1 := below_trans B0 c
  clear a0 a1 a2 a3 b0 b1 b2 b3 c
  obtain ⟨a0, a1, a2, a3⟩ := (bxa.later B1).at4
  obtain ⟨b0, b1, b2, b3⟩ := (bxb.later B1).at4
  dsimp only at a0 a1 a2 a3 b0 b1 b2 b3
  go_wp2_with fail
  refine (Rb _ (below_trans Bw B1)).mono ?_
  rintro e w2 ⟨rfl, c⟩
  have B2 := below_trans B1 c
  clear a0 a1 a2 a3 b0 b1 b2 b3 c
  obtain ⟨a0, a1, a2, a3⟩ := (bxa.later B2).at4
  obtain ⟨b0, b1, b2, b3⟩ := (bxb.later B2).at4
  dsimp only at a0 a1 a2 a3 b0 b1 b2 b3
  go_wp2_with fail
  refine (Ta _ (below_trans Bw B2)).mono ?_
  rintro e w3 ⟨rfl, c⟩
  have B3 := below_trans B2 c
  clear a0 a1 a2 a3 b0 b1 b2 b3 c
  obtain ⟨a0, a1, a2, a3⟩ := (bxa.later B3).at4
  obtain ⟨b0, b1, b2, b3⟩ := (bxb.later B3).at4
  dsimp only at a0 a1 a2 a3 b0 b1 b2 b3
  go_wp2_with fail
  refine (Tb _ (below_trans Bw B3)).mono ?_
  rintro e w4 ⟨rfl, c⟩
  have B4 := below_trans B3 c
  clear a0 a1 a2 a3 b0 b1 b2 b3 c
  obtain ⟨a0, a1, a2, a3⟩ := (bxa.later B4).at4
  obtain ⟨b0, b1, b2, b3⟩ := (bxb.later B4).at4
  dsimp only at a0 a1 a2 a3 b0 b1 b2 b3
  have br := bxr.later B4
  obtain ⟨r0, r1, r2, r3⟩ := br.at4
  dsimp only [nul] at r0 r1 r2 r3
  simp only [Nat.zero_add] at r1 r2 r3
  have f0 := br.free 0
  have f1 := br.free 1
  have f2 := br.free 2
  have f3 := br.free 3
  have lt1 := br.lt
  have Be := below_trans Bw B4
  go_wp2
  refine bodyPost_ret_by (v := .tuple #[va 0 0 0 ⟨#[]⟩, .int .i64 31]) ?_ rfl ⟨rfl, ?_⟩
  · simp [results, Tryz.results17, go_sem, r0, r1, r2, r3]
  · exact (((Be.setCell (p := ⟨w.heap.size + 1 + 1, 0, none⟩) (by dsimp only; omega) _).setCell (p := ⟨w.heap.size + 1 + 1, 1, none⟩) (by dsimp only; omega) _).setCell (p := ⟨w.heap.size + 1 + 1, 2, none⟩) (by dsimp only; omega) _).setCell (p := ⟨w.heap.size + 1 + 1, 3, none⟩) (by dsimp only; omega) _


set_option maxRecDepth 20000 in
set_option maxHeartbeats 4000000 in
theorem rbin_nullB (op : Int) (ak : Int) (bk : Int) (an am bn bm : Int) (ab bb : List UInt8) (w : World) (o1 : ¬ op < 6) (o2 : ¬ op > 18) (o3 : ¬ op ≥ 17) (Ra : Tells 46 #[va ak an am ⟨ab.toArray⟩] w (.bool true)) (Rb : Tells 46 #[va bk bn bm ⟨bb.toArray⟩] w (.bool true)) (Na : Tells 47 #[va ak an am ⟨ab.toArray⟩] w (.bool false)) (Nb : Tells 47 #[va bk bn bm ⟨bb.toArray⟩] w (.bool true)) :
    Calls Tryz.prog 17 #[.int .i64 op, va ak an am ⟨ab.toArray⟩, va bk bn bm ⟨bb.toArray⟩] w fun e w' => e = .returned (.tuple #[va 0 0 0 ⟨#[]⟩, .int .i64 0]) ∧ Below w.heap.size w w' := by
  obtain ⟨w0, hw0, bxa, bxb, bxr, Bw⟩ := three_boxes w ⟨ak, an, am, ab⟩ ⟨bk, bn, bm, bb⟩
  dsimp only at hw0
  go_enter Tryz.func17, Tryz.ntmps17
  go_upto_region 1 with fail
  rw [← hw0]
  clear hw0
  have B0 : Below w0.heap.size w0 w0 := Below.refl _ _
  obtain ⟨a0, a1, a2, a3⟩ := (bxa.later B0).at4
  obtain ⟨b0, b1, b2, b3⟩ := (bxb.later B0).at4
  dsimp only at a0 a1 a2 a3 b0 b1 b2 b3
  go_wp2_with fail
  refine (Ra _ (below_trans Bw B0)).mono ?_
  rintro e w1 ⟨rfl, c⟩
  have B1 := below_trans B0 c
  clear a0 a1 a2 a3 b0 b1 b2 b3 c
  obtain ⟨a0, a1, a2, a3⟩ := (bxa.later B1).at4
  obtain ⟨b0, b1, b2, b3⟩ := (bxb.later B1).at4
  dsimp only at a0 a1 a2 a3 b0 b1 b2 b3
  go_wp2_with fail
  refine (Rb _ (below_trans Bw B1)).mono ?_
  rintro e w2 ⟨rfl, c⟩
  have B2 := below_trans B1 c
  clear a0 a1 a2 a3 b0 b1 b2 b3 c
  obtain ⟨a0, a1, a2, a3⟩ := (bxa.later B2).at4
  obtain ⟨b0, b1, b2, b3⟩ := (bxb.later B2).at4
  dsimp only at a0 a1 a2 a3 b0 b1 b2 b3
  go_wp2_with fail
  refine (Na _ (below_trans Bw B2)).mono ?_
  rintro e w3 ⟨rfl, c⟩
  have B3 := below_trans B2 c
  clear a0 a1 a2 a3 b0 b1 b2 b3 c
  obtain ⟨a0, a1, a2, a3⟩ := (bxa.later B3).at4
  obtain ⟨b0, b1, b2, b3⟩ := (bxb.later B3).at4
  dsimp only at a0 a1 a2 a3 b0 b1 b2 b3
  go_wp2_with fail
  refine (Nb _ (below_trans Bw B3)).mono ?_
  rintro e w4 ⟨rfl, c⟩
  have B4 := below_trans B3 c
  clear a0 a1 a2 a3 b0 b1 b2 b3 c
  obtain ⟨a0, a1, a2, a3⟩ := (bxa.later B4).at4
  obtain ⟨b0, b1, b2, b3⟩ := (bxb.later B4).at4
  dsimp only at a0 a1 a2 a3 b0 b1 b2 b3
  have br := bxr.later B4
  obtain ⟨r0, r1, r2, r3⟩ := br.at4
  dsimp only [nul] at r0 r1 r2 r3
  simp only [Nat.zero_add] at r1 r2 r3
  have f0 := br.free 0
  have f1 := br.free 1
  have f2 := br.free 2
  have f3 := br.free 3
  have lt1 := br.lt
  have Be := below_trans Bw B4
  go_wp2
  refine bodyPost_ret_by (v := .tuple #[va 0 0 0 ⟨#[]⟩, .int .i64 0]) ?_ rfl ⟨rfl, ?_⟩
  · simp [results, Tryz.results17, go_sem, r0, r1, r2, r3]
  · exact (((Be.setCell (p := ⟨w.heap.size + 1 + 1, 0, none⟩) (by dsimp only; omega) _).setCell (p := ⟨w.heap.size + 1 + 1, 1, none⟩) (by dsimp only; omega) _).setCell (p := ⟨w.heap.size + 1 + 1, 2, none⟩) (by dsimp only; omega) _).setCell (p := ⟨w.heap.size + 1 + 1, 3, none⟩) (by dsimp only; omega) _


set_option maxRecDepth 20000 in
set_option maxHeartbeats 4000000 in
theorem rbin_cmpF (op : Int) (ak : Int) (an am bn bm : Int) (ab bb : List UInt8) (w : World) (rk rn rm : Int) (rb : ByteArray) (o1 : ¬ op < 6) (o2 : ¬ op > 18) (o3 : ¬ op ≥ 17) (o4 : ¬ op ≤ 10) (Ra : Tells 46 #[va ak an am ⟨ab.toArray⟩] w (.bool true)) (Rb : Tells 46 #[va ak bn bm ⟨bb.toArray⟩] w (.bool true)) (Na : Tells 47 #[va ak an am ⟨ab.toArray⟩] w (.bool false)) (Nb : Tells 47 #[va ak bn bm ⟨bb.toArray⟩] w (.bool false)) (Ma : Tells 70 #[va ak an am ⟨ab.toArray⟩] w (.bool false)) (c : Int) (C : Tells 74 #[va ak an am ⟨ab.toArray⟩, va ak bn bm ⟨bb.toArray⟩] w (.int .i64 c)) (HH : Tells 72 #[.int .i64 op, .int .i64 c] w (.bool (hb7 op c))) (T : Tells 71 #[.bool (hb7 op c)] w (va rk rn rm rb)) :
    Calls Tryz.prog 17 #[.int .i64 op, va ak an am ⟨ab.toArray⟩, va ak bn bm ⟨bb.toArray⟩] w fun e w' => e = .returned (.tuple #[va rk rn rm rb, .int .i64 0]) ∧ Below w.heap.size w w' := by
  obtain ⟨w0, hw0, bxa, bxb, bxr, Bw⟩ := three_boxes w ⟨ak, an, am, ab⟩ ⟨ak, bn, bm, bb⟩
  dsimp only at hw0
  go_enter Tryz.func17, Tryz.ntmps17
  go_upto_region 1 with fail
  rw [← hw0]
  clear hw0
  have B0 : Below w0.heap.size w0 w0 := Below.refl _ _
  obtain ⟨a0, a1, a2, a3⟩ := (bxa.later B0).at4
  obtain ⟨b0, b1, b2, b3⟩ := (bxb.later B0).at4
  dsimp only at a0 a1 a2 a3 b0 b1 b2 b3
  go_wp2_with fail
  refine (Ra _ (below_trans Bw B0)).mono ?_
  rintro e w1 ⟨rfl, c⟩
  have B1 := below_trans B0 c
  clear a0 a1 a2 a3 b0 b1 b2 b3 c
  obtain ⟨a0, a1, a2, a3⟩ := (bxa.later B1).at4
  obtain ⟨b0, b1, b2, b3⟩ := (bxb.later B1).at4
  dsimp only at a0 a1 a2 a3 b0 b1 b2 b3
  go_wp2_with fail
  refine (Rb _ (below_trans Bw B1)).mono ?_
  rintro e w2 ⟨rfl, c⟩
  have B2 := below_trans B1 c
  clear a0 a1 a2 a3 b0 b1 b2 b3 c
  obtain ⟨a0, a1, a2, a3⟩ := (bxa.later B2).at4
  obtain ⟨b0, b1, b2, b3⟩ := (bxb.later B2).at4
  dsimp only at a0 a1 a2 a3 b0 b1 b2 b3
  go_wp2_with fail
  refine (Na _ (below_trans Bw B2)).mono ?_
  rintro e w3 ⟨rfl, c⟩
  have B3 := below_trans B2 c
  clear a0 a1 a2 a3 b0 b1 b2 b3 c
  obtain ⟨a0, a1, a2, a3⟩ := (bxa.later B3).at4
  obtain ⟨b0, b1, b2, b3⟩ := (bxb.later B3).at4
  dsimp only at a0 a1 a2 a3 b0 b1 b2 b3
  go_wp2_with fail
  refine (Nb _ (below_trans Bw B3)).mono ?_
  rintro e w4 ⟨rfl, c⟩
  have B4 := below_trans B3 c
  clear a0 a1 a2 a3 b0 b1 b2 b3 c
  obtain ⟨a0, a1, a2, a3⟩ := (bxa.later B4).at4
  obtain ⟨b0, b1, b2, b3⟩ := (bxb.later B4).at4
  dsimp only at a0 a1 a2 a3 b0 b1 b2 b3
  go_wp2_with fail
  refine (Ma _ (below_trans Bw B4)).mono ?_
  rintro e w5 ⟨rfl, c⟩
  have B5 := below_trans B4 c
  clear a0 a1 a2 a3 b0 b1 b2 b3 c
  obtain ⟨a0, a1, a2, a3⟩ := (bxa.later B5).at4
  obtain ⟨b0, b1, b2, b3⟩ := (bxb.later B5).at4
  dsimp only at a0 a1 a2 a3 b0 b1 b2 b3
  go_wp2_with fail
  refine (C _ (below_trans Bw B5)).mono ?_
  rintro e w6 ⟨rfl, c⟩
  have B6 := below_trans B5 c
  clear a0 a1 a2 a3 b0 b1 b2 b3 c
  obtain ⟨a0, a1, a2, a3⟩ := (bxa.later B6).at4
  obtain ⟨b0, b1, b2, b3⟩ := (bxb.later B6).at4
  dsimp only at a0 a1 a2 a3 b0 b1 b2 b3
  go_wp2_with fail
  refine (HH _ (below_trans Bw B6)).mono ?_
  rintro e w7 ⟨rfl, c⟩
  have B7 := below_trans B6 c
  clear a0 a1 a2 a3 b0 b1 b2 b3 c
  obtain ⟨a0, a1, a2, a3⟩ := (bxa.later B7).at4
  obtain ⟨b0, b1, b2, b3⟩ := (bxb.later B7).at4
  dsimp only at a0 a1 a2 a3 b0 b1 b2 b3
  go_wp2_with fail
  refine (T _ (below_trans Bw B7)).mono ?_
  rintro e w8 ⟨rfl, c⟩
  have B8 := below_trans B7 c
  clear a0 a1 a2 a3 b0 b1 b2 b3 c
  obtain ⟨a0, a1, a2, a3⟩ := (bxa.later B8).at4
  obtain ⟨b0, b1, b2, b3⟩ := (bxb.later B8).at4
  dsimp only at a0 a1 a2 a3 b0 b1 b2 b3
  have br := bxr.later B8
  obtain ⟨r0, r1, r2, r3⟩ := br.at4
  dsimp only [nul] at r0 r1 r2 r3
  simp only [Nat.zero_add] at r1 r2 r3
  have f0 := br.free 0
  have f1 := br.free 1
  have f2 := br.free 2
  have f3 := br.free 3
  have lt1 := br.lt
  have Be := below_trans Bw B8
  go_wp2
  refine bodyPost_ret_by (v := .tuple #[va rk rn rm rb, .int .i64 0]) ?_ rfl ⟨rfl, ?_⟩
  · simp [results, Tryz.results17, go_sem, r0, r1, r2, r3]
  · exact (((Be.setCell (p := ⟨w.heap.size + 1 + 1, 0, none⟩) (by dsimp only; omega) _).setCell (p := ⟨w.heap.size + 1 + 1, 1, none⟩) (by dsimp only; omega) _).setCell (p := ⟨w.heap.size + 1 + 1, 2, none⟩) (by dsimp only; omega) _).setCell (p := ⟨w.heap.size + 1 + 1, 3, none⟩) (by dsimp only; omega) _
end Go.Proofs.YtgapmofhnjfdiaaGreatDoor

namespace Go.Proofs.YtgapmofhnjfdiaaGreatDoor
open Go.ChangeShapes Go.WideShapes Go.ChangeAt Go.WideMaps Go.WideElems Go.RowKit Go.Shelf Go.Lib

theorem stp_b : joinedFacts Tryz.pinned.checked.prog 4 Tryz.f4 Rows.evalStepsSpec Rows.evalStepsRow = true := by kernel_rfl
end Go.Proofs.YtgapmofhnjfdiaaGreatDoor
