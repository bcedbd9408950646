/-
  The document's answers for eval: Binary, path by path.
-/
import Derived.Test.YtnpdecbgakgbgaaGreatDoorQR1
import Derived.Test.YtnpdecbgakgbgaaGreatDoorMEQFun0
namespace Go.Proofs.YtnpdecbgakgbgaaGreatDoor
open Go.RowKit Go.Shelf
attribute [local go_sem] cell?_more frozen?_more setCell_more more_lt more_more more_drew more_drewN setCell_drewN alloc_drewN

set_option maxRecDepth 20000 in
set_option maxHeartbeats 4000000 in
theorem rbin_low (op : Int) (ak : Int) (bk : Int) (an am bn bm : Int) (ab bb : List UInt8) (w : World) (o1 : op < 6)  :
    Calls Tryz.prog 18 #[.int .i64 op, va ak an am ⟨ab.toArray⟩, va bk bn bm ⟨bb.toArray⟩] w fun e w' => e = .returned (.tuple #[va 0 0 0 ⟨#[]⟩, .int .i64 1]) ∧ Below w.heap.size w w' := by
  obtain ⟨w0, hw0, bxa, bxb, bxr, Bw⟩ := three_boxes w ⟨ak, an, am, ab⟩ ⟨bk, bn, bm, bb⟩
  dsimp only at hw0
  go_enter Tryz.func18, Tryz.ntmps18
  go_upto_region 1 with fail
  rw [← hw0]
  clear hw0
  have B0 : Below w0.heap.size w0 w0 := Below.refl _ _
  obtain ⟨a0, a1, a2, a3⟩ := (bxa.later B0).at4
  obtain ⟨b0, b1, b2, b3⟩ := (bxb.later B0).at4
  dsimp only at a0 a1 a2 a3 b0 b1 b2 b3
  have br := bxr.later B0
  obtain ⟨r0, r1, r2, r3⟩ := br.at4
  dsimp only [nul] at r0 r1 r2 r3
  simp only [Nat.zero_add] at r1 r2 r3
  have f0 := br.free 0
  have f1 := br.free 1
  have f2 := br.free 2
  have f3 := br.free 3
  have lt1 := br.lt
  have Be := below_trans Bw B0
  go_wp2
  refine bodyPost_ret_by (v := .tuple #[va 0 0 0 ⟨#[]⟩, .int .i64 1]) ?_ rfl ⟨rfl, ?_⟩
  · simp [results, Tryz.results18, go_sem, r0, r1, r2, r3]
  · exact (((Be.setCell (p := ⟨w.heap.size + 1 + 1, 0, none⟩) (by dsimp only; omega) _).setCell (p := ⟨w.heap.size + 1 + 1, 1, none⟩) (by dsimp only; omega) _).setCell (p := ⟨w.heap.size + 1 + 1, 2, none⟩) (by dsimp only; omega) _).setCell (p := ⟨w.heap.size + 1 + 1, 3, none⟩) (by dsimp only; omega) _


set_option maxRecDepth 20000 in
set_option maxHeartbeats 4000000 in
theorem rbin_badB (op : Int) (ak : Int) (bk : Int) (an am bn bm : Int) (ab bb : List UInt8) (w : World) (o1 : ¬ op < 6) (o2 : ¬ op > 18) (Ra : Tells 26 #[va ak an am ⟨ab.toArray⟩] w (.bool true)) (Rb : Tells 26 #[va bk bn bm ⟨bb.toArray⟩] w (.bool false)) :
    Calls Tryz.prog 18 #[.int .i64 op, va ak an am ⟨ab.toArray⟩, va bk bn bm ⟨bb.toArray⟩] w fun e w' => e = .returned (.tuple #[va 0 0 0 ⟨#[]⟩, .int .i64 1]) ∧ Below w.heap.size w w' := by
  obtain ⟨w0, hw0, bxa, bxb, bxr, Bw⟩ := three_boxes w ⟨ak, an, am, ab⟩ ⟨bk, bn, bm, bb⟩
  dsimp only at hw0
  go_enter Tryz.func18, Tryz.ntmps18
  go_upto_region 1 with fail
  rw [← hw0]
  clear hw0
  have B0 : Below w0.heap.size w0 w0 := Below.refl _ _
  obtain ⟨a0, a1, a2, a3⟩ := (bxa.later B0).at4
  obtain ⟨b0, b1, b2, b3⟩ := (bxb.later B0).at4
  dsimp only at a0 a1 a2 a3 b0 b1 b2 b3
  go_wp2_with fail
  refine (Ra _ (below_trans Bw B0)).mono ?_
  rintro e w1 ⟨rfl, c⟩
  have B1 := below_trans B0 c
  clear a0 a1 a2 a3 b0 b1 b2 b3 c
  obtain ⟨a0, a1, a2, a3⟩ := (bxa.later B1).at4
  obtain ⟨b0, b1, b2, b3⟩ := (bxb.later B1).at4
  dsimp only at a0 a1 a2 a3 b0 b1 b2 b3
  go_wp2_with fail
  refine (Rb _ (below_trans Bw B1)).mono ?_
  rintro e w2 ⟨rfl, c⟩
  have B2 := below_trans B1 c
  clear a0 a1 a2 a3 b0 b1 b2 b3 c
  obtain ⟨a0, a1, a2, a3⟩ := (bxa.later B2).at4
  obtain ⟨b0, b1, b2, b3⟩ := (bxb.later B2).at4
  dsimp only at a0 a1 a2 a3 b0 b1 b2 b3
  have br := bxr.later B2
  obtain ⟨r0, r1, r2, r3⟩ := br.at4
  dsimp only [nul] at r0 r1 r2 r3
  simp only [Nat.zero_add] at r1 r2 r3
  have f0 := br.free 0
  have f1 := br.free 1
  have f2 := br.free 2
  have f3 := br.free 3
  have lt1 := br.lt
  have Be := below_trans Bw B2
  go_wp2
  refine bodyPost_ret_by (v := .tuple #[va 0 0 0 ⟨#[]⟩, .int .i64 1]) ?_ rfl ⟨rfl, ?_⟩
  · simp [results, Tryz.results18, go_sem, r0, r1, r2, r3]
  · exact (((Be.setCell (p := ⟨w.heap.size + 1 + 1, 0, none⟩) (by dsimp only; omega) _).setCell (p := ⟨w.heap.size + 1 + 1, 1, none⟩) (by dsimp only; omega) _).setCell (p := ⟨w.heap.size + 1 + 1, 2, none⟩) (by dsimp only; omega) _).setCell (p := ⟨w.heap.size + 1 + 1, 3, none⟩) (by dsimp only; omega) _


set_option maxRecDepth 20000 in
set_option maxHeartbeats 4000000 in
theorem rbin_ft17 (ak : Int) (bk : Int) (an am bn bm : Int) (ab bb : List UInt8) (w : World) (t u : Int) (Ra : Tells 26 #[va ak an am ⟨ab.toArray⟩] w (.bool true)) (Rb : Tells 26 #[va bk bn bm ⟨bb.toArray⟩] w (.bool true)) (Ta : Tells 41 #[va ak an am ⟨ab.toArray⟩] w (.tuple #[.int .i64 t, .bool true])) (Tb : Tells 41 #[va bk bn bm ⟨bb.toArray⟩] w (.tuple #[.int .i64 u, .bool false])) :
    Calls Tryz.prog 18 #[.int .i64 17, va ak an am ⟨ab.toArray⟩, va bk bn bm ⟨bb.toArray⟩] w fun e w' => e = .returned (.tuple #[va 0 0 0 ⟨#[]⟩, .int .i64 31]) ∧ Below w.heap.size w w' := by
  obtain ⟨w0, hw0, bxa, bxb, bxr, Bw⟩ := three_boxes w ⟨ak, an, am, ab⟩ ⟨bk, bn, bm, bb⟩
  dsimp only at hw0
  go_enter Tryz.func18, Tryz.ntmps18
  go_upto_region 1 with fail
  rw [← hw0]
  clear hw0
  have B0 : Below w0.heap.size w0 w0 := Below.refl _ _
  obtain ⟨a0, a1, a2, a3⟩ := (bxa.later B0).at4
  obtain ⟨b0, b1, b2, b3⟩ := (bxb.later B0).at4
  dsimp only at a0 a1 a2 a3 b0 b1 b2 b3
  go_wp2_with fail
  refine (Ra _ (below_trans Bw B0)).mono ?_
  rintro e w1 ⟨rfl, c⟩
  have B1 := below_trans B0 c
  clear a0 a1 a2 a3 b0 b1 b2 b3 c
  obtain ⟨a0, a1, a2, a3⟩ := (bxa.later B1).at4
  obtain ⟨b0, b1, b2, b3⟩ := (bxb.later B1).at4
  dsimp only at a0 a1 a2 a3 b0 b1 b2 b3
  go_wp2_with fail
  refine (Rb _ (below_trans Bw B1)).mono ?_
  rintro e w2 ⟨rfl, c⟩
  have B2 := below_trans B1 c
  clear a0 a1 a2 a3 b0 b1 b2 b3 c
  obtain ⟨a0, a1, a2, a3⟩ := (bxa.later B2).at4
  obtain ⟨b0, b1, b2, b3⟩ := (bxb.later B2).at4
  dsimp only at a0 a1 a2 a3 b0 b1 b2 b3
  go_wp2_with fail
  refine (Ta _ (below_trans Bw B2)).mono ?_
  rintro e w3 ⟨rfl, c⟩
  have B3 := below_trans B2 c
  clear a0 a1 a2 a3 b0 b1 b2 b3 c
  obtain ⟨a0, a1, a2, a3⟩ := (bxa.later B3).at4
  obtain ⟨b0, b1, b2, b3⟩ := (bxb.later B3).at4
  dsimp only at a0 a1 a2 a3 b0 b1 b2 b3
  go_wp2_with fail
  refine (Tb _ (below_trans Bw B3)).mono ?_
  rintro e w4 ⟨rfl, c⟩
  have B4 := below_trans B3 c
  clear a0 a1 a2 a3 b0 b1 b2 b3 c
  obtain ⟨a0, a1, a2, a3⟩ := (bxa.later B4).at4
  obtain ⟨b0, b1, b2, b3⟩ := (bxb.later B4).at4
  dsimp only at a0 a1 a2 a3 b0 b1 b2 b3
  have br := bxr.later B4
  obtain ⟨r0, r1, r2, r3⟩ := br.at4
  dsimp only [nul] at r0 r1 r2 r3
  simp only [Nat.zero_add] at r1 r2 r3
  have f0 := br.free 0
  have f1 := br.free 1
  have f2 := br.free 2
  have f3 := br.free 3
  have lt1 := br.lt
  have Be := below_trans Bw B4
  go_wp2
  refine bodyPost_ret_by (v := .tuple #[va 0 0 0 ⟨#[]⟩, .int .i64 31]) ?_ rfl ⟨rfl, ?_⟩
  · simp [results, Tryz.results18, go_sem, r0, r1, r2, r3]
  · exact (((Be.setCell (p := ⟨w.heap.size + 1 + 1, 0, none⟩) (by dsimp only; omega) _).setCell (p := ⟨w.heap.size + 1 + 1, 1, none⟩) (by dsimp only; omega) _).setCell (p := ⟨w.heap.size + 1 + 1, 2, none⟩) (by dsimp only; omega) _).setCell (p := ⟨w.heap.size + 1 + 1, 3, none⟩) (by dsimp only; omega) _


set_option maxRecDepth 20000 in
set_option maxHeartbeats 4000000 in
theorem rbin_ft18 (ak : Int) (bk : Int) (an am bn bm : Int) (ab bb : List UInt8) (w : World) (t u : Int) (Ra : Tells 26 #[va ak an am ⟨ab.toArray⟩] w (.bool true)) (Rb : Tells 26 #[va bk bn bm ⟨bb.toArray⟩] w (.bool true)) (Ta : Tells 41 #[va ak an am ⟨ab.toArray⟩] w (.tuple #[.int .i64 t, .bool true])) (Tb : Tells 41 #[va bk bn bm ⟨bb.toArray⟩] w (.tuple #[.int .i64 u, .bool false])) :
    Calls Tryz.prog 18 #[.int .i64 18, va ak an am ⟨ab.toArray⟩, va bk bn bm ⟨bb.toArray⟩] w fun e w' => e = .returned (.tuple #[va 0 0 0 ⟨#[]⟩, .int .i64 31]) ∧ Below w.heap.size w w' := by
  obtain ⟨w0, hw0, bxa, bxb, bxr, Bw⟩ := three_boxes w ⟨ak, an, am, ab⟩ ⟨bk, bn, bm, bb⟩
  dsimp only at hw0
  go_enter Tryz.func18, Tryz.ntmps18
  go_upto_region 1 with fail
  rw [← hw0]
  clear hw0
  have B0 : Below w0.heap.size w0 w0 := Below.refl _ _
  obtain ⟨a0, a1, a2, a3⟩ := (bxa.later B0).at4
  obtain ⟨b0, b1, b2, b3⟩ := (bxb.later B0).at4
  dsimp only at a0 a1 a2 a3 b0 b1 b2 b3
  go_wp2_with fail
  refine (Ra _ (below_trans Bw B0)).mono ?_
  rintro e w1 ⟨rfl, c⟩
  have B1 := below_trans B0 c
  clear a0 a1 a2 a3 b0 b1 b2 b3 c
  obtain ⟨a0, a1, a2, a3⟩ := (bxa.later B1).at4
  obtain ⟨b0, b1, b2, b3⟩ := (bxb.later B1).at4
  dsimp only at a0 a1 a2 a3 b0 b1 b2 b3
  go_wp2_with fail
  refine (Rb _ (below_trans Bw B1)).mono ?_
  rintro e w2 ⟨rfl, c⟩
  have B2 := below_trans B1 c
  clear a0 a1 a2 a3 b0 b1 b2 b3 c
  obtain ⟨a0, a1, a2, a3⟩ := (bxa.later B2).at4
  obtain ⟨b0, b1, b2, b3⟩ := (bxb.later B2).at4
  dsimp only at a0 a1 a2 a3 b0 b1 b2 b3
  go_wp2_with fail
  refine (Ta _ (below_trans Bw B2)).mono ?_
  rintro e w3 ⟨rfl, c⟩
  have B3 := below_trans B2 c
  clear a0 a1 a2 a3 b0 b1 b2 b3 c
  obtain ⟨a0, a1, a2, a3⟩ := (bxa.later B3).at4
  obtain ⟨b0, b1, b2, b3⟩ := (bxb.later B3).at4
  dsimp only at a0 a1 a2 a3 b0 b1 b2 b3
  go_wp2_with fail
  refine (Tb _ (below_trans Bw B3)).mono ?_
  rintro e w4 ⟨rfl, c⟩
  have B4 := below_trans B3 c
  clear a0 a1 a2 a3 b0 b1 b2 b3 c
  obtain ⟨a0, a1, a2, a3⟩ := (bxa.later B4).at4
  obtain ⟨b0, b1, b2, b3⟩ := (bxb.later B4).at4
  dsimp only at a0 a1 a2 a3 b0 b1 b2 b3
  have br := bxr.later B4
  obtain ⟨r0, r1, r2, r3⟩ := br.at4
  dsimp only [nul] at r0 r1 r2 r3
  simp only [Nat.zero_add] at r1 r2 r3
  have f0 := br.free 0
  have f1 := br.free 1
  have f2 := br.free 2
  have f3 := br.free 3
  have lt1 := br.lt
  have Be := below_trans Bw B4
  go_wp2
  refine bodyPost_ret_by (v := .tuple #[va 0 0 0 ⟨#[]⟩, .int .i64 31]) ?_ rfl ⟨rfl, ?_⟩
  · simp [results, Tryz.results18, go_sem, r0, r1, r2, r3]
  · exact (((Be.setCell (p := ⟨w.heap.size + 1 + 1, 0, none⟩) (by dsimp only; omega) _).setCell (p := ⟨w.heap.size + 1 + 1, 1, none⟩) (by dsimp only; omega) _).setCell (p := ⟨w.heap.size + 1 + 1, 2, none⟩) (by dsimp only; omega) _).setCell (p := ⟨w.heap.size + 1 + 1, 3, none⟩) (by dsimp only; omega) _


set_option maxRecDepth 20000 in
set_option maxHeartbeats 4000000 in
theorem rbin_reck (op : Int) (ak : Int) (bk : Int) (an am bn bm : Int) (ab bb : List UInt8) (w : World) (rk rn rm re : Int) (rb : ByteArray) (o1 : ¬ op < 6) (o2 : ¬ op > 18) (o4 : op ≤ 10) (Ra : Tells 26 #[va ak an am ⟨ab.toArray⟩] w (.bool true)) (Rb : Tells 26 #[va bk bn bm ⟨bb.toArray⟩] w (.bool true)) (Na : Tells 39 #[va ak an am ⟨ab.toArray⟩] w (.bool false)) (Nb : Tells 39 #[va bk bn bm ⟨bb.toArray⟩] w (.bool false)) (F : Tells 61 #[.int .i64 op, va ak an am ⟨ab.toArray⟩, va bk bn bm ⟨bb.toArray⟩] w (.tuple #[va rk rn rm rb, .int .i64 re])) :
    Calls Tryz.prog 18 #[.int .i64 op, va ak an am ⟨ab.toArray⟩, va bk bn bm ⟨bb.toArray⟩] w fun e w' => e = .returned (.tuple #[va rk rn rm rb, .int .i64 re]) ∧ Below w.heap.size w w' := by
  obtain ⟨w0, hw0, bxa, bxb, bxr, Bw⟩ := three_boxes w ⟨ak, an, am, ab⟩ ⟨bk, bn, bm, bb⟩
  dsimp only at hw0
  go_enter Tryz.func18, Tryz.ntmps18
  go_upto_region 1 with fail
  rw [← hw0]
  clear hw0
  have B0 : Below w0.heap.size w0 w0 := Below.refl _ _
  obtain ⟨a0, a1, a2, a3⟩ := (bxa.later B0).at4
  obtain ⟨b0, b1, b2, b3⟩ := (bxb.later B0).at4
  dsimp only at a0 a1 a2 a3 b0 b1 b2 b3
  go_wp2_with fail
  refine (Ra _ (below_trans Bw B0)).mono ?_
  rintro e w1 ⟨rfl, c⟩
  have B1 := below_trans B0 c
  clear a0 a1 a2 a3 b0 b1 b2 b3 c
  obtain ⟨a0, a1, a2, a3⟩ := (bxa.later B1).at4
  obtain ⟨b0, b1, b2, b3⟩ := (bxb.later B1).at4
  dsimp only at a0 a1 a2 a3 b0 b1 b2 b3
  go_wp2_with fail
  refine (Rb _ (below_trans Bw B1)).mono ?_
  rintro e w2 ⟨rfl, c⟩
  have B2 := below_trans B1 c
  clear a0 a1 a2 a3 b0 b1 b2 b3 c
  obtain ⟨a0, a1, a2, a3⟩ := (bxa.later B2).at4
  obtain ⟨b0, b1, b2, b3⟩ := (bxb.later B2).at4
  dsimp only at a0 a1 a2 a3 b0 b1 b2 b3
  go_wp2_with fail
  refine (Na _ (below_trans Bw B2)).mono ?_
  rintro e w3 ⟨rfl, c⟩
  have B3 := below_trans B2 c
  clear a0 a1 a2 a3 b0 b1 b2 b3 c
  obtain ⟨a0, a1, a2, a3⟩ := (bxa.later B3).at4
  obtain ⟨b0, b1, b2, b3⟩ := (bxb.later B3).at4
  dsimp only at a0 a1 a2 a3 b0 b1 b2 b3
  go_wp2_with fail
  refine (Nb _ (below_trans Bw B3)).mono ?_
  rintro e w4 ⟨rfl, c⟩
  have B4 := below_trans B3 c
  clear a0 a1 a2 a3 b0 b1 b2 b3 c
  obtain ⟨a0, a1, a2, a3⟩ := (bxa.later B4).at4
  obtain ⟨b0, b1, b2, b3⟩ := (bxb.later B4).at4
  dsimp only at a0 a1 a2 a3 b0 b1 b2 b3
  go_wp2_with fail
  refine (F _ (below_trans Bw B4)).mono ?_
  rintro e w5 ⟨rfl, c⟩
  have B5 := below_trans B4 c
  clear a0 a1 a2 a3 b0 b1 b2 b3 c
  obtain ⟨a0, a1, a2, a3⟩ := (bxa.later B5).at4
  obtain ⟨b0, b1, b2, b3⟩ := (bxb.later B5).at4
  dsimp only at a0 a1 a2 a3 b0 b1 b2 b3
  have br := bxr.later B5
  obtain ⟨r0, r1, r2, r3⟩ := br.at4
  dsimp only [nul] at r0 r1 r2 r3
  simp only [Nat.zero_add] at r1 r2 r3
  have f0 := br.free 0
  have f1 := br.free 1
  have f2 := br.free 2
  have f3 := br.free 3
  have lt1 := br.lt
  have Be := below_trans Bw B5
  go_wp2
  refine bodyPost_ret_by (v := .tuple #[va rk rn rm rb, .int .i64 re]) ?_ rfl ⟨rfl, ?_⟩
  · simp [results, Tryz.results18, go_sem, r0, r1, r2, r3]
  · exact (((Be.setCell (p := ⟨w.heap.size + 1 + 1, 0, none⟩) (by dsimp only; omega) _).setCell (p := ⟨w.heap.size + 1 + 1, 1, none⟩) (by dsimp only; omega) _).setCell (p := ⟨w.heap.size + 1 + 1, 2, none⟩) (by dsimp only; omega) _).setCell (p := ⟨w.heap.size + 1 + 1, 3, none⟩) (by dsimp only; omega) _


set_option maxRecDepth 20000 in
set_option maxHeartbeats 4000000 in
theorem rbin_othF (op : Int) (ak : Int) (bk : Int) (an am bn bm : Int) (ab bb : List UInt8) (w : World) (o1 : ¬ op < 6) (o2 : ¬ op > 18) (o3 : ¬ op ≥ 17) (o4 : ¬ op ≤ 10) (ek : (ak != bk) = true) (Ra : Tells 26 #[va ak an am ⟨ab.toArray⟩] w (.bool true)) (Rb : Tells 26 #[va bk bn bm ⟨bb.toArray⟩] w (.bool true)) (Na : Tells 39 #[va ak an am ⟨ab.toArray⟩] w (.bool false)) (Nb : Tells 39 #[va bk bn bm ⟨bb.toArray⟩] w (.bool false)) (Ma : Tells 62 #[va ak an am ⟨ab.toArray⟩] w (.bool false)) :
    Calls Tryz.prog 18 #[.int .i64 op, va ak an am ⟨ab.toArray⟩, va bk bn bm ⟨bb.toArray⟩] w fun e w' => e = .returned (.tuple #[va 0 0 0 ⟨#[]⟩, .int .i64 31]) ∧ Below w.heap.size w w' := by
  obtain ⟨w0, hw0, bxa, bxb, bxr, Bw⟩ := three_boxes w ⟨ak, an, am, ab⟩ ⟨bk, bn, bm, bb⟩
  dsimp only at hw0
  go_enter Tryz.func18, Tryz.ntmps18
  go_upto_region 1 with fail
  rw [← hw0]
  clear hw0
  have B0 : Below w0.heap.size w0 w0 := Below.refl _ _
  obtain ⟨a0, a1, a2, a3⟩ := (bxa.later B0).at4
  obtain ⟨b0, b1, b2, b3⟩ := (bxb.later B0).at4
  dsimp only at a0 a1 a2 a3 b0 b1 b2 b3
  go_wp2_with fail
  refine (Ra _ (below_trans Bw B0)).mono ?_
  rintro e w1 ⟨rfl, c⟩
  have B1 := below_trans B0 c
  clear a0 a1 a2 a3 b0 b1 b2 b3 c
  obtain ⟨a0, a1, a2, a3⟩ := (bxa.later B1).at4
  obtain ⟨b0, b1, b2, b3⟩ := (bxb.later B1).at4
  dsimp only at a0 a1 a2 a3 b0 b1 b2 b3
  go_wp2_with fail
  refine (Rb _ (below_trans Bw B1)).mono ?_
  rintro e w2 ⟨rfl, c⟩
  have B2 := below_trans B1 c
  clear a0 a1 a2 a3 b0 b1 b2 b3 c
  obtain ⟨a0, a1, a2, a3⟩ := (bxa.later B2).at4
  obtain ⟨b0, b1, b2, b3⟩ := (bxb.later B2).at4
  dsimp only at a0 a1 a2 a3 b0 b1 b2 b3
  go_wp2_with fail
  refine (Na _ (below_trans Bw B2)).mono ?_
  rintro e w3 ⟨rfl, c⟩
  have B3 := below_trans B2 c
  clear a0 a1 a2 a3 b0 b1 b2 b3 c
  obtain ⟨a0, a1, a2, a3⟩ := (bxa.later B3).at4
  obtain ⟨b0, b1, b2, b3⟩ := (bxb.later B3).at4
  dsimp only at a0 a1 a2 a3 b0 b1 b2 b3
  go_wp2_with fail
  refine (Nb _ (below_trans Bw B3)).mono ?_
  rintro e w4 ⟨rfl, c⟩
  have B4 := below_trans B3 c
  clear a0 a1 a2 a3 b0 b1 b2 b3 c
  obtain ⟨a0, a1, a2, a3⟩ := (bxa.later B4).at4
  obtain ⟨b0, b1, b2, b3⟩ := (bxb.later B4).at4
  dsimp only at a0 a1 a2 a3 b0 b1 b2 b3
  go_wp2_with fail
  refine (Ma _ (below_trans Bw B4)).mono ?_
  rintro e w5 ⟨rfl, c⟩
  have B5 := below_trans B4 c
  clear a0 a1 a2 a3 b0 b1 b2 b3 c
  obtain ⟨a0, a1, a2, a3⟩ := (bxa.later B5).at4
  obtain ⟨b0, b1, b2, b3⟩ := (bxb.later B5).at4
  dsimp only at a0 a1 a2 a3 b0 b1 b2 b3
  have br := bxr.later B5
  obtain ⟨r0, r1, r2, r3⟩ := br.at4
  dsimp only [nul] at r0 r1 r2 r3
  simp only [Nat.zero_add] at r1 r2 r3
  have f0 := br.free 0
  have f1 := br.free 1
  have f2 := br.free 2
  have f3 := br.free 3
  have lt1 := br.lt
  have Be := below_trans Bw B5
  go_wp2
  refine bodyPost_ret_by (v := .tuple #[va 0 0 0 ⟨#[]⟩, .int .i64 31]) ?_ rfl ⟨rfl, ?_⟩
  · simp [results, Tryz.results18, go_sem, r0, r1, r2, r3]
  · exact (((Be.setCell (p := ⟨w.heap.size + 1 + 1, 0, none⟩) (by dsimp only; omega) _).setCell (p := ⟨w.heap.size + 1 + 1, 1, none⟩) (by dsimp only; omega) _).setCell (p := ⟨w.heap.size + 1 + 1, 2, none⟩) (by dsimp only; omega) _).setCell (p := ⟨w.heap.size + 1 + 1, 3, none⟩) (by dsimp only; omega) _
end Go.Proofs.YtnpdecbgakgbgaaGreatDoor
