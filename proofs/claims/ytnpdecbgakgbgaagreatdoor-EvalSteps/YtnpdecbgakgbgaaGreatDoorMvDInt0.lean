/-
  eval.Binary, path by path: from kind to kind.
  eval.Binary, path by path: from kind to kind.
  AddInt and MulInt of the program: the exact sum or product, if that is an int.
-/
import Derived.Test.YtnpdecbgakgbgaaGreatDoorMtQTells
import Derived.Test.YtnpdecbgakgbgaaGreatDoorDArith
namespace Go.Proofs.YtnpdecbgakgbgaaGreatDoor
open Go.RowKit Go.Shelf
attribute [local go_sem] cell?_more frozen?_more setCell_more more_lt more_more more_drew more_drewN setCell_drewN alloc_drewN


set_option maxRecDepth 20000 in
set_option maxHeartbeats 4000000 in
theorem qbin_badA (op : Int) (ak : Int) (bk : Int) (an am bn bm : Int) (ab bb : List UInt8) (w : World) (o1 : ¬ op < 6) (o2 : ¬ op > 18) (Ra : Tells 35 #[va ak an am ⟨ab.toArray⟩] w (.bool false)) :
    Calls Tryz.prog 17 #[.int .i64 op, va ak an am ⟨ab.toArray⟩, va bk bn bm ⟨bb.toArray⟩] w fun e w' => e = .returned (.tuple #[va 0 0 0 ⟨#[]⟩, .int .i64 1]) ∧ Below w.heap.size w w' := by
  obtain ⟨w0, hw0, bxa, bxb, bxr, Bw⟩ := three_boxes w ⟨ak, an, am, ab⟩ ⟨bk, bn, bm, bb⟩
  dsimp only at hw0
  go_enter Tryz.func17, Tryz.ntmps17
  go_wp2_with fail
  rw [← hw0]
  clear hw0
  refine wp_scope_on 9 ?_
  have B0 : Below w0.heap.size w0 w0 := Below.refl _ _
  obtain ⟨a0, a1, a2, a3⟩ := (bxa.later B0).at4
  obtain ⟨b0, b1, b2, b3⟩ := (bxb.later B0).at4
  dsimp only at a0 a1 a2 a3 b0 b1 b2 b3
  go_wp2_with fail
  refine (Ra _ (below_trans Bw B0)).mono ?_
  rintro e w1 ⟨rfl, c⟩
  have B1 := below_trans B0 c
  clear a0 a1 a2 a3 b0 b1 b2 b3 c
  obtain ⟨a0, a1, a2, a3⟩ := (bxa.later B1).at4
  obtain ⟨b0, b1, b2, b3⟩ := (bxb.later B1).at4
  dsimp only at a0 a1 a2 a3 b0 b1 b2 b3
  have br := bxr.later B1
  obtain ⟨r0, r1, r2, r3⟩ := br.at4
  have f0 := br.free 0
  have f1 := br.free 1
  have f2 := br.free 2
  have f3 := br.free 3
  have lt1 := br.lt
  have Be := below_trans Bw B1
  go_wp2
  refine onward_ret (by intro l h; cases h) ?_
  refine bodyPost_ret_by (v := .tuple #[va 0 0 0 ⟨#[]⟩, .int .i64 1]) ?_ rfl ⟨rfl, ?_⟩
  · simp [results, Tryz.results17, go_sem, r0, r1, r2, r3, nul]
  · exact (((Be.setCell (p := ⟨w.heap.size + 1 + 1, 0, none⟩) (by simp; omega) _).setCell (p := ⟨w.heap.size + 1 + 1, 1, none⟩) (by simp; omega) _).setCell (p := ⟨w.heap.size + 1 + 1, 2, none⟩) (by simp; omega) _).setCell (p := ⟨w.heap.size + 1 + 1, 3, none⟩) (by simp; omega) _

set_option maxRecDepth 20000 in
set_option maxHeartbeats 4000000 in
theorem qbin_nullA (op : Int) (bk : Int) (an am bn bm : Int) (ab bb : List UInt8) (w : World) (o1 : ¬ op < 6) (o2 : ¬ op > 18) (e17 : (op != 17) = true) (e18 : (op != 18) = true) (Ra : Tells 35 #[va 0 an am ⟨ab.toArray⟩] w (.bool true)) (Rb : Tells 35 #[va bk bn bm ⟨bb.toArray⟩] w (.bool true)) :
    Calls Tryz.prog 17 #[.int .i64 op, va 0 an am ⟨ab.toArray⟩, va bk bn bm ⟨bb.toArray⟩] w fun e w' => e = .returned (.tuple #[va 0 0 0 ⟨#[]⟩, .int .i64 0]) ∧ Below w.heap.size w w' := by
  obtain ⟨w0, hw0, bxa, bxb, bxr, Bw⟩ := three_boxes w ⟨0, an, am, ab⟩ ⟨bk, bn, bm, bb⟩
  dsimp only at hw0
  go_enter Tryz.func17, Tryz.ntmps17
  go_wp2_with fail
  rw [← hw0]
  clear hw0
  refine wp_scope_on 9 ?_
  have B0 : Below w0.heap.size w0 w0 := Below.refl _ _
  obtain ⟨a0, a1, a2, a3⟩ := (bxa.later B0).at4
  obtain ⟨b0, b1, b2, b3⟩ := (bxb.later B0).at4
  dsimp only at a0 a1 a2 a3 b0 b1 b2 b3
  go_wp2_with fail
  refine (Ra _ (below_trans Bw B0)).mono ?_
  rintro e w1 ⟨rfl, c⟩
  have B1 := below_trans B0 c
  clear a0 a1 a2 a3 b0 b1 b2 b3 c
  obtain ⟨a0, a1, a2, a3⟩ := (bxa.later B1).at4
  obtain ⟨b0, b1, b2, b3⟩ := (bxb.later B1).at4
  dsimp only at a0 a1 a2 a3 b0 b1 b2 b3
  go_wp2_with fail
  refine (Rb _ (below_trans Bw B1)).mono ?_
  rintro e w2 ⟨rfl, c⟩
  have B2 := below_trans B1 c
  clear a0 a1 a2 a3 b0 b1 b2 b3 c
  obtain ⟨a0, a1, a2, a3⟩ := (bxa.later B2).at4
  obtain ⟨b0, b1, b2, b3⟩ := (bxb.later B2).at4
  dsimp only at a0 a1 a2 a3 b0 b1 b2 b3
  go_wp2_with fail
  refine goto_on (n := 8) rfl ?_
  have br := bxr.later B2
  obtain ⟨r0, r1, r2, r3⟩ := br.at4
  have f0 := br.free 0
  have f1 := br.free 1
  have f2 := br.free 2
  have f3 := br.free 3
  have lt1 := br.lt
  have Be := below_trans Bw B2
  go_wp2
  refine onward_ret (by intro l h; cases h) ?_
  refine bodyPost_ret_by (v := .tuple #[va 0 0 0 ⟨#[]⟩, .int .i64 0]) ?_ rfl ⟨rfl, ?_⟩
  · simp [results, Tryz.results17, go_sem, r0, r1, r2, r3, nul]
  · exact (((Be.setCell (p := ⟨w.heap.size + 1 + 1, 0, none⟩) (by simp; omega) _).setCell (p := ⟨w.heap.size + 1 + 1, 1, none⟩) (by simp; omega) _).setCell (p := ⟨w.heap.size + 1 + 1, 2, none⟩) (by simp; omega) _).setCell (p := ⟨w.heap.size + 1 + 1, 3, none⟩) (by simp; omega) _

set_option maxRecDepth 20000 in
set_option maxHeartbeats 4000000 in
theorem qbin_n21 (op : Int) (an am bn bm : Int) (ab bb : List UInt8) (w : World) (rk rn rm re : Int) (rb : ByteArray) (o1 : ¬ op < 6) (o2 : ¬ op > 18) (e17 : (op != 17) = true) (e18 : (op != 18) = true) (Ra : Tells 35 #[va 2 an am ⟨ab.toArray⟩] w (.bool true)) (Rb : Tells 35 #[va 1 bn bm ⟨bb.toArray⟩] w (.bool true)) (Na : Tells 52 #[va 2 an am ⟨ab.toArray⟩] w (.bool true)) (Nb : Tells 52 #[va 1 bn bm ⟨bb.toArray⟩] w (.bool true))  (F : ∀ W, Below w.heap.size w W → Calls Tryz.prog 53 #[.int .i64 op, dv an am, dv bn bm] W fun e w' => e = .returned (.tuple #[va rk rn rm rb, .int .i64 re]) ∧ Grew W w') :
    Calls Tryz.prog 17 #[.int .i64 op, va 2 an am ⟨ab.toArray⟩, va 1 bn bm ⟨bb.toArray⟩] w fun e w' => e = .returned (.tuple #[va rk rn rm rb, .int .i64 re]) ∧ Below w.heap.size w w' := by
  obtain ⟨w0, hw0, bxa, bxb, bxr, Bw⟩ := three_boxes w ⟨2, an, am, ab⟩ ⟨1, bn, bm, bb⟩
  dsimp only at hw0
  go_enter Tryz.func17, Tryz.ntmps17
  go_wp2_with fail
  rw [← hw0]
  clear hw0
  refine wp_scope_on 9 ?_
  have B0 : Below w0.heap.size w0 w0 := Below.refl _ _
  obtain ⟨a0, a1, a2, a3⟩ := (bxa.later B0).at4
  obtain ⟨b0, b1, b2, b3⟩ := (bxb.later B0).at4
  dsimp only at a0 a1 a2 a3 b0 b1 b2 b3
  go_wp2_with fail
  refine (Ra _ (below_trans Bw B0)).mono ?_
  rintro e w1 ⟨rfl, c⟩
  have B1 := below_trans B0 c
  clear a0 a1 a2 a3 b0 b1 b2 b3 c
  obtain ⟨a0, a1, a2, a3⟩ := (bxa.later B1).at4
  obtain ⟨b0, b1, b2, b3⟩ := (bxb.later B1).at4
  dsimp only at a0 a1 a2 a3 b0 b1 b2 b3
  go_wp2_with fail
  refine (Rb _ (below_trans Bw B1)).mono ?_
  rintro e w2 ⟨rfl, c⟩
  have B2 := below_trans B1 c
  clear a0 a1 a2 a3 b0 b1 b2 b3 c
  obtain ⟨a0, a1, a2, a3⟩ := (bxa.later B2).at4
  obtain ⟨b0, b1, b2, b3⟩ := (bxb.later B2).at4
  dsimp only at a0 a1 a2 a3 b0 b1 b2 b3
  go_wp2_with fail
  refine goto_on (n := 8) rfl ?_
  go_wp2_with fail
  refine goto_on (n := 7) rfl ?_
  go_wp2_with fail
  refine goto_on (n := 6) rfl ?_
  go_wp2_with fail
  refine (Na _ (below_trans Bw B2)).mono ?_
  rintro e w3 ⟨rfl, c⟩
  have B3 := below_trans B2 c
  clear a0 a1 a2 a3 b0 b1 b2 b3 c
  obtain ⟨a0, a1, a2, a3⟩ := (bxa.later B3).at4
  obtain ⟨b0, b1, b2, b3⟩ := (bxb.later B3).at4
  dsimp only at a0 a1 a2 a3 b0 b1 b2 b3
  go_wp2_with fail
  refine (Nb _ (below_trans Bw B3)).mono ?_
  rintro e w4 ⟨rfl, c⟩
  have B4 := below_trans B3 c
  clear a0 a1 a2 a3 b0 b1 b2 b3 c
  obtain ⟨a0, a1, a2, a3⟩ := (bxa.later B4).at4
  obtain ⟨b0, b1, b2, b3⟩ := (bxb.later B4).at4
  dsimp only at a0 a1 a2 a3 b0 b1 b2 b3
  simp only [Nat.zero_add] at a1 a2 a3 b1 b2 b3
  have lta := (bxa.later B4).lt
  have ltb := (bxb.later B4).lt
  have U := fun k n m b W => qunits_any k n m b W
  have F4 : ∀ W, Grew w4 W → Calls Tryz.prog 53 #[.int .i64 op, dv an am, dv bn bm] W fun e w' => e = .returned (.tuple #[va rk rn rm rb, .int .i64 re]) ∧ Grew W w' := fun W h => F W (below_trans (below_trans Bw B4) h.below)
  have br := bxr.later B4
  obtain ⟨r0, r1, r2, r3⟩ := br.at4
  have f0 := br.free 0
  have f1 := br.free 1
  have f2 := br.free 2
  have f3 := br.free 3
  have lt1 := br.lt
  have Be := below_trans Bw B4
  dsimp only [nul] at r0 r1 r2 r3
  simp only [Nat.zero_add] at r1 r2 r3
  clear Ra Rb Na Nb F bxa bxb bxr br B0 B1 B2 B3 B4 Bw
  go_wp2_with fail
  go_region_held2 (fun W => W.cell? ⟨w.heap.size, 0, none⟩ = some (.int .i64 2) ∧ W.cell? ⟨w.heap.size, 1, none⟩ = some (.int .i64 an) ∧ W.cell? ⟨w.heap.size, 2, none⟩ = some (.int .i64 am) ∧ W.cell? ⟨w.heap.size, 3, none⟩ = some (.string ⟨ab.toArray⟩) ∧
      W.cell? ⟨w.heap.size + 1, 0, none⟩ = some (.int .i64 1) ∧ W.cell? ⟨w.heap.size + 1, 1, none⟩ = some (.int .i64 bn) ∧ W.cell? ⟨w.heap.size + 1, 2, none⟩ = some (.int .i64 bm) ∧ W.cell? ⟨w.heap.size + 1, 3, none⟩ = some (.string ⟨bb.toArray⟩)) (simp (maxDischargeDepth := 12) [go_sem, a0, a1, a2, a3, b0, b1, b2, b3, lta, ltb]) (first
    | (go_at_call 54; refine (U _ _ _ _ _).mono ?_; rintro e w1 ⟨rfl, os1, n1, rfl⟩)
    | (go_at_call 53; refine (F4 _ (by repeat (first | assumption | exact Grew.refl _ | apply Grew.drew | apply Grew.drewN | apply Grew.alloc | apply Grew.more))).mono ?_; rintro e w2 ⟨rfl, os2, n2, rfl⟩))
  go_wp2
  refine onward_ret (by intro l h; cases h) ?_
  refine bodyPost_ret_by (v := .tuple #[va rk rn rm rb, .int .i64 re]) ?_ rfl ⟨rfl, ?_⟩
  · simp [results, Tryz.results17, go_sem, r0, r1, r2, r3, lt1]
  · refine below_trans (Be.setCell (p := ⟨w.heap.size + 1 + 1, 0, none⟩) (by simp; omega) (.int .i64 rk) |>.setCell (p := ⟨w.heap.size + 1 + 1, 1, none⟩) (by simp; omega) (.int .i64 rn) |>.setCell (p := ⟨w.heap.size + 1 + 1, 2, none⟩) (by simp; omega) (.int .i64 rm) |>.setCell (p := ⟨w.heap.size + 1 + 1, 3, none⟩) (by simp; omega) (.string rb)) (Grew.below ?_)
    repeat (first | assumption | exact Grew.refl _ | apply Grew.drew | apply Grew.drewN | apply Grew.alloc | apply Grew.more)

set_option maxRecDepth 20000 in
set_option maxHeartbeats 4000000 in
theorem qbin_bools (op : Int) (an am bn bm : Int) (ab bb : List UInt8) (w : World) (rk rn rm re : Int) (rb : ByteArray) (c : Int) (o1 : ¬ op < 6) (o2 : ¬ op > 18) (e17 : (op != 17) = true) (e18 : (op != 18) = true) (Ra : Tells 35 #[va 4 an am ⟨ab.toArray⟩] w (.bool true)) (Rb : Tells 35 #[va 4 bn bm ⟨bb.toArray⟩] w (.bool true)) (Na : Tells 52 #[va 4 an am ⟨ab.toArray⟩] w (.bool false)) (D : Tells 58 #[va 4 an am ⟨ab.toArray⟩, va 4 bn bm ⟨bb.toArray⟩] w (.int .i64 c)) (F : Tells 57 #[.int .i64 op, .int .i64 c] w (.tuple #[va rk rn rm rb, .int .i64 re])) :
    Calls Tryz.prog 17 #[.int .i64 op, va 4 an am ⟨ab.toArray⟩, va 4 bn bm ⟨bb.toArray⟩] w fun e w' => e = .returned (.tuple #[va rk rn rm rb, .int .i64 re]) ∧ Below w.heap.size w w' := by
  obtain ⟨w0, hw0, bxa, bxb, bxr, Bw⟩ := three_boxes w ⟨4, an, am, ab⟩ ⟨4, bn, bm, bb⟩
  dsimp only at hw0
  go_enter Tryz.func17, Tryz.ntmps17
  go_wp2_with fail
  rw [← hw0]
  clear hw0
  refine wp_scope_on 9 ?_
  have B0 : Below w0.heap.size w0 w0 := Below.refl _ _
  obtain ⟨a0, a1, a2, a3⟩ := (bxa.later B0).at4
  obtain ⟨b0, b1, b2, b3⟩ := (bxb.later B0).at4
  dsimp only at a0 a1 a2 a3 b0 b1 b2 b3
  go_wp2_with fail
  refine (Ra _ (below_trans Bw B0)).mono ?_
  rintro e w1 ⟨rfl, c⟩
  have B1 := below_trans B0 c
  clear a0 a1 a2 a3 b0 b1 b2 b3 c
  obtain ⟨a0, a1, a2, a3⟩ := (bxa.later B1).at4
  obtain ⟨b0, b1, b2, b3⟩ := (bxb.later B1).at4
  dsimp only at a0 a1 a2 a3 b0 b1 b2 b3
  go_wp2_with fail
  refine (Rb _ (below_trans Bw B1)).mono ?_
  rintro e w2 ⟨rfl, c⟩
  have B2 := below_trans B1 c
  clear a0 a1 a2 a3 b0 b1 b2 b3 c
  obtain ⟨a0, a1, a2, a3⟩ := (bxa.later B2).at4
  obtain ⟨b0, b1, b2, b3⟩ := (bxb.later B2).at4
  dsimp only at a0 a1 a2 a3 b0 b1 b2 b3
  go_wp2_with fail
  refine goto_on (n := 8) rfl ?_
  go_wp2_with fail
  refine goto_on (n := 7) rfl ?_
  go_wp2_with fail
  refine goto_on (n := 6) rfl ?_
  go_wp2_with fail
  refine (Na _ (below_trans Bw B2)).mono ?_
  rintro e w3 ⟨rfl, c⟩
  have B3 := below_trans B2 c
  clear a0 a1 a2 a3 b0 b1 b2 b3 c
  obtain ⟨a0, a1, a2, a3⟩ := (bxa.later B3).at4
  obtain ⟨b0, b1, b2, b3⟩ := (bxb.later B3).at4
  dsimp only at a0 a1 a2 a3 b0 b1 b2 b3
  go_wp2_with fail
  refine goto_on (n := 5) rfl ?_
  go_wp2_with fail
  refine goto_on (n := 4) rfl ?_
  go_wp2_with fail
  refine goto_on (n := 3) rfl ?_
  go_wp2_with fail
  refine (D _ (below_trans Bw B3)).mono ?_
  rintro e w4 ⟨rfl, c⟩
  have B4 := below_trans B3 c
  clear a0 a1 a2 a3 b0 b1 b2 b3 c
  obtain ⟨a0, a1, a2, a3⟩ := (bxa.later B4).at4
  obtain ⟨b0, b1, b2, b3⟩ := (bxb.later B4).at4
  dsimp only at a0 a1 a2 a3 b0 b1 b2 b3
  go_wp2_with fail
  refine (F _ (below_trans Bw B4)).mono ?_
  rintro e w5 ⟨rfl, c⟩
  have B5 := below_trans B4 c
  clear a0 a1 a2 a3 b0 b1 b2 b3 c
  obtain ⟨a0, a1, a2, a3⟩ := (bxa.later B5).at4
  obtain ⟨b0, b1, b2, b3⟩ := (bxb.later B5).at4
  dsimp only at a0 a1 a2 a3 b0 b1 b2 b3
  have br := bxr.later B5
  obtain ⟨r0, r1, r2, r3⟩ := br.at4
  have f0 := br.free 0
  have f1 := br.free 1
  have f2 := br.free 2
  have f3 := br.free 3
  have lt1 := br.lt
  have Be := below_trans Bw B5
  go_wp2
  refine onward_ret (by intro l h; cases h) ?_
  refine bodyPost_ret_by (v := .tuple #[va rk rn rm rb, .int .i64 re]) ?_ rfl ⟨rfl, ?_⟩
  · simp [results, Tryz.results17, go_sem, r0, r1, r2, r3, nul]
  · exact (((Be.setCell (p := ⟨w.heap.size + 1 + 1, 0, none⟩) (by simp; omega) _).setCell (p := ⟨w.heap.size + 1 + 1, 1, none⟩) (by simp; omega) _).setCell (p := ⟨w.heap.size + 1 + 1, 2, none⟩) (by simp; omega) _).setCell (p := ⟨w.heap.size + 1 + 1, 3, none⟩) (by simp; omega) _

set_option maxRecDepth 20000 in
set_option maxHeartbeats 4000000 in
theorem qbin_o3 (op : Int) (bk : Int) (an am bn bm : Int) (ab bb : List UInt8) (w : World) (o1 : ¬ op < 6) (o2 : ¬ op > 18) (e17 : (op != 17) = true) (e18 : (op != 18) = true) (eb : (bk != 0) = true) (eb1 : (bk != 3) = true) (Ra : Tells 35 #[va 3 an am ⟨ab.toArray⟩] w (.bool true)) (Rb : Tells 35 #[va bk bn bm ⟨bb.toArray⟩] w (.bool true)) (Na : Tells 52 #[va 3 an am ⟨ab.toArray⟩] w (.bool false)) :
    Calls Tryz.prog 17 #[.int .i64 op, va 3 an am ⟨ab.toArray⟩, va bk bn bm ⟨bb.toArray⟩] w fun e w' => e = .returned (.tuple #[va 0 0 0 ⟨#[]⟩, .int .i64 31]) ∧ Below w.heap.size w w' := by
  obtain ⟨w0, hw0, bxa, bxb, bxr, Bw⟩ := three_boxes w ⟨3, an, am, ab⟩ ⟨bk, bn, bm, bb⟩
  dsimp only at hw0
  go_enter Tryz.func17, Tryz.ntmps17
  go_wp2_with fail
  rw [← hw0]
  clear hw0
  refine wp_scope_on 9 ?_
  have B0 : Below w0.heap.size w0 w0 := Below.refl _ _
  obtain ⟨a0, a1, a2, a3⟩ := (bxa.later B0).at4
  obtain ⟨b0, b1, b2, b3⟩ := (bxb.later B0).at4
  dsimp only at a0 a1 a2 a3 b0 b1 b2 b3
  go_wp2_with fail
  refine (Ra _ (below_trans Bw B0)).mono ?_
  rintro e w1 ⟨rfl, c⟩
  have B1 := below_trans B0 c
  clear a0 a1 a2 a3 b0 b1 b2 b3 c
  obtain ⟨a0, a1, a2, a3⟩ := (bxa.later B1).at4
  obtain ⟨b0, b1, b2, b3⟩ := (bxb.later B1).at4
  dsimp only at a0 a1 a2 a3 b0 b1 b2 b3
  go_wp2_with fail
  refine (Rb _ (below_trans Bw B1)).mono ?_
  rintro e w2 ⟨rfl, c⟩
  have B2 := below_trans B1 c
  clear a0 a1 a2 a3 b0 b1 b2 b3 c
  obtain ⟨a0, a1, a2, a3⟩ := (bxa.later B2).at4
  obtain ⟨b0, b1, b2, b3⟩ := (bxb.later B2).at4
  dsimp only at a0 a1 a2 a3 b0 b1 b2 b3
  go_wp2_with fail
  refine goto_on (n := 8) rfl ?_
  go_wp2_with fail
  refine goto_on (n := 7) rfl ?_
  go_wp2_with fail
  refine goto_on (n := 6) rfl ?_
  go_wp2_with fail
  refine (Na _ (below_trans Bw B2)).mono ?_
  rintro e w3 ⟨rfl, c⟩
  have B3 := below_trans B2 c
  clear a0 a1 a2 a3 b0 b1 b2 b3 c
  obtain ⟨a0, a1, a2, a3⟩ := (bxa.later B3).at4
  obtain ⟨b0, b1, b2, b3⟩ := (bxb.later B3).at4
  dsimp only at a0 a1 a2 a3 b0 b1 b2 b3
  go_wp2_with fail
  refine goto_on (n := 5) rfl ?_
  go_wp2_with fail
  refine goto_on (n := 4) rfl ?_
  go_wp2_with fail
  refine goto_on (n := 3) rfl ?_
  go_wp2_with fail
  refine goto_on (n := 2) rfl ?_
  have br := bxr.later B3
  obtain ⟨r0, r1, r2, r3⟩ := br.at4
  have f0 := br.free 0
  have f1 := br.free 1
  have f2 := br.free 2
  have f3 := br.free 3
  have lt1 := br.lt
  have Be := below_trans Bw B3
  go_wp2
  refine onward_ret (by intro l h; cases h) ?_
  refine bodyPost_ret_by (v := .tuple #[va 0 0 0 ⟨#[]⟩, .int .i64 31]) ?_ rfl ⟨rfl, ?_⟩
  · simp [results, Tryz.results17, go_sem, r0, r1, r2, r3, nul]
  · exact (((Be.setCell (p := ⟨w.heap.size + 1 + 1, 0, none⟩) (by simp; omega) _).setCell (p := ⟨w.heap.size + 1 + 1, 1, none⟩) (by simp; omega) _).setCell (p := ⟨w.heap.size + 1 + 1, 2, none⟩) (by simp; omega) _).setCell (p := ⟨w.heap.size + 1 + 1, 3, none⟩) (by simp; omega) _
end Go.Proofs.YtnpdecbgakgbgaaGreatDoor

namespace Go.Proofs.YtnpdecbgakgbgaaGreatDoor
open Go.RowKit Go.Shelf
attribute [local go_sem] cell?_more frozen?_more setCell_more more_lt more_more more_drew more_drewN setCell_drewN alloc_drewN


set_option maxRecDepth 20000 in
set_option maxHeartbeats 4000000 in
theorem qbin_badB (op : Int) (ak : Int) (bk : Int) (an am bn bm : Int) (ab bb : List UInt8) (w : World) (o1 : ¬ op < 6) (o2 : ¬ op > 18) (Ra : Tells 35 #[va ak an am ⟨ab.toArray⟩] w (.bool true)) (Rb : Tells 35 #[va bk bn bm ⟨bb.toArray⟩] w (.bool false)) :
    Calls Tryz.prog 17 #[.int .i64 op, va ak an am ⟨ab.toArray⟩, va bk bn bm ⟨bb.toArray⟩] w fun e w' => e = .returned (.tuple #[va 0 0 0 ⟨#[]⟩, .int .i64 1]) ∧ Below w.heap.size w w' := by
  obtain ⟨w0, hw0, bxa, bxb, bxr, Bw⟩ := three_boxes w ⟨ak, an, am, ab⟩ ⟨bk, bn, bm, bb⟩
  dsimp only at hw0
  go_enter Tryz.func17, Tryz.ntmps17
  go_wp2_with fail
  rw [← hw0]
  clear hw0
  refine wp_scope_on 9 ?_
  have B0 : Below w0.heap.size w0 w0 := Below.refl _ _
  obtain ⟨a0, a1, a2, a3⟩ := (bxa.later B0).at4
  obtain ⟨b0, b1, b2, b3⟩ := (bxb.later B0).at4
  dsimp only at a0 a1 a2 a3 b0 b1 b2 b3
  go_wp2_with fail
  refine (Ra _ (below_trans Bw B0)).mono ?_
  rintro e w1 ⟨rfl, c⟩
  have B1 := below_trans B0 c
  clear a0 a1 a2 a3 b0 b1 b2 b3 c
  obtain ⟨a0, a1, a2, a3⟩ := (bxa.later B1).at4
  obtain ⟨b0, b1, b2, b3⟩ := (bxb.later B1).at4
  dsimp only at a0 a1 a2 a3 b0 b1 b2 b3
  go_wp2_with fail
  refine (Rb _ (below_trans Bw B1)).mono ?_
  rintro e w2 ⟨rfl, c⟩
  have B2 := below_trans B1 c
  clear a0 a1 a2 a3 b0 b1 b2 b3 c
  obtain ⟨a0, a1, a2, a3⟩ := (bxa.later B2).at4
  obtain ⟨b0, b1, b2, b3⟩ := (bxb.later B2).at4
  dsimp only at a0 a1 a2 a3 b0 b1 b2 b3
  have br := bxr.later B2
  obtain ⟨r0, r1, r2, r3⟩ := br.at4
  have f0 := br.free 0
  have f1 := br.free 1
  have f2 := br.free 2
  have f3 := br.free 3
  have lt1 := br.lt
  have Be := below_trans Bw B2
  go_wp2
  refine onward_ret (by intro l h; cases h) ?_
  refine bodyPost_ret_by (v := .tuple #[va 0 0 0 ⟨#[]⟩, .int .i64 1]) ?_ rfl ⟨rfl, ?_⟩
  · simp [results, Tryz.results17, go_sem, r0, r1, r2, r3, nul]
  · exact (((Be.setCell (p := ⟨w.heap.size + 1 + 1, 0, none⟩) (by simp; omega) _).setCell (p := ⟨w.heap.size + 1 + 1, 1, none⟩) (by simp; omega) _).setCell (p := ⟨w.heap.size + 1 + 1, 2, none⟩) (by simp; omega) _).setCell (p := ⟨w.heap.size + 1 + 1, 3, none⟩) (by simp; omega) _

set_option maxRecDepth 20000 in
set_option maxHeartbeats 4000000 in
theorem qbin_nullB (op : Int) (ak : Int) (an am bn bm : Int) (ab bb : List UInt8) (w : World) (o1 : ¬ op < 6) (o2 : ¬ op > 18) (e17 : (op != 17) = true) (e18 : (op != 18) = true) (ea : (ak != 0) = true) (Ra : Tells 35 #[va ak an am ⟨ab.toArray⟩] w (.bool true)) (Rb : Tells 35 #[va 0 bn bm ⟨bb.toArray⟩] w (.bool true)) :
    Calls Tryz.prog 17 #[.int .i64 op, va ak an am ⟨ab.toArray⟩, va 0 bn bm ⟨bb.toArray⟩] w fun e w' => e = .returned (.tuple #[va 0 0 0 ⟨#[]⟩, .int .i64 0]) ∧ Below w.heap.size w w' := by
  obtain ⟨w0, hw0, bxa, bxb, bxr, Bw⟩ := three_boxes w ⟨ak, an, am, ab⟩ ⟨0, bn, bm, bb⟩
  dsimp only at hw0
  go_enter Tryz.func17, Tryz.ntmps17
  go_wp2_with fail
  rw [← hw0]
  clear hw0
  refine wp_scope_on 9 ?_
  have B0 : Below w0.heap.size w0 w0 := Below.refl _ _
  obtain ⟨a0, a1, a2, a3⟩ := (bxa.later B0).at4
  obtain ⟨b0, b1, b2, b3⟩ := (bxb.later B0).at4
  dsimp only at a0 a1 a2 a3 b0 b1 b2 b3
  go_wp2_with fail
  refine (Ra _ (below_trans Bw B0)).mono ?_
  rintro e w1 ⟨rfl, c⟩
  have B1 := below_trans B0 c
  clear a0 a1 a2 a3 b0 b1 b2 b3 c
  obtain ⟨a0, a1, a2, a3⟩ := (bxa.later B1).at4
  obtain ⟨b0, b1, b2, b3⟩ := (bxb.later B1).at4
  dsimp only at a0 a1 a2 a3 b0 b1 b2 b3
  go_wp2_with fail
  refine (Rb _ (below_trans Bw B1)).mono ?_
  rintro e w2 ⟨rfl, c⟩
  have B2 := below_trans B1 c
  clear a0 a1 a2 a3 b0 b1 b2 b3 c
  obtain ⟨a0, a1, a2, a3⟩ := (bxa.later B2).at4
  obtain ⟨b0, b1, b2, b3⟩ := (bxb.later B2).at4
  dsimp only at a0 a1 a2 a3 b0 b1 b2 b3
  go_wp2_with fail
  refine goto_on (n := 8) rfl ?_
  have br := bxr.later B2
  obtain ⟨r0, r1, r2, r3⟩ := br.at4
  have f0 := br.free 0
  have f1 := br.free 1
  have f2 := br.free 2
  have f3 := br.free 3
  have lt1 := br.lt
  have Be := below_trans Bw B2
  go_wp2
  refine onward_ret (by intro l h; cases h) ?_
  refine bodyPost_ret_by (v := .tuple #[va 0 0 0 ⟨#[]⟩, .int .i64 0]) ?_ rfl ⟨rfl, ?_⟩
  · simp [results, Tryz.results17, go_sem, r0, r1, r2, r3, nul]
  · exact (((Be.setCell (p := ⟨w.heap.size + 1 + 1, 0, none⟩) (by simp; omega) _).setCell (p := ⟨w.heap.size + 1 + 1, 1, none⟩) (by simp; omega) _).setCell (p := ⟨w.heap.size + 1 + 1, 2, none⟩) (by simp; omega) _).setCell (p := ⟨w.heap.size + 1 + 1, 3, none⟩) (by simp; omega) _

set_option maxRecDepth 20000 in
set_option maxHeartbeats 4000000 in
theorem qbin_n22 (op : Int) (an am bn bm : Int) (ab bb : List UInt8) (w : World) (rk rn rm re : Int) (rb : ByteArray) (o1 : ¬ op < 6) (o2 : ¬ op > 18) (e17 : (op != 17) = true) (e18 : (op != 18) = true) (Ra : Tells 35 #[va 2 an am ⟨ab.toArray⟩] w (.bool true)) (Rb : Tells 35 #[va 2 bn bm ⟨bb.toArray⟩] w (.bool true)) (Na : Tells 52 #[va 2 an am ⟨ab.toArray⟩] w (.bool true)) (Nb : Tells 52 #[va 2 bn bm ⟨bb.toArray⟩] w (.bool true))  (F : ∀ W, Below w.heap.size w W → Calls Tryz.prog 53 #[.int .i64 op, dv an am, dv bn bm] W fun e w' => e = .returned (.tuple #[va rk rn rm rb, .int .i64 re]) ∧ Grew W w') :
    Calls Tryz.prog 17 #[.int .i64 op, va 2 an am ⟨ab.toArray⟩, va 2 bn bm ⟨bb.toArray⟩] w fun e w' => e = .returned (.tuple #[va rk rn rm rb, .int .i64 re]) ∧ Below w.heap.size w w' := by
  obtain ⟨w0, hw0, bxa, bxb, bxr, Bw⟩ := three_boxes w ⟨2, an, am, ab⟩ ⟨2, bn, bm, bb⟩
  dsimp only at hw0
  go_enter Tryz.func17, Tryz.ntmps17
  go_wp2_with fail
  rw [← hw0]
  clear hw0
  refine wp_scope_on 9 ?_
  have B0 : Below w0.heap.size w0 w0 := Below.refl _ _
  obtain ⟨a0, a1, a2, a3⟩ := (bxa.later B0).at4
  obtain ⟨b0, b1, b2, b3⟩ := (bxb.later B0).at4
  dsimp only at a0 a1 a2 a3 b0 b1 b2 b3
  go_wp2_with fail
  refine (Ra _ (below_trans Bw B0)).mono ?_
  rintro e w1 ⟨rfl, c⟩
  have B1 := below_trans B0 c
  clear a0 a1 a2 a3 b0 b1 b2 b3 c
  obtain ⟨a0, a1, a2, a3⟩ := (bxa.later B1).at4
  obtain ⟨b0, b1, b2, b3⟩ := (bxb.later B1).at4
  dsimp only at a0 a1 a2 a3 b0 b1 b2 b3
  go_wp2_with fail
  refine (Rb _ (below_trans Bw B1)).mono ?_
  rintro e w2 ⟨rfl, c⟩
  have B2 := below_trans B1 c
  clear a0 a1 a2 a3 b0 b1 b2 b3 c
  obtain ⟨a0, a1, a2, a3⟩ := (bxa.later B2).at4
  obtain ⟨b0, b1, b2, b3⟩ := (bxb.later B2).at4
  dsimp only at a0 a1 a2 a3 b0 b1 b2 b3
  go_wp2_with fail
  refine goto_on (n := 8) rfl ?_
  go_wp2_with fail
  refine goto_on (n := 7) rfl ?_
  go_wp2_with fail
  refine goto_on (n := 6) rfl ?_
  go_wp2_with fail
  refine (Na _ (below_trans Bw B2)).mono ?_
  rintro e w3 ⟨rfl, c⟩
  have B3 := below_trans B2 c
  clear a0 a1 a2 a3 b0 b1 b2 b3 c
  obtain ⟨a0, a1, a2, a3⟩ := (bxa.later B3).at4
  obtain ⟨b0, b1, b2, b3⟩ := (bxb.later B3).at4
  dsimp only at a0 a1 a2 a3 b0 b1 b2 b3
  go_wp2_with fail
  refine (Nb _ (below_trans Bw B3)).mono ?_
  rintro e w4 ⟨rfl, c⟩
  have B4 := below_trans B3 c
  clear a0 a1 a2 a3 b0 b1 b2 b3 c
  obtain ⟨a0, a1, a2, a3⟩ := (bxa.later B4).at4
  obtain ⟨b0, b1, b2, b3⟩ := (bxb.later B4).at4
  dsimp only at a0 a1 a2 a3 b0 b1 b2 b3
  simp only [Nat.zero_add] at a1 a2 a3 b1 b2 b3
  have lta := (bxa.later B4).lt
  have ltb := (bxb.later B4).lt
  have U := fun k n m b W => qunits_any k n m b W
  have F4 : ∀ W, Grew w4 W → Calls Tryz.prog 53 #[.int .i64 op, dv an am, dv bn bm] W fun e w' => e = .returned (.tuple #[va rk rn rm rb, .int .i64 re]) ∧ Grew W w' := fun W h => F W (below_trans (below_trans Bw B4) h.below)
  have br := bxr.later B4
  obtain ⟨r0, r1, r2, r3⟩ := br.at4
  have f0 := br.free 0
  have f1 := br.free 1
  have f2 := br.free 2
  have f3 := br.free 3
  have lt1 := br.lt
  have Be := below_trans Bw B4
  dsimp only [nul] at r0 r1 r2 r3
  simp only [Nat.zero_add] at r1 r2 r3
  clear Ra Rb Na Nb F bxa bxb bxr br B0 B1 B2 B3 B4 Bw
  go_wp2_with fail
  go_region_held2 (fun W => W.cell? ⟨w.heap.size, 0, none⟩ = some (.int .i64 2) ∧ W.cell? ⟨w.heap.size, 1, none⟩ = some (.int .i64 an) ∧ W.cell? ⟨w.heap.size, 2, none⟩ = some (.int .i64 am) ∧ W.cell? ⟨w.heap.size, 3, none⟩ = some (.string ⟨ab.toArray⟩) ∧
      W.cell? ⟨w.heap.size + 1, 0, none⟩ = some (.int .i64 2) ∧ W.cell? ⟨w.heap.size + 1, 1, none⟩ = some (.int .i64 bn) ∧ W.cell? ⟨w.heap.size + 1, 2, none⟩ = some (.int .i64 bm) ∧ W.cell? ⟨w.heap.size + 1, 3, none⟩ = some (.string ⟨bb.toArray⟩)) (simp (maxDischargeDepth := 12) [go_sem, a0, a1, a2, a3, b0, b1, b2, b3, lta, ltb]) (first
    | (go_at_call 54; refine (U _ _ _ _ _).mono ?_; rintro e w1 ⟨rfl, os1, n1, rfl⟩)
    | (go_at_call 53; refine (F4 _ (by repeat (first | assumption | exact Grew.refl _ | apply Grew.drew | apply Grew.drewN | apply Grew.alloc | apply Grew.more))).mono ?_; rintro e w2 ⟨rfl, os2, n2, rfl⟩))
  go_wp2
  refine onward_ret (by intro l h; cases h) ?_
  refine bodyPost_ret_by (v := .tuple #[va rk rn rm rb, .int .i64 re]) ?_ rfl ⟨rfl, ?_⟩
  · simp [results, Tryz.results17, go_sem, r0, r1, r2, r3, lt1]
  · refine below_trans (Be.setCell (p := ⟨w.heap.size + 1 + 1, 0, none⟩) (by simp; omega) (.int .i64 rk) |>.setCell (p := ⟨w.heap.size + 1 + 1, 1, none⟩) (by simp; omega) (.int .i64 rn) |>.setCell (p := ⟨w.heap.size + 1 + 1, 2, none⟩) (by simp; omega) (.int .i64 rm) |>.setCell (p := ⟨w.heap.size + 1 + 1, 3, none⟩) (by simp; omega) (.string rb)) (Grew.below ?_)
    repeat (first | assumption | exact Grew.refl _ | apply Grew.drew | apply Grew.drewN | apply Grew.alloc | apply Grew.more)

set_option maxRecDepth 20000 in
set_option maxHeartbeats 4000000 in
theorem qbin_o1 (op : Int) (bk : Int) (an am bn bm : Int) (ab bb : List UInt8) (w : World) (o1 : ¬ op < 6) (o2 : ¬ op > 18) (e17 : (op != 17) = true) (e18 : (op != 18) = true) (eb : (bk != 0) = true) (eb1 : (bk != 1) = true) (Ra : Tells 35 #[va 1 an am ⟨ab.toArray⟩] w (.bool true)) (Rb : Tells 35 #[va bk bn bm ⟨bb.toArray⟩] w (.bool true)) (Na : Tells 52 #[va 1 an am ⟨ab.toArray⟩] w (.bool true)) (Nb : Tells 52 #[va bk bn bm ⟨bb.toArray⟩] w (.bool false)) :
    Calls Tryz.prog 17 #[.int .i64 op, va 1 an am ⟨ab.toArray⟩, va bk bn bm ⟨bb.toArray⟩] w fun e w' => e = .returned (.tuple #[va 0 0 0 ⟨#[]⟩, .int .i64 31]) ∧ Below w.heap.size w w' := by
  obtain ⟨w0, hw0, bxa, bxb, bxr, Bw⟩ := three_boxes w ⟨1, an, am, ab⟩ ⟨bk, bn, bm, bb⟩
  dsimp only at hw0
  go_enter Tryz.func17, Tryz.ntmps17
  go_wp2_with fail
  rw [← hw0]
  clear hw0
  refine wp_scope_on 9 ?_
  have B0 : Below w0.heap.size w0 w0 := Below.refl _ _
  obtain ⟨a0, a1, a2, a3⟩ := (bxa.later B0).at4
  obtain ⟨b0, b1, b2, b3⟩ := (bxb.later B0).at4
  dsimp only at a0 a1 a2 a3 b0 b1 b2 b3
  go_wp2_with fail
  refine (Ra _ (below_trans Bw B0)).mono ?_
  rintro e w1 ⟨rfl, c⟩
  have B1 := below_trans B0 c
  clear a0 a1 a2 a3 b0 b1 b2 b3 c
  obtain ⟨a0, a1, a2, a3⟩ := (bxa.later B1).at4
  obtain ⟨b0, b1, b2, b3⟩ := (bxb.later B1).at4
  dsimp only at a0 a1 a2 a3 b0 b1 b2 b3
  go_wp2_with fail
  refine (Rb _ (below_trans Bw B1)).mono ?_
  rintro e w2 ⟨rfl, c⟩
  have B2 := below_trans B1 c
  clear a0 a1 a2 a3 b0 b1 b2 b3 c
  obtain ⟨a0, a1, a2, a3⟩ := (bxa.later B2).at4
  obtain ⟨b0, b1, b2, b3⟩ := (bxb.later B2).at4
  dsimp only at a0 a1 a2 a3 b0 b1 b2 b3
  go_wp2_with fail
  refine goto_on (n := 8) rfl ?_
  go_wp2_with fail
  refine goto_on (n := 7) rfl ?_
  go_wp2_with fail
  refine goto_on (n := 6) rfl ?_
  go_wp2_with fail
  refine (Na _ (below_trans Bw B2)).mono ?_
  rintro e w3 ⟨rfl, c⟩
  have B3 := below_trans B2 c
  clear a0 a1 a2 a3 b0 b1 b2 b3 c
  obtain ⟨a0, a1, a2, a3⟩ := (bxa.later B3).at4
  obtain ⟨b0, b1, b2, b3⟩ := (bxb.later B3).at4
  dsimp only at a0 a1 a2 a3 b0 b1 b2 b3
  go_wp2_with fail
  refine (Nb _ (below_trans Bw B3)).mono ?_
  rintro e w4 ⟨rfl, c⟩
  have B4 := below_trans B3 c
  clear a0 a1 a2 a3 b0 b1 b2 b3 c
  obtain ⟨a0, a1, a2, a3⟩ := (bxa.later B4).at4
  obtain ⟨b0, b1, b2, b3⟩ := (bxb.later B4).at4
  dsimp only at a0 a1 a2 a3 b0 b1 b2 b3
  go_wp2_with fail
  refine goto_on (n := 5) rfl ?_
  go_wp2_with fail
  refine goto_on (n := 4) rfl ?_
  go_wp2_with fail
  refine goto_on (n := 3) rfl ?_
  go_wp2_with fail
  refine goto_on (n := 2) rfl ?_
  have br := bxr.later B4
  obtain ⟨r0, r1, r2, r3⟩ := br.at4
  have f0 := br.free 0
  have f1 := br.free 1
  have f2 := br.free 2
  have f3 := br.free 3
  have lt1 := br.lt
  have Be := below_trans Bw B4
  go_wp2
  refine onward_ret (by intro l h; cases h) ?_
  refine bodyPost_ret_by (v := .tuple #[va 0 0 0 ⟨#[]⟩, .int .i64 31]) ?_ rfl ⟨rfl, ?_⟩
  · simp [results, Tryz.results17, go_sem, r0, r1, r2, r3, nul]
  · exact (((Be.setCell (p := ⟨w.heap.size + 1 + 1, 0, none⟩) (by simp; omega) _).setCell (p := ⟨w.heap.size + 1 + 1, 1, none⟩) (by simp; omega) _).setCell (p := ⟨w.heap.size + 1 + 1, 2, none⟩) (by simp; omega) _).setCell (p := ⟨w.heap.size + 1 + 1, 3, none⟩) (by simp; omega) _

set_option maxRecDepth 20000 in
set_option maxHeartbeats 4000000 in
theorem qbin_o4 (op : Int) (bk : Int) (an am bn bm : Int) (ab bb : List UInt8) (w : World) (o1 : ¬ op < 6) (o2 : ¬ op > 18) (e17 : (op != 17) = true) (e18 : (op != 18) = true) (eb : (bk != 0) = true) (eb1 : (bk != 4) = true) (Ra : Tells 35 #[va 4 an am ⟨ab.toArray⟩] w (.bool true)) (Rb : Tells 35 #[va bk bn bm ⟨bb.toArray⟩] w (.bool true)) (Na : Tells 52 #[va 4 an am ⟨ab.toArray⟩] w (.bool false)) :
    Calls Tryz.prog 17 #[.int .i64 op, va 4 an am ⟨ab.toArray⟩, va bk bn bm ⟨bb.toArray⟩] w fun e w' => e = .returned (.tuple #[va 0 0 0 ⟨#[]⟩, .int .i64 31]) ∧ Below w.heap.size w w' := by
  obtain ⟨w0, hw0, bxa, bxb, bxr, Bw⟩ := three_boxes w ⟨4, an, am, ab⟩ ⟨bk, bn, bm, bb⟩
  dsimp only at hw0
  go_enter Tryz.func17, Tryz.ntmps17
  go_wp2_with fail
  rw [← hw0]
  clear hw0
  refine wp_scope_on 9 ?_
  have B0 : Below w0.heap.size w0 w0 := Below.refl _ _
  obtain ⟨a0, a1, a2, a3⟩ := (bxa.later B0).at4
  obtain ⟨b0, b1, b2, b3⟩ := (bxb.later B0).at4
  dsimp only at a0 a1 a2 a3 b0 b1 b2 b3
  go_wp2_with fail
  refine (Ra _ (below_trans Bw B0)).mono ?_
  rintro e w1 ⟨rfl, c⟩
  have B1 := below_trans B0 c
  clear a0 a1 a2 a3 b0 b1 b2 b3 c
  obtain ⟨a0, a1, a2, a3⟩ := (bxa.later B1).at4
  obtain ⟨b0, b1, b2, b3⟩ := (bxb.later B1).at4
  dsimp only at a0 a1 a2 a3 b0 b1 b2 b3
  go_wp2_with fail
  refine (Rb _ (below_trans Bw B1)).mono ?_
  rintro e w2 ⟨rfl, c⟩
  have B2 := below_trans B1 c
  clear a0 a1 a2 a3 b0 b1 b2 b3 c
  obtain ⟨a0, a1, a2, a3⟩ := (bxa.later B2).at4
  obtain ⟨b0, b1, b2, b3⟩ := (bxb.later B2).at4
  dsimp only at a0 a1 a2 a3 b0 b1 b2 b3
  go_wp2_with fail
  refine goto_on (n := 8) rfl ?_
  go_wp2_with fail
  refine goto_on (n := 7) rfl ?_
  go_wp2_with fail
  refine goto_on (n := 6) rfl ?_
  go_wp2_with fail
  refine (Na _ (below_trans Bw B2)).mono ?_
  rintro e w3 ⟨rfl, c⟩
  have B3 := below_trans B2 c
  clear a0 a1 a2 a3 b0 b1 b2 b3 c
  obtain ⟨a0, a1, a2, a3⟩ := (bxa.later B3).at4
  obtain ⟨b0, b1, b2, b3⟩ := (bxb.later B3).at4
  dsimp only at a0 a1 a2 a3 b0 b1 b2 b3
  go_wp2_with fail
  refine goto_on (n := 5) rfl ?_
  go_wp2_with fail
  refine goto_on (n := 4) rfl ?_
  go_wp2_with fail
  refine goto_on (n := 3) rfl ?_
  go_wp2_with fail
  refine goto_on (n := 2) rfl ?_
  have br := bxr.later B3
  obtain ⟨r0, r1, r2, r3⟩ := br.at4
  have f0 := br.free 0
  have f1 := br.free 1
  have f2 := br.free 2
  have f3 := br.free 3
  have lt1 := br.lt
  have Be := below_trans Bw B3
  go_wp2
  refine onward_ret (by intro l h; cases h) ?_
  refine bodyPost_ret_by (v := .tuple #[va 0 0 0 ⟨#[]⟩, .int .i64 31]) ?_ rfl ⟨rfl, ?_⟩
  · simp [results, Tryz.results17, go_sem, r0, r1, r2, r3, nul]
  · exact (((Be.setCell (p := ⟨w.heap.size + 1 + 1, 0, none⟩) (by simp; omega) _).setCell (p := ⟨w.heap.size + 1 + 1, 1, none⟩) (by simp; omega) _).setCell (p := ⟨w.heap.size + 1 + 1, 2, none⟩) (by simp; omega) _).setCell (p := ⟨w.heap.size + 1 + 1, 3, none⟩) (by simp; omega) _
end Go.Proofs.YtnpdecbgakgbgaaGreatDoor

namespace Go.Proofs.YtnpdecbgakgbgaaGreatDoor
open Go.RowKit
attribute [local go_sem] cell?_more frozen?_more setCell_more more_lt more_more more_drew more_drewN setCell_drewN alloc_drewN

/-- What is answered of a number: itself, if that is an int. -/
abbrev ires (z : Int) : Value := .tuple #[.int .i64 (nz z), .int .i64 (nErr z)]

set_option maxHeartbeats 1000000 in
theorem addInt_any (a b : Int) (w : World) (a0 : -9223372036854775808 ≤ a) (a1 : a ≤ 9223372036854775807) (b0 : -9223372036854775808 ≤ b) (b1 : b ≤ 9223372036854775807) :
    Calls Tryz.prog 103 #[.int .i64 a, .int .i64 b] w fun e w' => e = .returned (ires (a + b)) ∧ Grew w w' := by
  have S := fun W => sum_any (decide (a < 0)) (decide (b < 0)) 0 a.natAbs 0 b.natAbs W (by omega) (by omega) (by omega) (by omega)
  rw [Nat.zero_mul, Nat.zero_add, Nat.zero_add, sval_of, sval_of] at S
  generalize a + b = z at *
  go_enter Tryz.func103, Tryz.ntmps103
  go_wp2_with fail
  refine (widened_any a _ a0 a1).mono ?_
  rintro e w1 ⟨rfl, os1, n1, rfl⟩
  go_wp2_with fail
  refine (widened_any b _ b0 b1).mono ?_
  rintro e w2 ⟨rfl, os2, n2, rfl⟩
  clear a0 a1 b0 b1
  go_wp2_with fail
  refine (S _).mono ?_
  rintro e w3 ⟨s, h, l, rfl, hv, hl, hh, os3, n3, rfl⟩
  have N := fun W => narrowed_any s h l W hl
  rw [hv] at N
  clear S hv hl hh
  go_wp2_with fail
  refine (N _).mono ?_
  rintro e w4 ⟨rfl, os4, n4, rfl⟩
  go_wp2
  refine bodyPost_ret_by (v := ires z) ?_ (by rfl) ⟨rfl, by repeat (first | exact Grew.refl _ | apply Grew.drew | apply Grew.drewN | apply Grew.alloc | apply Grew.more)⟩
  simp [results, Tryz.results103, go_sem]

set_option maxHeartbeats 1000000 in
theorem mulInt_any (a b : Int) (w : World) (a0 : -9223372036854775808 ≤ a) (a1 : a ≤ 9223372036854775807) (b0 : -9223372036854775808 ≤ b) (b1 : b ≤ 9223372036854775807) :
    Calls Tryz.prog 104 #[.int .i64 a, .int .i64 b] w fun e w' => e = .returned (ires (a * b)) ∧ Grew w w' := by
  have S := fun W => product_ex a b W a0 a1 b0 b1
  generalize a * b = z at *
  clear a0 a1 b0 b1
  go_enter Tryz.func104, Tryz.ntmps104
  go_wp2_with fail
  refine (S _).mono ?_
  rintro e w3 ⟨s, h, l, rfl, hv, hl, hh, os3, n3, rfl⟩
  have N := fun W => narrowed_any s h l W hl
  rw [hv] at N
  clear S hv hl hh
  go_wp2_with fail
  refine (N _).mono ?_
  rintro e w4 ⟨rfl, os4, n4, rfl⟩
  go_wp2
  refine bodyPost_ret_by (v := ires z) ?_ (by rfl) ⟨rfl, by repeat (first | exact Grew.refl _ | apply Grew.drew | apply Grew.drewN | apply Grew.alloc | apply Grew.more)⟩
  simp [results, Tryz.results104, go_sem]

end Go.Proofs.YtnpdecbgakgbgaaGreatDoor
