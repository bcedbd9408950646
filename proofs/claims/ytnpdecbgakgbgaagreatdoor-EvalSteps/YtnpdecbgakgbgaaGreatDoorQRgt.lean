/-
  The walk of EvalRight.
-/
import Derived.Test.YtnpdecbgakgbgaaGreatDoorMEQKnow
import Derived.Test.YtnpdecbgakgbgaaGreatDoorMFQUn
import Derived.Test.YtnpdecbgakgbgaaGreatDoorMnDDivP
import Derived.Deep.Cut
namespace Go.Proofs.YtnpdecbgakgbgaaGreatDoor
open Go.RowKit Go.Shelf
attribute [local go_sem] cell?_more frozen?_more setCell_more more_lt more_more more_drew more_drewN setCell_drewN alloc_drewN cell?_drawTo frozen?_drawTo heap_drawTo setCell_drawTo alloc_drawTo drewN_drawTo drew_drawTo drawTo_drewN drawTo_drew drawTo_drawTo more_drawTo

/-- Two values boxed. -/
theorem both_box (w : World) (a b : Va) : ∃ w0, w0 = (w.alloc (.cells #[.int .i64 a.k, .int .i64 a.n, .int .i64 a.m, .string ⟨a.b.toArray⟩] 30)).alloc (.cells #[.int .i64 b.k, .int .i64 b.n, .int .i64 b.m, .string ⟨b.b.toArray⟩] 30) ∧ At4 w0 w.heap.size 0 a ∧ At4 w0 (w.heap.size + 1) 0 b ∧ Below w.heap.size w w0 := by
  obtain ⟨h1, h2, h3⟩ := two_boxes w a b
  exact ⟨_, rfl, h1.at4, h2.at4, h3⟩

set_option maxRecDepth 20000 in
set_option maxHeartbeats 4000000 in
theorem right_00 (op ak an am bk bn bm : Int) (ab bb : List UInt8) (vk vn vm : Int) (vb : List UInt8) (uk un um : Int) (ub : List UInt8) (w : World)
    (M : Tells 17 #[.int .i64 op, va ak an am ⟨ab.toArray⟩, va bk bn bm ⟨bb.toArray⟩] w (.tuple #[va vk vn vm ⟨vb.toArray⟩, .int .i64 0]))
    (U : Tells 15 #[.int .i64 op, va ak an am ⟨ab.toArray⟩] w (.tuple #[va uk un um ⟨ub.toArray⟩, .int .i64 0]))
    (R1 : Tells 26 #[va vk vn vm ⟨vb.toArray⟩] w (.bool true)) (R2 : Tells 26 #[va uk un um ⟨ub.toArray⟩] w (.bool true)) (K : Tells 21 #[] w (.bool true)) :
    Calls Tryz.prog 7 #[.int .i64 op, va ak an am ⟨ab.toArray⟩, va bk bn bm ⟨bb.toArray⟩] w fun e w' => e = .returned (.bool true) ∧ Below w.heap.size w w' := by
  obtain ⟨w0, hw0, ha, hb, G⟩ := both_box w ⟨ak, an, am, ab⟩ ⟨bk, bn, bm, bb⟩
  dsimp only at hw0
  have N := fun n W => qnum7_any n W
  replace K := K.later G
  replace M := M.later G
  replace U := U.later G
  replace R1 := R1.later G
  replace R2 := R2.later G
  go_enter Tryz.func7, Tryz.ntmps7
  go_upto_region 1 with fail
  rw [← hw0]
  clear hw0
  obtain ⟨k0a, k0b, k0c, k0d⟩ := id ha
  have k0l := ha.lt
  simp only [Nat.zero_add] at k0b k0c k0d
  obtain ⟨k1a, k1b, k1c, k1d⟩ := id hb
  have k1l := hb.lt
  simp only [Nat.zero_add] at k1b k1c k1d
  go_cut [7, 8] from 11 (fun s0 s1 wx => ∃ p : Nat, s0 = .pointer (some ⟨p, 0, none⟩) ∧ s1 = .int .i64 0 ∧ At4 wx p 0 ⟨vk, vn, vm, vb⟩ ∧ Below w0.heap.size w0 wx)
  case first =>
    clear K N U R1 R2
    go_wp2_with (first
      | (go_at_call 17; refine (M _ (Grown.below (by repeat (first | assumption | exact Grown.refl _ | apply Grown.drew | apply Grown.drewN | apply Grown.alloc | apply Grown.more | apply Grown.drawTo)))).mono ?_; rintro e wc ⟨rfl, bc⟩; obtain ⟨osc, dc, rfl⟩ := wide bc; clear bc))
    all_goals go_meet
    all_goals exact ⟨_, rfl, rfl, ⟨by simp (maxDischargeDepth := 12) [go_sem], by simp (maxDischargeDepth := 12) [go_sem], by simp (maxDischargeDepth := 12) [go_sem], by simp (maxDischargeDepth := 12) [go_sem]⟩, Grown.below (by repeat (first | assumption | exact Grown.refl _ | apply Grown.drew | apply Grown.drewN | apply Grown.alloc | apply Grown.more | apply Grown.drawTo))⟩
  rename World => v1
  obtain ⟨p1, rfl, rfl, hp1, gv1⟩ := hcut
  clear k0a k0b k0c k0d k0l k1a k1b k1c k1d k1l
  replace ha := ha.later gv1
  replace hb := hb.later gv1
  replace K := K.later gv1
  replace M := M.later gv1
  replace U := U.later gv1
  replace R1 := R1.later gv1
  replace R2 := R2.later gv1
  replace G := below_trans G gv1
  clear gv1
  go_upto_region 2 with fail
  obtain ⟨k0a, k0b, k0c, k0d⟩ := id ha
  have k0l := ha.lt
  simp only [Nat.zero_add] at k0b k0c k0d
  obtain ⟨k1a, k1b, k1c, k1d⟩ := id hb
  have k1l := hb.lt
  simp only [Nat.zero_add] at k1b k1c k1d
  obtain ⟨k2a, k2b, k2c, k2d⟩ := id hp1
  have k2l := hp1.lt
  simp only [Nat.zero_add] at k2b k2c k2d
  go_cut [9, 10] from 11 (fun s0 s1 wx => ∃ p : Nat, s0 = .pointer (some ⟨p, 0, none⟩) ∧ s1 = .int .i64 0 ∧ At4 wx p 0 ⟨uk, un, um, ub⟩ ∧ Below v1.heap.size v1 wx)
  case first =>
    clear K N M R1 R2
    go_wp2_with (first
      | (go_at_call 15; refine (U _ (Grown.below (by repeat (first | assumption | exact Grown.refl _ | apply Grown.drew | apply Grown.drewN | apply Grown.alloc | apply Grown.more | apply Grown.drawTo)))).mono ?_; rintro e wc ⟨rfl, bc⟩; obtain ⟨osc, dc, rfl⟩ := wide bc; clear bc))
    all_goals go_meet
    all_goals exact ⟨_, rfl, rfl, ⟨by simp (maxDischargeDepth := 12) [go_sem], by simp (maxDischargeDepth := 12) [go_sem], by simp (maxDischargeDepth := 12) [go_sem], by simp (maxDischargeDepth := 12) [go_sem]⟩, Grown.below (by repeat (first | assumption | exact Grown.refl _ | apply Grown.drew | apply Grown.drewN | apply Grown.alloc | apply Grown.more | apply Grown.drawTo))⟩
  rename World => v2
  obtain ⟨p2, rfl, rfl, hp2, gv2⟩ := hcut
  clear k0a k0b k0c k0d k0l k1a k1b k1c k1d k1l k2a k2b k2c k2d k2l
  replace ha := ha.later gv2
  replace hb := hb.later gv2
  replace hp1 := hp1.later gv2
  replace K := K.later gv2
  replace M := M.later gv2
  replace U := U.later gv2
  replace R1 := R1.later gv2
  replace R2 := R2.later gv2
  replace G := below_trans G gv2
  clear gv2
  clear M U
  obtain ⟨ca, cb, cc, cd⟩ := id hp1
  obtain ⟨da, db, dc, dd⟩ := id hp2
  dsimp only at ca cb cc cd da db dc dd
  go_wp2_with fail
  refine (R1 _ (Below.refl _ _)).mono ?_
  rintro e z1 ⟨rfl, b1⟩
  clear ca cb cc cd da db dc dd
  replace hp1 := hp1.later b1
  replace hp2 := hp2.later b1
  obtain ⟨ca, cb, cc, cd⟩ := id hp1
  obtain ⟨da, db, dc, dd⟩ := id hp2
  dsimp only at ca cb cc cd da db dc dd
  go_wp2_with fail
  refine (R2 _ b1).mono ?_
  rintro e z2 ⟨rfl, b2⟩
  clear ca cb cc cd da db dc dd
  replace hp1 := hp1.later b2
  replace hp2 := hp2.later b2
  obtain ⟨ca, cb, cc, cd⟩ := id hp1
  obtain ⟨da, db, dc, dd⟩ := id hp2
  dsimp only at ca cb cc cd da db dc dd
  have b3 := below_trans b1 b2
  clear R1 R2 b1 b2 hp1 hp2 ha hb
  go_wp2_with (first
    | (go_at_call 20; refine (N _ _).mono ?_; rintro e wc ⟨rfl, rfl⟩)
    | (go_at_call 21; refine (K _ b3).mono ?_; rintro e wc ⟨rfl, bc⟩))
  go_ret
  exact ⟨rfl, below_trans (below_trans G b3) bc⟩

set_option maxRecDepth 20000 in
set_option maxHeartbeats 4000000 in
theorem right_01 (op ak an am bk bn bm : Int) (ab bb : List UInt8) (vk vn vm : Int) (vb : List UInt8) (ue : Int) (hu : (ue == 0) = false) (w : World)
    (M : Tells 17 #[.int .i64 op, va ak an am ⟨ab.toArray⟩, va bk bn bm ⟨bb.toArray⟩] w (.tuple #[va vk vn vm ⟨vb.toArray⟩, .int .i64 0]))
    (U : Tells 15 #[.int .i64 op, va ak an am ⟨ab.toArray⟩] w (.tuple #[va 0 0 0 ⟨#[]⟩, .int .i64 ue]))
    (R1 : Tells 26 #[va vk vn vm ⟨vb.toArray⟩] w (.bool true)) (R2 : Tells 26 #[va 0 0 0 ⟨#[]⟩] w (.bool true)) (K : Tells 21 #[] w (.bool true)) :
    Calls Tryz.prog 7 #[.int .i64 op, va ak an am ⟨ab.toArray⟩, va bk bn bm ⟨bb.toArray⟩] w fun e w' => e = .returned (.bool true) ∧ Below w.heap.size w w' := by
  obtain ⟨w0, hw0, ha, hb, G⟩ := both_box w ⟨ak, an, am, ab⟩ ⟨bk, bn, bm, bb⟩
  dsimp only at hw0
  have N := fun n W => qnum7_any n W
  replace K := K.later G
  replace M := M.later G
  replace U := U.later G
  replace R1 := R1.later G
  replace R2 := R2.later G
  go_enter Tryz.func7, Tryz.ntmps7
  go_upto_region 1 with fail
  rw [← hw0]
  clear hw0
  obtain ⟨k0a, k0b, k0c, k0d⟩ := id ha
  have k0l := ha.lt
  simp only [Nat.zero_add] at k0b k0c k0d
  obtain ⟨k1a, k1b, k1c, k1d⟩ := id hb
  have k1l := hb.lt
  simp only [Nat.zero_add] at k1b k1c k1d
  go_cut [7, 8] from 11 (fun s0 s1 wx => ∃ p : Nat, s0 = .pointer (some ⟨p, 0, none⟩) ∧ s1 = .int .i64 0 ∧ At4 wx p 0 ⟨vk, vn, vm, vb⟩ ∧ Below w0.heap.size w0 wx)
  case first =>
    clear K N U R1 R2
    go_wp2_with (first
      | (go_at_call 17; refine (M _ (Grown.below (by repeat (first | assumption | exact Grown.refl _ | apply Grown.drew | apply Grown.drewN | apply Grown.alloc | apply Grown.more | apply Grown.drawTo)))).mono ?_; rintro e wc ⟨rfl, bc⟩; obtain ⟨osc, dc, rfl⟩ := wide bc; clear bc))
    all_goals go_meet
    all_goals exact ⟨_, rfl, rfl, ⟨by simp (maxDischargeDepth := 12) [go_sem], by simp (maxDischargeDepth := 12) [go_sem], by simp (maxDischargeDepth := 12) [go_sem], by simp (maxDischargeDepth := 12) [go_sem]⟩, Grown.below (by repeat (first | assumption | exact Grown.refl _ | apply Grown.drew | apply Grown.drewN | apply Grown.alloc | apply Grown.more | apply Grown.drawTo))⟩
  rename World => v1
  obtain ⟨p1, rfl, rfl, hp1, gv1⟩ := hcut
  clear k0a k0b k0c k0d k0l k1a k1b k1c k1d k1l
  replace ha := ha.later gv1
  replace hb := hb.later gv1
  replace K := K.later gv1
  replace M := M.later gv1
  replace U := U.later gv1
  replace R1 := R1.later gv1
  replace R2 := R2.later gv1
  replace G := below_trans G gv1
  clear gv1
  go_upto_region 2 with fail
  obtain ⟨k0a, k0b, k0c, k0d⟩ := id ha
  have k0l := ha.lt
  simp only [Nat.zero_add] at k0b k0c k0d
  obtain ⟨k1a, k1b, k1c, k1d⟩ := id hb
  have k1l := hb.lt
  simp only [Nat.zero_add] at k1b k1c k1d
  obtain ⟨k2a, k2b, k2c, k2d⟩ := id hp1
  have k2l := hp1.lt
  simp only [Nat.zero_add] at k2b k2c k2d
  go_cut [9, 10] from 11 (fun s0 s1 wx => ∃ p : Nat, s0 = .pointer (some ⟨p, 0, none⟩) ∧ s1 = .int .i64 ue ∧ At4 wx p 0 ⟨0, 0, 0, []⟩ ∧ Below v1.heap.size v1 wx)
  case first =>
    clear K N M R1 R2
    go_wp2_with (first
      | (go_at_call 15; refine (U _ (Grown.below (by repeat (first | assumption | exact Grown.refl _ | apply Grown.drew | apply Grown.drewN | apply Grown.alloc | apply Grown.more | apply Grown.drawTo)))).mono ?_; rintro e wc ⟨rfl, bc⟩; obtain ⟨osc, dc, rfl⟩ := wide bc; clear bc))
    all_goals go_meet
    all_goals exact ⟨_, rfl, rfl, ⟨by simp (maxDischargeDepth := 12) [go_sem], by simp (maxDischargeDepth := 12) [go_sem], by simp (maxDischargeDepth := 12) [go_sem], by simp (maxDischargeDepth := 12) [go_sem]⟩, Grown.below (by repeat (first | assumption | exact Grown.refl _ | apply Grown.drew | apply Grown.drewN | apply Grown.alloc | apply Grown.more | apply Grown.drawTo))⟩
  rename World => v2
  obtain ⟨p2, rfl, rfl, hp2, gv2⟩ := hcut
  clear k0a k0b k0c k0d k0l k1a k1b k1c k1d k1l k2a k2b k2c k2d k2l
  replace ha := ha.later gv2
  replace hb := hb.later gv2
  replace hp1 := hp1.later gv2
  replace K := K.later gv2
  replace M := M.later gv2
  replace U := U.later gv2
  replace R1 := R1.later gv2
  replace R2 := R2.later gv2
  replace G := below_trans G gv2
  clear gv2
  clear M U
  obtain ⟨ca, cb, cc, cd⟩ := id hp1
  obtain ⟨da, db, dc, dd⟩ := id hp2
  dsimp only at ca cb cc cd da db dc dd
  go_wp2_with fail
  refine (R1 _ (Below.refl _ _)).mono ?_
  rintro e z1 ⟨rfl, b1⟩
  clear ca cb cc cd da db dc dd
  replace hp1 := hp1.later b1
  replace hp2 := hp2.later b1
  obtain ⟨ca, cb, cc, cd⟩ := id hp1
  obtain ⟨da, db, dc, dd⟩ := id hp2
  dsimp only at ca cb cc cd da db dc dd
  go_wp2_with fail
  refine (R2 _ b1).mono ?_
  rintro e z2 ⟨rfl, b2⟩
  clear ca cb cc cd da db dc dd
  replace hp1 := hp1.later b2
  replace hp2 := hp2.later b2
  obtain ⟨ca, cb, cc, cd⟩ := id hp1
  obtain ⟨da, db, dc, dd⟩ := id hp2
  dsimp only at ca cb cc cd da db dc dd
  have b3 := below_trans b1 b2
  clear R1 R2 b1 b2 hp1 hp2 ha hb
  go_wp2_with (first
    | (go_at_call 20; refine (N _ _).mono ?_; rintro e wc ⟨rfl, rfl⟩)
    | (go_at_call 21; refine (K _ b3).mono ?_; rintro e wc ⟨rfl, bc⟩))
  go_ret
  exact ⟨rfl, below_trans (below_trans G b3) bc⟩

set_option maxRecDepth 20000 in
set_option maxHeartbeats 4000000 in
theorem right_10 (op ak an am bk bn bm : Int) (ab bb : List UInt8) (ve : Int) (he : (ve == 0) = false) (uk un um : Int) (ub : List UInt8) (w : World)
    (M : Tells 17 #[.int .i64 op, va ak an am ⟨ab.toArray⟩, va bk bn bm ⟨bb.toArray⟩] w (.tuple #[va 0 0 0 ⟨#[]⟩, .int .i64 ve]))
    (U : Tells 15 #[.int .i64 op, va ak an am ⟨ab.toArray⟩] w (.tuple #[va uk un um ⟨ub.toArray⟩, .int .i64 0]))
    (R1 : Tells 26 #[va 0 0 0 ⟨#[]⟩] w (.bool true)) (R2 : Tells 26 #[va uk un um ⟨ub.toArray⟩] w (.bool true)) (K : Tells 21 #[] w (.bool true)) :
    Calls Tryz.prog 7 #[.int .i64 op, va ak an am ⟨ab.toArray⟩, va bk bn bm ⟨bb.toArray⟩] w fun e w' => e = .returned (.bool true) ∧ Below w.heap.size w w' := by
  obtain ⟨w0, hw0, ha, hb, G⟩ := both_box w ⟨ak, an, am, ab⟩ ⟨bk, bn, bm, bb⟩
  dsimp only at hw0
  have N := fun n W => qnum7_any n W
  replace K := K.later G
  replace M := M.later G
  replace U := U.later G
  replace R1 := R1.later G
  replace R2 := R2.later G
  go_enter Tryz.func7, Tryz.ntmps7
  go_upto_region 1 with fail
  rw [← hw0]
  clear hw0
  obtain ⟨k0a, k0b, k0c, k0d⟩ := id ha
  have k0l := ha.lt
  simp only [Nat.zero_add] at k0b k0c k0d
  obtain ⟨k1a, k1b, k1c, k1d⟩ := id hb
  have k1l := hb.lt
  simp only [Nat.zero_add] at k1b k1c k1d
  go_cut [7, 8] from 11 (fun s0 s1 wx => ∃ p : Nat, s0 = .pointer (some ⟨p, 0, none⟩) ∧ s1 = .int .i64 ve ∧ At4 wx p 0 ⟨0, 0, 0, []⟩ ∧ Below w0.heap.size w0 wx)
  case first =>
    clear K N U R1 R2
    go_wp2_with (first
      | (go_at_call 17; refine (M _ (Grown.below (by repeat (first | assumption | exact Grown.refl _ | apply Grown.drew | apply Grown.drewN | apply Grown.alloc | apply Grown.more | apply Grown.drawTo)))).mono ?_; rintro e wc ⟨rfl, bc⟩; obtain ⟨osc, dc, rfl⟩ := wide bc; clear bc))
    all_goals go_meet
    all_goals exact ⟨_, rfl, rfl, ⟨by simp (maxDischargeDepth := 12) [go_sem], by simp (maxDischargeDepth := 12) [go_sem], by simp (maxDischargeDepth := 12) [go_sem], by simp (maxDischargeDepth := 12) [go_sem]⟩, Grown.below (by repeat (first | assumption | exact Grown.refl _ | apply Grown.drew | apply Grown.drewN | apply Grown.alloc | apply Grown.more | apply Grown.drawTo))⟩
  rename World => v1
  obtain ⟨p1, rfl, rfl, hp1, gv1⟩ := hcut
  clear k0a k0b k0c k0d k0l k1a k1b k1c k1d k1l
  replace ha := ha.later gv1
  replace hb := hb.later gv1
  replace K := K.later gv1
  replace M := M.later gv1
  replace U := U.later gv1
  replace R1 := R1.later gv1
  replace R2 := R2.later gv1
  replace G := below_trans G gv1
  clear gv1
  go_upto_region 2 with fail
  obtain ⟨k0a, k0b, k0c, k0d⟩ := id ha
  have k0l := ha.lt
  simp only [Nat.zero_add] at k0b k0c k0d
  obtain ⟨k1a, k1b, k1c, k1d⟩ := id hb
  have k1l := hb.lt
  simp only [Nat.zero_add] at k1b k1c k1d
  obtain ⟨k2a, k2b, k2c, k2d⟩ := id hp1
  have k2l := hp1.lt
  simp only [Nat.zero_add] at k2b k2c k2d
  go_cut [9, 10] from 11 (fun s0 s1 wx => ∃ p : Nat, s0 = .pointer (some ⟨p, 0, none⟩) ∧ s1 = .int .i64 0 ∧ At4 wx p 0 ⟨uk, un, um, ub⟩ ∧ Below v1.heap.size v1 wx)
  case first =>
    clear K N M R1 R2
    go_wp2_with (first
      | (go_at_call 15; refine (U _ (Grown.below (by repeat (first | assumption | exact Grown.refl _ | apply Grown.drew | apply Grown.drewN | apply Grown.alloc | apply Grown.more | apply Grown.drawTo)))).mono ?_; rintro e wc ⟨rfl, bc⟩; obtain ⟨osc, dc, rfl⟩ := wide bc; clear bc))
    all_goals go_meet
    all_goals exact ⟨_, rfl, rfl, ⟨by simp (maxDischargeDepth := 12) [go_sem], by simp (maxDischargeDepth := 12) [go_sem], by simp (maxDischargeDepth := 12) [go_sem], by simp (maxDischargeDepth := 12) [go_sem]⟩, Grown.below (by repeat (first | assumption | exact Grown.refl _ | apply Grown.drew | apply Grown.drewN | apply Grown.alloc | apply Grown.more | apply Grown.drawTo))⟩
  rename World => v2
  obtain ⟨p2, rfl, rfl, hp2, gv2⟩ := hcut
  clear k0a k0b k0c k0d k0l k1a k1b k1c k1d k1l k2a k2b k2c k2d k2l
  replace ha := ha.later gv2
  replace hb := hb.later gv2
  replace hp1 := hp1.later gv2
  replace K := K.later gv2
  replace M := M.later gv2
  replace U := U.later gv2
  replace R1 := R1.later gv2
  replace R2 := R2.later gv2
  replace G := below_trans G gv2
  clear gv2
  clear M U
  obtain ⟨ca, cb, cc, cd⟩ := id hp1
  obtain ⟨da, db, dc, dd⟩ := id hp2
  dsimp only at ca cb cc cd da db dc dd
  go_wp2_with fail
  refine (R1 _ (Below.refl _ _)).mono ?_
  rintro e z1 ⟨rfl, b1⟩
  clear ca cb cc cd da db dc dd
  replace hp1 := hp1.later b1
  replace hp2 := hp2.later b1
  obtain ⟨ca, cb, cc, cd⟩ := id hp1
  obtain ⟨da, db, dc, dd⟩ := id hp2
  dsimp only at ca cb cc cd da db dc dd
  go_wp2_with fail
  refine (R2 _ b1).mono ?_
  rintro e z2 ⟨rfl, b2⟩
  clear ca cb cc cd da db dc dd
  replace hp1 := hp1.later b2
  replace hp2 := hp2.later b2
  obtain ⟨ca, cb, cc, cd⟩ := id hp1
  obtain ⟨da, db, dc, dd⟩ := id hp2
  dsimp only at ca cb cc cd da db dc dd
  have b3 := below_trans b1 b2
  clear R1 R2 b1 b2 hp1 hp2 ha hb
  go_wp2_with (first
    | (go_at_call 20; refine (N _ _).mono ?_; rintro e wc ⟨rfl, rfl⟩)
    | (go_at_call 21; refine (K _ b3).mono ?_; rintro e wc ⟨rfl, bc⟩))
  go_ret
  exact ⟨rfl, below_trans (below_trans G b3) bc⟩

set_option maxRecDepth 20000 in
set_option maxHeartbeats 4000000 in
theorem right_11 (op ak an am bk bn bm : Int) (ab bb : List UInt8) (ve : Int) (he : (ve == 0) = false) (ue : Int) (hu : (ue == 0) = false) (w : World)
    (M : Tells 17 #[.int .i64 op, va ak an am ⟨ab.toArray⟩, va bk bn bm ⟨bb.toArray⟩] w (.tuple #[va 0 0 0 ⟨#[]⟩, .int .i64 ve]))
    (U : Tells 15 #[.int .i64 op, va ak an am ⟨ab.toArray⟩] w (.tuple #[va 0 0 0 ⟨#[]⟩, .int .i64 ue]))
    (R1 : Tells 26 #[va 0 0 0 ⟨#[]⟩] w (.bool true)) (R2 : Tells 26 #[va 0 0 0 ⟨#[]⟩] w (.bool true)) (K : Tells 21 #[] w (.bool true)) :
    Calls Tryz.prog 7 #[.int .i64 op, va ak an am ⟨ab.toArray⟩, va bk bn bm ⟨bb.toArray⟩] w fun e w' => e = .returned (.bool true) ∧ Below w.heap.size w w' := by
  obtain ⟨w0, hw0, ha, hb, G⟩ := both_box w ⟨ak, an, am, ab⟩ ⟨bk, bn, bm, bb⟩
  dsimp only at hw0
  have N := fun n W => qnum7_any n W
  replace K := K.later G
  replace M := M.later G
  replace U := U.later G
  replace R1 := R1.later G
  replace R2 := R2.later G
  go_enter Tryz.func7, Tryz.ntmps7
  go_upto_region 1 with fail
  rw [← hw0]
  clear hw0
  obtain ⟨k0a, k0b, k0c, k0d⟩ := id ha
  have k0l := ha.lt
  simp only [Nat.zero_add] at k0b k0c k0d
  obtain ⟨k1a, k1b, k1c, k1d⟩ := id hb
  have k1l := hb.lt
  simp only [Nat.zero_add] at k1b k1c k1d
  go_cut [7, 8] from 11 (fun s0 s1 wx => ∃ p : Nat, s0 = .pointer (some ⟨p, 0, none⟩) ∧ s1 = .int .i64 ve ∧ At4 wx p 0 ⟨0, 0, 0, []⟩ ∧ Below w0.heap.size w0 wx)
  case first =>
    clear K N U R1 R2
    go_wp2_with (first
      | (go_at_call 17; refine (M _ (Grown.below (by repeat (first | assumption | exact Grown.refl _ | apply Grown.drew | apply Grown.drewN | apply Grown.alloc | apply Grown.more | apply Grown.drawTo)))).mono ?_; rintro e wc ⟨rfl, bc⟩; obtain ⟨osc, dc, rfl⟩ := wide bc; clear bc))
    all_goals go_meet
    all_goals exact ⟨_, rfl, rfl, ⟨by simp (maxDischargeDepth := 12) [go_sem], by simp (maxDischargeDepth := 12) [go_sem], by simp (maxDischargeDepth := 12) [go_sem], by simp (maxDischargeDepth := 12) [go_sem]⟩, Grown.below (by repeat (first | assumption | exact Grown.refl _ | apply Grown.drew | apply Grown.drewN | apply Grown.alloc | apply Grown.more | apply Grown.drawTo))⟩
  rename World => v1
  obtain ⟨p1, rfl, rfl, hp1, gv1⟩ := hcut
  clear k0a k0b k0c k0d k0l k1a k1b k1c k1d k1l
  replace ha := ha.later gv1
  replace hb := hb.later gv1
  replace K := K.later gv1
  replace M := M.later gv1
  replace U := U.later gv1
  replace R1 := R1.later gv1
  replace R2 := R2.later gv1
  replace G := below_trans G gv1
  clear gv1
  go_upto_region 2 with fail
  obtain ⟨k0a, k0b, k0c, k0d⟩ := id ha
  have k0l := ha.lt
  simp only [Nat.zero_add] at k0b k0c k0d
  obtain ⟨k1a, k1b, k1c, k1d⟩ := id hb
  have k1l := hb.lt
  simp only [Nat.zero_add] at k1b k1c k1d
  obtain ⟨k2a, k2b, k2c, k2d⟩ := id hp1
  have k2l := hp1.lt
  simp only [Nat.zero_add] at k2b k2c k2d
  go_cut [9, 10] from 11 (fun s0 s1 wx => ∃ p : Nat, s0 = .pointer (some ⟨p, 0, none⟩) ∧ s1 = .int .i64 ue ∧ At4 wx p 0 ⟨0, 0, 0, []⟩ ∧ Below v1.heap.size v1 wx)
  case first =>
    clear K N M R1 R2
    go_wp2_with (first
      | (go_at_call 15; refine (U _ (Grown.below (by repeat (first | assumption | exact Grown.refl _ | apply Grown.drew | apply Grown.drewN | apply Grown.alloc | apply Grown.more | apply Grown.drawTo)))).mono ?_; rintro e wc ⟨rfl, bc⟩; obtain ⟨osc, dc, rfl⟩ := wide bc; clear bc))
    all_goals go_meet
    all_goals exact ⟨_, rfl, rfl, ⟨by simp (maxDischargeDepth := 12) [go_sem], by simp (maxDischargeDepth := 12) [go_sem], by simp (maxDischargeDepth := 12) [go_sem], by simp (maxDischargeDepth := 12) [go_sem]⟩, Grown.below (by repeat (first | assumption | exact Grown.refl _ | apply Grown.drew | apply Grown.drewN | apply Grown.alloc | apply Grown.more | apply Grown.drawTo))⟩
  rename World => v2
  obtain ⟨p2, rfl, rfl, hp2, gv2⟩ := hcut
  clear k0a k0b k0c k0d k0l k1a k1b k1c k1d k1l k2a k2b k2c k2d k2l
  replace ha := ha.later gv2
  replace hb := hb.later gv2
  replace hp1 := hp1.later gv2
  replace K := K.later gv2
  replace M := M.later gv2
  replace U := U.later gv2
  replace R1 := R1.later gv2
  replace R2 := R2.later gv2
  replace G := below_trans G gv2
  clear gv2
  clear M U
  obtain ⟨ca, cb, cc, cd⟩ := id hp1
  obtain ⟨da, db, dc, dd⟩ := id hp2
  dsimp only at ca cb cc cd da db dc dd
  go_wp2_with fail
  refine (R1 _ (Below.refl _ _)).mono ?_
  rintro e z1 ⟨rfl, b1⟩
  clear ca cb cc cd da db dc dd
  replace hp1 := hp1.later b1
  replace hp2 := hp2.later b1
  obtain ⟨ca, cb, cc, cd⟩ := id hp1
  obtain ⟨da, db, dc, dd⟩ := id hp2
  dsimp only at ca cb cc cd da db dc dd
  go_wp2_with fail
  refine (R2 _ b1).mono ?_
  rintro e z2 ⟨rfl, b2⟩
  clear ca cb cc cd da db dc dd
  replace hp1 := hp1.later b2
  replace hp2 := hp2.later b2
  obtain ⟨ca, cb, cc, cd⟩ := id hp1
  obtain ⟨da, db, dc, dd⟩ := id hp2
  dsimp only at ca cb cc cd da db dc dd
  have b3 := below_trans b1 b2
  clear R1 R2 b1 b2 hp1 hp2 ha hb
  go_wp2_with (first
    | (go_at_call 20; refine (N _ _).mono ?_; rintro e wc ⟨rfl, rfl⟩)
    | (go_at_call 21; refine (K _ b3).mono ?_; rintro e wc ⟨rfl, bc⟩))
  go_ret
  exact ⟨rfl, below_trans (below_trans G b3) bc⟩
end Go.Proofs.YtnpdecbgakgbgaaGreatDoor
