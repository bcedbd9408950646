/-
  The walk of EvalNulls.
-/
import Derived.Test.YtnpdecbgakgbgaaGreatDoorQKnow
import Derived.Test.YtnpdecbgakgbgaaGreatDoorQUn
import Derived.Test.YtnpdecbgakgbgaaGreatDoorMqVRef
import Derived.Deep.Cut
namespace Go.Proofs.YtnpdecbgakgbgaaGreatDoor
open Go.RowKit Go.Shelf
attribute [local go_sem] cell?_more frozen?_more setCell_more more_lt more_more more_drew more_drewN setCell_drewN alloc_drewN cell?_drawTo frozen?_drawTo heap_drawTo setCell_drawTo alloc_drawTo drewN_drawTo drew_drawTo drawTo_drewN drawTo_drew drawTo_drawTo more_drawTo

/-- One value boxed. -/
theorem only_box (w : World) (a : Va) : ∃ w0, w0 = w.alloc (.cells #[.int .i64 a.k, .int .i64 a.n, .int .i64 a.m, .string ⟨a.b.toArray⟩] 30) ∧ At4 w0 w.heap.size 0 a ∧ Below w.heap.size w w0 :=
  ⟨_, rfl, (Box.new w a.k a.n a.m a.b).at4, (Below.refl _ w).alloc (Nat.le_refl _) _⟩

theorem op_nul (op : Int) : ∃ o : Int, 6 ≤ o ∧ o ≤ 16 ∧ o = 6 + (op.tmod 11 + 11).tmod 11 ∧ -11 < op.tmod 11 ∧ op.tmod 11 < 11 ∧ 0 ≤ (op.tmod 11 + 11).tmod 11 ∧ (op.tmod 11 + 11).tmod 11 < 11 := by
  have h1 : (op.tmod 11).natAbs = op.natAbs % 11 := Int.natAbs_tmod op 11
  have h2 := Nat.mod_lt op.natAbs (show 0 < 11 by decide)
  have h3 : -11 < op.tmod 11 ∧ op.tmod 11 < 11 := by omega
  have h4 : ((op.tmod 11 + 11).tmod 11).natAbs = (op.tmod 11 + 11).natAbs % 11 := Int.natAbs_tmod _ 11
  have h5 := Nat.mod_lt (op.tmod 11 + 11).natAbs (show 0 < 11 by decide)
  have h6 := Int.tmod_nonneg (a := op.tmod 11 + 11) 11 (by omega)
  exact ⟨_, by omega, by omega, rfl, h3.1, h3.2, h6, by omega⟩

set_option maxRecDepth 20000 in
set_option maxHeartbeats 4000000 in
theorem nulls_bad (op ak an am : Int) (ab : List UInt8) (w : World) (R : Tells 26 #[va ak an am ⟨ab.toArray⟩] w (.bool false)) (K : Tells 21 #[] w (.bool true)) :
    Calls Tryz.prog 8 #[.int .i64 op, va ak an am ⟨ab.toArray⟩] w fun e w' => e = .returned (.bool true) ∧ Below w.heap.size w w' := by
  obtain ⟨w0, hw0, ha, Bw⟩ := only_box w ⟨ak, an, am, ab⟩
  dsimp only at hw0
  go_enter Tryz.func8, Tryz.ntmps8
  go_upto_region 1 with fail
  rw [← hw0]
  clear hw0
  obtain ⟨a0, a1, a2, a3⟩ := ha
  dsimp only at a0 a1 a2 a3
  go_wp2_with fail
  refine (R _ Bw).mono ?_
  rintro e w1 ⟨rfl, b1⟩
  go_wp2_with fail
  refine (K _ (below_trans Bw b1)).mono ?_
  rintro e w2 ⟨rfl, b2⟩
  go_wp2
  go_ret
  exact ⟨rfl, below_trans (below_trans Bw b1) b2⟩

set_option maxRecDepth 20000 in
set_option maxHeartbeats 4000000 in
theorem nulls_good (op o t ak an am : Int) (ab : List UInt8) (w : World) (R : Tells 26 #[va ak an am ⟨ab.toArray⟩] w (.bool true)) (K : Tells 21 #[] w (.bool true))
    (h2 : IntKind.i64.wrap (op.tmod 11 + 11) = op.tmod 11 + 11) (h4 : IntKind.i64.wrap (6 + (op.tmod 11 + 11).tmod 11) = o)
    (M1 : Tells 17 #[.int .i64 o, va ak an am ⟨ab.toArray⟩, va 0 0 0 ⟨#[]⟩] w (.tuple #[va 0 0 0 ⟨#[]⟩, .int .i64 0]))
    (M2 : Tells 17 #[.int .i64 o, va 0 0 0 ⟨#[]⟩, va ak an am ⟨ab.toArray⟩] w (.tuple #[va 0 0 0 ⟨#[]⟩, .int .i64 0]))
    (U1 : Tells 15 #[.int .i64 5, va ak an am ⟨ab.toArray⟩] w (.tuple #[va 4 t 0 ⟨#[]⟩, .int .i64 0]))
    (U2 : Tells 15 #[.int .i64 3, va 0 0 0 ⟨#[]⟩] w (.tuple #[va 0 0 0 ⟨#[]⟩, .int .i64 0])) (ht : ((t == 1) == (ak == 0)) = true) :
    Calls Tryz.prog 8 #[.int .i64 op, va ak an am ⟨ab.toArray⟩] w fun e w' => e = .returned (.bool true) ∧ Below w.heap.size w w' := by
  obtain ⟨w0, hw0, ha, Bw⟩ := only_box w ⟨ak, an, am, ab⟩
  dsimp only at hw0
  have N := fun n W => qnum7_any n W
  go_enter Tryz.func8, Tryz.ntmps8
  go_upto_region 1 with fail
  rw [← hw0]
  clear hw0
  obtain ⟨a0, a1, a2, a3⟩ := id ha
  dsimp only at a0 a1 a2 a3
  go_wp2_with fail
  refine (R _ Bw).mono ?_
  rintro e w1 ⟨rfl, b1⟩
  clear a0 a1 a2 a3 R
  replace ha := ha.later b1
  have G := below_trans Bw b1
  replace K := K.later G
  replace M1 := M1.later G
  replace M2 := M2.later G
  replace U1 := U1.later G
  replace U2 := U2.later G
  clear b1 Bw
  go_upto_region 4 with fail
  obtain ⟨k0a, k0b, k0c, k0d⟩ := id ha
  have k0l := ha.lt
  simp only [Nat.zero_add] at k0b k0c k0d
  go_cut [5, 6] from 13 (fun s0 s1 wx => ∃ p : Nat, s0 = .pointer (some ⟨p, 0, none⟩) ∧ s1 = .int .i64 0 ∧ At4 wx p 0 ⟨0, 0, 0, []⟩ ∧ Below w1.heap.size w1 wx)
  case first =>
    clear K N M2 U1 U2
    go_wp2_with (first
      | (go_at_call 17; refine (M1 _ (Grown.below (by repeat (first | assumption | exact Grown.refl _ | apply Grown.drew | apply Grown.drewN | apply Grown.alloc | apply Grown.more | apply Grown.drawTo)))).mono ?_; rintro e wc ⟨rfl, bc⟩; obtain ⟨osc, dc, rfl⟩ := wide bc; clear bc))
    all_goals go_meet
    all_goals exact ⟨_, rfl, rfl, ⟨by simp (maxDischargeDepth := 12) [go_sem], by simp (maxDischargeDepth := 12) [go_sem], by simp (maxDischargeDepth := 12) [go_sem], by simp (maxDischargeDepth := 12) [go_sem]⟩, Grown.below (by repeat (first | assumption | exact Grown.refl _ | apply Grown.drew | apply Grown.drewN | apply Grown.alloc | apply Grown.more | apply Grown.drawTo))⟩
  rename World => v1
  obtain ⟨p1, rfl, rfl, hp1, gv1⟩ := hcut
  clear k0a k0b k0c k0d k0l
  replace ha := ha.later gv1
  replace K := K.later gv1
  replace M1 := M1.later gv1
  replace M2 := M2.later gv1
  replace U1 := U1.later gv1
  replace U2 := U2.later gv1
  replace G := below_trans G gv1
  clear gv1
  go_upto_region 5 with fail
  obtain ⟨k0a, k0b, k0c, k0d⟩ := id ha
  have k0l := ha.lt
  simp only [Nat.zero_add] at k0b k0c k0d
  obtain ⟨k1a, k1b, k1c, k1d⟩ := id hp1
  have k1l := hp1.lt
  simp only [Nat.zero_add] at k1b k1c k1d
  go_cut [7, 8] from 13 (fun s0 s1 wx => ∃ p : Nat, s0 = .pointer (some ⟨p, 0, none⟩) ∧ s1 = .int .i64 0 ∧ At4 wx p 0 ⟨0, 0, 0, []⟩ ∧ Below v1.heap.size v1 wx)
  case first =>
    clear K N M1 U1 U2
    go_wp2_with (first
      | (go_at_call 17; refine (M2 _ (Grown.below (by repeat (first | assumption | exact Grown.refl _ | apply Grown.drew | apply Grown.drewN | apply Grown.alloc | apply Grown.more | apply Grown.drawTo)))).mono ?_; rintro e wc ⟨rfl, bc⟩; obtain ⟨osc, dc, rfl⟩ := wide bc; clear bc))
    all_goals go_meet
    all_goals exact ⟨_, rfl, rfl, ⟨by simp (maxDischargeDepth := 12) [go_sem], by simp (maxDischargeDepth := 12) [go_sem], by simp (maxDischargeDepth := 12) [go_sem], by simp (maxDischargeDepth := 12) [go_sem]⟩, Grown.below (by repeat (first | assumption | exact Grown.refl _ | apply Grown.drew | apply Grown.drewN | apply Grown.alloc | apply Grown.more | apply Grown.drawTo))⟩
  rename World => v2
  obtain ⟨p2, rfl, rfl, hp2, gv2⟩ := hcut
  clear k0a k0b k0c k0d k0l k1a k1b k1c k1d k1l
  replace ha := ha.later gv2
  replace hp1 := hp1.later gv2
  replace K := K.later gv2
  replace M1 := M1.later gv2
  replace M2 := M2.later gv2
  replace U1 := U1.later gv2
  replace U2 := U2.later gv2
  replace G := below_trans G gv2
  clear gv2
  go_upto_region 6 with fail
  obtain ⟨k0a, k0b, k0c, k0d⟩ := id ha
  have k0l := ha.lt
  simp only [Nat.zero_add] at k0b k0c k0d
  obtain ⟨k1a, k1b, k1c, k1d⟩ := id hp1
  have k1l := hp1.lt
  simp only [Nat.zero_add] at k1b k1c k1d
  obtain ⟨k2a, k2b, k2c, k2d⟩ := id hp2
  have k2l := hp2.lt
  simp only [Nat.zero_add] at k2b k2c k2d
  go_cut [9, 10] from 13 (fun s0 s1 wx => ∃ p : Nat, s0 = .pointer (some ⟨p, 0, none⟩) ∧ s1 = .int .i64 0 ∧ At4 wx p 0 ⟨4, t, 0, []⟩ ∧ Below v2.heap.size v2 wx)
  case first =>
    clear K N M1 M2 U2
    go_wp2_with (first
      | (go_at_call 15; refine (U1 _ (Grown.below (by repeat (first | assumption | exact Grown.refl _ | apply Grown.drew | apply Grown.drewN | apply Grown.alloc | apply Grown.more | apply Grown.drawTo)))).mono ?_; rintro e wc ⟨rfl, bc⟩; obtain ⟨osc, dc, rfl⟩ := wide bc; clear bc))
    all_goals go_meet
    all_goals exact ⟨_, rfl, rfl, ⟨by simp (maxDischargeDepth := 12) [go_sem], by simp (maxDischargeDepth := 12) [go_sem], by simp (maxDischargeDepth := 12) [go_sem], by simp (maxDischargeDepth := 12) [go_sem]⟩, Grown.below (by repeat (first | assumption | exact Grown.refl _ | apply Grown.drew | apply Grown.drewN | apply Grown.alloc | apply Grown.more | apply Grown.drawTo))⟩
  rename World => v3
  obtain ⟨p3, rfl, rfl, hp3, gv3⟩ := hcut
  clear k0a k0b k0c k0d k0l k1a k1b k1c k1d k1l k2a k2b k2c k2d k2l
  replace ha := ha.later gv3
  replace hp1 := hp1.later gv3
  replace hp2 := hp2.later gv3
  replace K := K.later gv3
  replace M1 := M1.later gv3
  replace M2 := M2.later gv3
  replace U1 := U1.later gv3
  replace U2 := U2.later gv3
  replace G := below_trans G gv3
  clear gv3
  go_upto_region 7 with fail
  obtain ⟨k0a, k0b, k0c, k0d⟩ := id ha
  have k0l := ha.lt
  simp only [Nat.zero_add] at k0b k0c k0d
  obtain ⟨k1a, k1b, k1c, k1d⟩ := id hp1
  have k1l := hp1.lt
  simp only [Nat.zero_add] at k1b k1c k1d
  obtain ⟨k2a, k2b, k2c, k2d⟩ := id hp2
  have k2l := hp2.lt
  simp only [Nat.zero_add] at k2b k2c k2d
  obtain ⟨k3a, k3b, k3c, k3d⟩ := id hp3
  have k3l := hp3.lt
  simp only [Nat.zero_add] at k3b k3c k3d
  go_cut [11, 12] from 13 (fun s0 s1 wx => ∃ p : Nat, s0 = .pointer (some ⟨p, 0, none⟩) ∧ s1 = .int .i64 0 ∧ At4 wx p 0 ⟨0, 0, 0, []⟩ ∧ Below v3.heap.size v3 wx)
  case first =>
    clear K N M1 M2 U1
    go_wp2_with (first
      | (go_at_call 15; refine (U2 _ (Grown.below (by repeat (first | assumption | exact Grown.refl _ | apply Grown.drew | apply Grown.drewN | apply Grown.alloc | apply Grown.more | apply Grown.drawTo)))).mono ?_; rintro e wc ⟨rfl, bc⟩; obtain ⟨osc, dc, rfl⟩ := wide bc; clear bc))
    all_goals go_meet
    all_goals exact ⟨_, rfl, rfl, ⟨by simp (maxDischargeDepth := 12) [go_sem], by simp (maxDischargeDepth := 12) [go_sem], by simp (maxDischargeDepth := 12) [go_sem], by simp (maxDischargeDepth := 12) [go_sem]⟩, Grown.below (by repeat (first | assumption | exact Grown.refl _ | apply Grown.drew | apply Grown.drewN | apply Grown.alloc | apply Grown.more | apply Grown.drawTo))⟩
  rename World => v4
  obtain ⟨p4, rfl, rfl, hp4, gv4⟩ := hcut
  clear k0a k0b k0c k0d k0l k1a k1b k1c k1d k1l k2a k2b k2c k2d k2l k3a k3b k3c k3d k3l
  replace ha := ha.later gv4
  replace hp1 := hp1.later gv4
  replace hp2 := hp2.later gv4
  replace hp3 := hp3.later gv4
  replace K := K.later gv4
  replace M1 := M1.later gv4
  replace M2 := M2.later gv4
  replace U1 := U1.later gv4
  replace U2 := U2.later gv4
  replace G := below_trans G gv4
  clear gv4
  obtain ⟨k0a, k0b, k0c, k0d⟩ := id ha
  have k0l := ha.lt
  simp only [Nat.zero_add] at k0b k0c k0d
  obtain ⟨k1a, k1b, k1c, k1d⟩ := id hp1
  have k1l := hp1.lt
  simp only [Nat.zero_add] at k1b k1c k1d
  obtain ⟨k2a, k2b, k2c, k2d⟩ := id hp2
  have k2l := hp2.lt
  simp only [Nat.zero_add] at k2b k2c k2d
  obtain ⟨k3a, k3b, k3c, k3d⟩ := id hp3
  have k3l := hp3.lt
  simp only [Nat.zero_add] at k3b k3c k3d
  obtain ⟨k4a, k4b, k4c, k4d⟩ := id hp4
  have k4l := hp4.lt
  simp only [Nat.zero_add] at k4b k4c k4d
  clear M1 M2 U1 U2
  go_wp2_with (first
    | (go_at_call 20; refine (N _ _).mono ?_; rintro e wc ⟨rfl, rfl⟩)
    | (go_at_call 21; refine (K _ (Below.refl _ _)).mono ?_; rintro e wc ⟨rfl, bc⟩))
  go_ret
  exact ⟨rfl, below_trans G bc⟩
end Go.Proofs.YtnpdecbgakgbgaaGreatDoor
