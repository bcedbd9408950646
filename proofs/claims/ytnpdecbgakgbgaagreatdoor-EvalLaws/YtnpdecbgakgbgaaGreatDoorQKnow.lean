/-
  What must come: longstoplaw07.knows; on its road eval.Function at 'length' and one Text.
-/
import Derived.Test.YtnpdecbgakgbgaaGreatDoorQBin
import Derived.Test.YtnpdecbgakgbgaaGreatDoorMSQFun0
import Derived.Test.YtnpdecbgakgbgaaGreatDoorQCall
import Derived.Deep.Cut
namespace Go.Proofs.YtnpdecbgakgbgaaGreatDoor
open Go.RowKit Go.Shelf
attribute [local go_sem] cell?_more frozen?_more setCell_more more_lt more_more more_drew more_drewN setCell_drewN alloc_drewN cell?_drawTo frozen?_drawTo heap_drawTo setCell_drawTo alloc_drawTo drewN_drawTo drew_drawTo drawTo_drewN drawTo_drew drawTo_drawTo more_drawTo

set_option maxHeartbeats 1000000 in
theorem isf_length (w : World) : Calls Tryz.prog 69 #[.string ⟨#[108, 101, 110, 103, 116, 104]⟩, .int .i64 1] w fun e w' => e = .returned (.bool true) ∧ Below w.heap.size w w' := by
  go_enter Tryz.func69, Tryz.ntmps69
  go_wp2
  all_goals go_ret
  all_goals exact ⟨rfl, Below.refl _ _⟩

set_option maxHeartbeats 1000000 in
theorem fun_length (ao : Option Addr) (cap : Nat) (rk rn rm re : Int) (rb : ByteArray) (w : World) (A : Tells 68 #[.slice ao 1 cap] w (.bool true)) (I : Tells 69 #[.string ⟨#[108, 101, 110, 103, 116, 104]⟩, .int .i64 1] w (.bool true))
    (C : Tells 71 #[.slice ao 1 cap, va 0 0 0 ⟨#[]⟩] w (.bool false)) (F : Tells 72 #[.string ⟨#[108, 101, 110, 103, 116, 104]⟩, .slice ao 1 cap] w (.tuple #[va rk rn rm rb, .int .i64 re])) :
    Calls Tryz.prog 23 #[.string ⟨#[108, 101, 110, 103, 116, 104]⟩, .slice ao 1 cap] w fun e w' => e = .returned (.tuple #[va rk rn rm rb, .int .i64 re]) ∧ Below w.heap.size w w' := by
  obtain ⟨w0, hw0, bxr, Bw⟩ := res_box w
  go_enter Tryz.func23, Tryz.ntmps23
  go_upto_region 1 with fail
  rw [← hw0]
  clear hw0
  have B0 : Below w0.heap.size w0 w0 := Below.refl _ _
  go_wp2_with fail
  refine (A _ (below_trans Bw B0)).mono ?_
  rintro e w1 ⟨rfl, c⟩
  have B1 := below_trans B0 c
  clear c
  go_wp2_with fail
  refine (I _ (below_trans Bw B1)).mono ?_
  rintro e w2 ⟨rfl, c⟩
  have B2 := below_trans B1 c
  clear c
  go_wp2_with fail
  refine (C _ (below_trans Bw B2)).mono ?_
  rintro e w3 ⟨rfl, c⟩
  have B3 := below_trans B2 c
  clear c
  go_wp2_with fail
  refine (F _ (below_trans Bw B3)).mono ?_
  rintro e w4 ⟨rfl, c⟩
  have B4 := below_trans B3 c
  clear c
  have br := bxr.later B4
  obtain ⟨r0, r1, r2, r3⟩ := br.at4
  dsimp only [nul] at r0 r1 r2 r3
  simp only [Nat.zero_add] at r1 r2 r3
  have f0 := br.free 0
  have f1 := br.free 1
  have f2 := br.free 2
  have f3 := br.free 3
  have lt1 := br.lt
  have Be := below_trans Bw B4
  go_wp2
  refine bodyPost_ret_by (v := .tuple #[va rk rn rm rb, .int .i64 re]) ?_ rfl ⟨rfl, ?_⟩
  · simp [results, Tryz.results23, go_sem, r0, r1, r2, r3]
  · exact (Be.setCell (p := ⟨w.heap.size, 0, none⟩) (Nat.le_refl _) (.int .i64 rk) |>.setCell (p := ⟨w.heap.size, 1, none⟩) (Nat.le_refl _) (.int .i64 rn) |>.setCell (p := ⟨w.heap.size, 2, none⟩) (Nat.le_refl _) (.int .i64 rm) |>.setCell (p := ⟨w.heap.size, 3, none⟩) (Nat.le_refl _) (.string rb))

theorem qnum7_any (n : Int) (w : World) : Calls Tryz.prog 20 #[.int .i64 n] w fun e w' => e = .returned (.int .i64 n) ∧ w = w' := by
  go_enter Tryz.func20, Tryz.ntmps20
  go_wp2
  go_ret
  exact ⟨rfl, rfl⟩

theorem qints7_any (n : Int) (w : World) : Calls Tryz.prog 67 #[.int .i64 n] w fun e w' => e = .returned (va 1 n 0 ⟨#[]⟩) ∧ Grew w w' := by
  go_enter Tryz.func67, Tryz.ntmps67
  go_wp2
  refine bodyPost_ret_by (v := va 1 n 0 ⟨#[]⟩) ?_ rfl ⟨rfl, ?_⟩
  · simp [results, Tryz.results67, go_sem]
  · repeat (first | exact Grew.refl _ | apply Grew.drew | apply Grew.drewN | apply Grew.alloc | apply Grew.more)

theorem vr_of {v : Va} (h : vok Lib.validD v) : vr v = true := (vr_iff v).2 h
theorem know1 : binR 7 (vI 1) (vD 30 1) = (vD 333333 6, 0) := by
  have h1 : vr (vI 1) = true := vr_of (by simp [vok, vI])
  have h2 : vr (vD 30 1) = true := vr_of (by simp [vok, vD])
  unfold binR
  rw [if_neg (by simp [h1, h2]), if_neg (by decide), if_neg (by simp [vI, vD]), if_neg (by simp [vI, vD]), if_pos (by simp [isn, vI, vD])]
  unfold numsR
  rw [if_neg (by decide), if_neg (by decide), if_neg (by decide), if_pos rfl, if_neg (by simp [vD])]
  rfl
theorem know2 : binR 17 nul (vB false) = (vB false, 0) := by
  have h1 : vr nul = true := vr_of (by simp [vok, nul])
  have h2 : vr (vB false) = true := vr_of (by simp [vok, vB])
  have t1 : tB nul = true := by
    show (vr nul && _) = true
    rw [h1]; rfl
  have t2 : tB (vB false) = true := by
    show (vr (vB false) && _) = true
    rw [h2]; rfl
  have n1 : tN nul = 2 := by
    unfold tN truN
    rw [if_neg (by simp [nul])]
  have n2 : tN (vB false) = 0 := by
    unfold tN truN
    rw [if_pos ⟨h2, rfl⟩]; rfl
  unfold binR
  rw [if_neg (by simp [h1, h2]), if_pos (.inl rfl)]
  unfold truR
  rw [t1, t2, n1, n2]
  rfl
theorem vr_abc : vr ⟨3, 0, 0, [97, 98, 99]⟩ = true := vr_of (by
  have : Lib.validD [97, 98, 99] = true := by kernel_rfl
  simp [vok, this])

set_option maxHeartbeats 4000000 in
theorem knows7_any (w : World) (hT : Tabs w) (hP : Pw w) : Calls Tryz.prog 21 #[] w fun e w' => e = .returned (.bool true) ∧ Below w.heap.size w w' := by
  have K1 : Tells 17 #[.int .i64 7, va 1 1 0 ⟨#[]⟩, va 2 30 1 ⟨#[]⟩] w (.tuple #[va 2 333333 6 ⟨#[]⟩, .int .i64 0]) := fun W h => by
    have := qbin_any 7 (vI 1) (vD 30 1) W (hT.later h) (hP.below h) ⟨⟨by decide, by decide⟩, ⟨by decide, by decide⟩⟩ ⟨⟨by decide, by decide⟩, ⟨by decide, by decide⟩⟩
    rw [know1] at this
    exact this
  have K2 : Tells 17 #[.int .i64 17, va 0 0 0 ⟨#[]⟩, va 4 0 0 ⟨#[]⟩] w (.tuple #[va 4 0 0 ⟨#[]⟩, .int .i64 0]) := fun W h => by
    have := qbin_any 17 nul (vB false) W (hT.later h) (hP.below h) ⟨⟨by decide, by decide⟩, ⟨by decide, by decide⟩⟩ ⟨⟨by decide, by decide⟩, ⟨by decide, by decide⟩⟩
    rw [know2] at this
    exact this
  have K3 : ∀ (bl cap : Nat) (W : World), Below w.heap.size w W → At4 W bl 0 ⟨3, 0, 0, [97, 98, 99]⟩ →
      Calls Tryz.prog 23 #[.string ⟨#[108, 101, 110, 103, 116, 104]⟩, .slice (some ⟨bl, 0, none⟩) 1 cap] W fun e w' => e = .returned (.tuple #[va 1 3 0 ⟨#[]⟩, .int .i64 0]) ∧ Below W.heap.size W w' := by
    intro bl cap W h h4
    have hv : Vs W (some ⟨bl, 0, none⟩) [⟨3, 0, 0, [97, 98, 99]⟩] := fun _ => ⟨bl, 0, rfl, fun i hi => by
      have : i = 0 := by simpa using hi
      subst this
      exact h4⟩
    refine fun_length _ _ _ _ _ _ _ W (fun W' h' => ?_) (fun W' _ => isf_length W') (fun W' h' => ?_) (fun W' h' => ?_)
    · have := qall_any (some ⟨bl, 0, none⟩) cap [⟨3, 0, 0, [97, 98, 99]⟩] W' ((hT.later h).later h') (hv.later h') (by decide)
      rwa [show ([⟨3, 0, 0, [97, 98, 99]⟩] : List Va).all vr = true by rw [List.all_cons, vr_abc]; rfl] at this
    · have := qcont_any (some ⟨bl, 0, none⟩) cap [⟨3, 0, 0, [97, 98, 99]⟩] W' (hv.later h') (by decide)
      rwa [show ([⟨3, 0, 0, [97, 98, 99]⟩] : List Va).any zq = false by rfl] at this
    · obtain ⟨c0, c1, c2, c3⟩ := h4.later h'
      exact called_length bl 0 cap 0 0 [97, 98, 99] W' (h4.later h').lt c0 c1 c2 c3
  have H1 := fun W => qints7_any 1 W
  have N := fun n W => qnum7_any n W
  clear hT hP
  have G : Below w.heap.size w w := Below.refl _ _
  go_enter Tryz.func21, Tryz.ntmps21
  go_upto_region 1 with fail
  go_cut [1, 2] from 7 (fun s0 s1 wx => ∃ p : Nat, s0 = .pointer (some ⟨p, 0, none⟩) ∧ s1 = .int .i64 0 ∧ At4 wx p 0 ⟨2, 333333, 6, []⟩ ∧ Below w.heap.size w wx)
  case first =>
    clear K2 K3 N
    go_wp2_with (first
      | (go_at_call 67; refine (H1 _).mono ?_; rintro e wc ⟨rfl, osc, nc, rfl⟩)
      | (go_at_call 17; refine (K1 _ (Grown.below (by repeat (first | assumption | exact Grown.refl _ | apply Grown.drew | apply Grown.drewN | apply Grown.alloc | apply Grown.more | apply Grown.drawTo)))).mono ?_; rintro e wc ⟨rfl, bc⟩; obtain ⟨osc, dc, rfl⟩ := wide bc; clear bc))
    all_goals go_meet
    all_goals exact ⟨_, rfl, rfl, ⟨by simp (maxDischargeDepth := 12) [go_sem], by simp (maxDischargeDepth := 12) [go_sem], by simp (maxDischargeDepth := 12) [go_sem], by simp (maxDischargeDepth := 12) [go_sem]⟩, Grown.below (by repeat (first | assumption | exact Grown.refl _ | apply Grown.drew | apply Grown.drewN | apply Grown.alloc | apply Grown.more | apply Grown.drawTo))⟩
  rename World => v1
  obtain ⟨p1, rfl, rfl, hp1, gv1⟩ := hcut
  replace K1 := K1.later gv1
  replace K2 := K2.later gv1
  replace G := below_trans G gv1
  clear gv1
  go_upto_region 2 with fail
  obtain ⟨k0a, k0b, k0c, k0d⟩ := id hp1
  have k0l := hp1.lt
  simp only [Nat.zero_add] at k0b k0c k0d
  go_cut [3, 4] from 7 (fun s0 s1 wx => ∃ p : Nat, s0 = .pointer (some ⟨p, 0, none⟩) ∧ s1 = .int .i64 0 ∧ At4 wx p 0 ⟨4, 0, 0, []⟩ ∧ Below v1.heap.size v1 wx)
  case first =>
    clear K1 K3 N
    go_wp2_with (first
      | (go_at_call 17; refine (K2 _ (Grown.below (by repeat (first | assumption | exact Grown.refl _ | apply Grown.drew | apply Grown.drewN | apply Grown.alloc | apply Grown.more | apply Grown.drawTo)))).mono ?_; rintro e wc ⟨rfl, bc⟩; obtain ⟨osc, dc, rfl⟩ := wide bc; clear bc))
    all_goals go_meet
    all_goals exact ⟨_, rfl, rfl, ⟨by simp (maxDischargeDepth := 12) [go_sem], by simp (maxDischargeDepth := 12) [go_sem], by simp (maxDischargeDepth := 12) [go_sem], by simp (maxDischargeDepth := 12) [go_sem]⟩, Grown.below (by repeat (first | assumption | exact Grown.refl _ | apply Grown.drew | apply Grown.drewN | apply Grown.alloc | apply Grown.more | apply Grown.drawTo))⟩
  rename World => v2
  obtain ⟨p2, rfl, rfl, hp2, gv2⟩ := hcut
  clear k0a k0b k0c k0d k0l
  replace hp1 := hp1.later gv2
  replace K1 := K1.later gv2
  replace K2 := K2.later gv2
  replace G := below_trans G gv2
  clear gv2
  go_upto_region 3 with fail
  obtain ⟨k0a, k0b, k0c, k0d⟩ := id hp1
  have k0l := hp1.lt
  simp only [Nat.zero_add] at k0b k0c k0d
  obtain ⟨k1a, k1b, k1c, k1d⟩ := id hp2
  have k1l := hp2.lt
  simp only [Nat.zero_add] at k1b k1c k1d
  go_cut [5, 6] from 7 (fun s0 s1 wx => ∃ p : Nat, s0 = .pointer (some ⟨p, 0, none⟩) ∧ s1 = .int .i64 0 ∧ At4 wx p 0 ⟨1, 3, 0, []⟩ ∧ Below v2.heap.size v2 wx)
  case first =>
    clear K1 K2 N
    go_wp2_with (first
      | (go_at_call 23; refine (K3 _ _ _ (below_trans G (Grown.below (by repeat (first | assumption | exact Grown.refl _ | apply Grown.drew | apply Grown.drewN | apply Grown.alloc | apply Grown.more | apply Grown.drawTo)))) ⟨by simp (maxDischargeDepth := 12) [go_sem], by simp (maxDischargeDepth := 12) [go_sem], by simp (maxDischargeDepth := 12) [go_sem], by simp (maxDischargeDepth := 12) [go_sem]⟩).mono ?_; rintro e wc ⟨rfl, bc⟩; obtain ⟨osc, dc, rfl⟩ := wide bc; clear bc))
    all_goals go_meet
    all_goals exact ⟨_, rfl, rfl, ⟨by simp (maxDischargeDepth := 12) [go_sem], by simp (maxDischargeDepth := 12) [go_sem], by simp (maxDischargeDepth := 12) [go_sem], by simp (maxDischargeDepth := 12) [go_sem]⟩, Grown.below (by repeat (first | assumption | exact Grown.refl _ | apply Grown.drew | apply Grown.drewN | apply Grown.alloc | apply Grown.more | apply Grown.drawTo))⟩
  rename World => v3
  obtain ⟨p3, rfl, rfl, hp3, gv3⟩ := hcut
  clear k0a k0b k0c k0d k0l k1a k1b k1c k1d k1l
  replace hp1 := hp1.later gv3
  replace hp2 := hp2.later gv3
  replace K1 := K1.later gv3
  replace K2 := K2.later gv3
  replace G := below_trans G gv3
  clear gv3
  obtain ⟨k0a, k0b, k0c, k0d⟩ := id hp1
  have k0l := hp1.lt
  simp only [Nat.zero_add] at k0b k0c k0d
  obtain ⟨k1a, k1b, k1c, k1d⟩ := id hp2
  have k1l := hp2.lt
  simp only [Nat.zero_add] at k1b k1c k1d
  obtain ⟨k2a, k2b, k2c, k2d⟩ := id hp3
  have k2l := hp3.lt
  simp only [Nat.zero_add] at k2b k2c k2d
  clear K1 K2 K3 H1
  go_wp2_with (go_at_call 20; refine (N _ _).mono ?_; rintro e wc ⟨rfl, rfl⟩)
  go_ret
  exact ⟨rfl, G⟩
end Go.Proofs.YtnpdecbgakgbgaaGreatDoor
