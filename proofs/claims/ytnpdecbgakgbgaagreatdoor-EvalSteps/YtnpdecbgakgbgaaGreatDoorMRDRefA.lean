/-
  The document's wide numbers: rounded.
  decimal.Rescale in one contract, and what it reckons: exact to a greater scale, as near as can be to a lesser one.
  The document's answers: Rescale.
-/
import Derived.Test.YtnpdecbgakgbgaaGreatDoorMQDParts
import Derived.Deep.RegionWith
import Derived.Test.YtnpdecbgakgbgaaGreatDoorDDivs
import Derived.Test.YtnpdecbgakgbgaaGreatDoorMDQTru
import Derived.Test.YtnpdecbgakgbgaaGreatDoorMNDRef8
import Derived.Test.YtnpdecbgakgbgaaGreatDoorMGQUn
import Derived.Deep.RegionHeld2
namespace Go.Proofs.YtnpdecbgakgbgaaGreatDoor
open Go.RowKit
attribute [local go_sem] cell?_more frozen?_more setCell_more more_lt more_more more_drew more_drewN setCell_drewN alloc_drewN

section
variable (W : World) (l1 l2 l3 : List Obj) (o1 o2 o3 : Obj) (n i : Nat) (v : Value)
theorem ltX (h : n < W.heap.size) : n < (((more W l1).alloc o1).alloc o2).heap.size := by have := more_lt h l1; simp; omega
theorem ltB : (more W l1).heap.size < (((more W l1).alloc o1).alloc o2).heap.size := by simp; omega
theorem yc (h : n < W.heap.size) : ((more (((more W l1).alloc o1).alloc o2) l2).alloc o3).cell? ⟨n, i, none⟩ = W.cell? ⟨n, i, none⟩ :=
  (World.cell?_alloc_past o3 n i (more_lt (ltX W l1 o1 o2 n h) l2)).trans ((cell?_more l2 n i _ (ltX W l1 o1 o2 n h)).trans ((World.cell?_alloc_past o2 n i (by have := more_lt h l1; simp; omega)).trans (cellMA l1 o1 n i W h)))
theorem yf (h : n < W.heap.size) : ((more (((more W l1).alloc o1).alloc o2) l2).alloc o3).frozen? ⟨n, i, none⟩ = W.frozen? ⟨n, i, none⟩ :=
  (World.frozen?_alloc_past o3 n i (more_lt (ltX W l1 o1 o2 n h) l2)).trans ((frozen?_more l2 n i _ (ltX W l1 o1 o2 n h)).trans ((World.frozen?_alloc_past o2 n i (by have := more_lt h l1; simp; omega)).trans (frozenMA l1 o1 n i W h)))
theorem ys (h : n < W.heap.size) : ((more (((more W l1).alloc o1).alloc o2) l2).alloc o3).setCell ⟨n, i, none⟩ v = (more (((more (W.setCell ⟨n, i, none⟩ v) l1).alloc o1).alloc o2) l2).alloc o3 := by
  rw [World.setCell_alloc_past o3 n i v (more_lt (ltX W l1 o1 o2 n h) l2), setCell_more l2 n i v _ (ltX W l1 o1 o2 n h), World.setCell_alloc_past o2 n i v (by have := more_lt h l1; simp; omega), setMA l1 o1 n i v W h]
theorem ycB : ((more (((more W l1).alloc o1).alloc o2) l2).alloc o3).cell? ⟨(more W l1).heap.size, i, none⟩ = ((more W l1).alloc o1).cell? ⟨(more W l1).heap.size, i, none⟩ :=
  (World.cell?_alloc_past o3 _ i (more_lt (ltB W l1 o1 o2) l2)).trans ((cell?_more l2 _ i _ (ltB W l1 o1 o2)).trans (World.cell?_alloc_past o2 _ i (by simp)))
theorem yfB : ((more (((more W l1).alloc o1).alloc o2) l2).alloc o3).frozen? ⟨(more W l1).heap.size, i, none⟩ = ((more W l1).alloc o1).frozen? ⟨(more W l1).heap.size, i, none⟩ :=
  (World.frozen?_alloc_past o3 _ i (more_lt (ltB W l1 o1 o2) l2)).trans ((frozen?_more l2 _ i _ (ltB W l1 o1 o2)).trans (World.frozen?_alloc_past o2 _ i (by simp)))
theorem ysB : ((more (((more W l1).alloc o1).alloc o2) l2).alloc o3).setCell ⟨(more W l1).heap.size, i, none⟩ v = (more ((((more W l1).alloc o1).setCell ⟨(more W l1).heap.size, i, none⟩ v).alloc o2) l2).alloc o3 := by
  rw [World.setCell_alloc_past o3 _ i v (more_lt (ltB W l1 o1 o2) l2), setCell_more l2 _ i v _ (ltB W l1 o1 o2), World.setCell_alloc_past o2 _ i v (by simp)]
theorem ltY (h : n < W.heap.size) : n < ((more (((more W l1).alloc o1).alloc o2) l2).alloc o3).heap.size := by have := more_lt (ltX W l1 o1 o2 n h) l2; simp; omega
theorem ltYB : (more W l1).heap.size < ((more (((more W l1).alloc o1).alloc o2) l2).alloc o3).heap.size := by have := more_lt (ltB W l1 o1 o2) l2; simp; omega
theorem yyc (h : n < W.heap.size) : (more ((more (((more W l1).alloc o1).alloc o2) l2).alloc o3) l3).cell? ⟨n, i, none⟩ = W.cell? ⟨n, i, none⟩ := (cell?_more l3 n i _ (ltY W l1 l2 o1 o2 o3 n h)).trans (yc W l1 l2 o1 o2 o3 n i h)
theorem yyf (h : n < W.heap.size) : (more ((more (((more W l1).alloc o1).alloc o2) l2).alloc o3) l3).frozen? ⟨n, i, none⟩ = W.frozen? ⟨n, i, none⟩ := (frozen?_more l3 n i _ (ltY W l1 l2 o1 o2 o3 n h)).trans (yf W l1 l2 o1 o2 o3 n i h)
theorem yys (h : n < W.heap.size) : (more ((more (((more W l1).alloc o1).alloc o2) l2).alloc o3) l3).setCell ⟨n, i, none⟩ v = more ((more (((more (W.setCell ⟨n, i, none⟩ v) l1).alloc o1).alloc o2) l2).alloc o3) l3 := by
  rw [setCell_more l3 n i v _ (ltY W l1 l2 o1 o2 o3 n h), ys W l1 l2 o1 o2 o3 n i v h]
theorem yycB : (more ((more (((more W l1).alloc o1).alloc o2) l2).alloc o3) l3).cell? ⟨(more W l1).heap.size, i, none⟩ = ((more W l1).alloc o1).cell? ⟨(more W l1).heap.size, i, none⟩ := (cell?_more l3 _ i _ (ltYB W l1 l2 o1 o2 o3)).trans (ycB W l1 l2 o1 o2 o3 i)
theorem yyfB : (more ((more (((more W l1).alloc o1).alloc o2) l2).alloc o3) l3).frozen? ⟨(more W l1).heap.size, i, none⟩ = ((more W l1).alloc o1).frozen? ⟨(more W l1).heap.size, i, none⟩ := (frozen?_more l3 _ i _ (ltYB W l1 l2 o1 o2 o3)).trans (yfB W l1 l2 o1 o2 o3 i)
theorem yysB : (more ((more (((more W l1).alloc o1).alloc o2) l2).alloc o3) l3).setCell ⟨(more W l1).heap.size, i, none⟩ v = more ((more ((((more W l1).alloc o1).setCell ⟨(more W l1).heap.size, i, none⟩ v).alloc o2) l2).alloc o3) l3 := by
  rw [setCell_more l3 _ i v _ (ltYB W l1 l2 o1 o2 o3), ysB W l1 l2 o1 o2 o3 i v]
end
attribute [local go_sem high] cellMA frozenMA setMA yc yf ys ycB yfB ysB yyc yyf yys yycB yyfB yysB

theorem rnd_is (va vb : Nat) : rnd va vb = if vb < 2 * (va % vb) ∨ (2 * (va % vb) = vb ∧ va / vb % 2 = 1) then va / vb + 1 else va / vb := rfl

set_option maxRecDepth 5000 in
set_option maxHeartbeats 8000000 in
theorem rrounded_any (a0 a1 a2 a3 a4 a5 b0 b1 b2 b3 b4 b5 : Nat) (sa sb : Bool) (w : World) (ha : Low6 a0 a1 a2 a3 a4 a5) (hb : Low6 b0 b1 b2 b3 b4 b5) (fa : val6 a0 a1 a2 a3 a4 a5 < 340282366920938463463374607431768211456) (fb : val6 b0 b1 b2 b3 b4 b5 < 340282366920938463463374607431768211456) (hb0 : 0 < val6 b0 b1 b2 b3 b4 b5) :
    Calls Tryz.prog 137 #[wv a0 a1 a2 a3 a4 a5 sa, wv b0 b1 b2 b3 b4 b5 sb] w fun e w' => ∃ o0 o1 o2 o3 o4 o5 : Nat, e = .returned (wv o0 o1 o2 o3 o4 o5 sa) ∧ Low6 o0 o1 o2 o3 o4 o5 ∧ Hid (val6 o0 o1 o2 o3 o4 o5 = rnd (val6 a0 a1 a2 a3 a4 a5) (val6 b0 b1 b2 b3 b4 b5)) ∧ Grew w w' := by
  have PT := fun W => parts_any a0 a1 a2 a3 a4 a5 b0 b1 b2 b3 b4 b5 sa sb W ha hb fa fb hb0
  have HB : Hid (Low6 b0 b1 b2 b3 b4 b5) := hb
  have one : Low6 1 0 0 0 0 0 := ⟨by decide, by decide, by decide, by decide, by decide, by decide⟩
  have ON1 := fun W => wof_any 1 1 0 1 W (by decide) (by decide) rfl rfl rfl
  obtain ⟨va, hva⟩ : ∃ v, v = val6 a0 a1 a2 a3 a4 a5 := ⟨_, rfl⟩
  obtain ⟨vb, hvb⟩ : ∃ v, v = val6 b0 b1 b2 b3 b4 b5 := ⟨_, rfl⟩
  have HVB : Hid (val6 b0 b1 b2 b3 b4 b5 = vb) := hvb.symm
  rw [← hva, ← hvb] at PT
  rw [← hva] at fa
  rw [← hvb] at fb hb0
  rw [← hva, ← hvb]
  have HM : Hid (va % vb < vb ∧ va / vb ≤ va ∧ va < 340282366920938463463374607431768211456 ∧ vb < 340282366920938463463374607431768211456) := ⟨Nat.mod_lt _ hb0, Nat.div_le_self _ _, fa, fb⟩
  have HRND : Hid (rnd va vb = if vb < 2 * (va % vb) ∨ (2 * (va % vb) = vb ∧ va / vb % 2 = 1) then va / vb + 1 else va / vb) := rnd_is va vb
  generalize rnd va vb = rv at HRND ⊢
  clear ha hb hva hvb fa fb hb0
  go_enter Tryz.func137, Tryz.ntmps137
  go_wp2_with fail
  refine (PT _).mono ?_
  rintro e w1 ⟨q0, q1, q2, q3, q4, q5, r0, r1, r2, r3, r4, r5, rfl, lq, lr, hq, hr, os1, n1, rfl⟩
  clear PT
  go_wp2_with fail
  refine (plus_any r0 r1 r2 r3 r4 r5 r0 r1 r2 r3 r4 r5 false false _ lr lr).mono ?_
  rintro e w2 ⟨t0, t1, t2, t3, t4, t5, c1, rfl, lt, ht, os2, n2, rfl⟩
  have HT : Hid (val6 t0 t1 t2 t3 t4 t5 = 2 * (va % vb)) := by
    have h1 := hr.out
    have h2 := HM.out
    show val6 t0 t1 t2 t3 t4 t5 = _
    omega
  have L1 := fun W => less_any b0 b1 b2 b3 b4 b5 t0 t1 t2 t3 t4 t5 sb false W HB.out lt
  have L2 := fun W => less_any t0 t1 t2 t3 t4 t5 b0 b1 b2 b3 b4 b5 false sb W lt HB.out
  have AD := fun W => plus_any q0 q1 q2 q3 q4 q5 1 0 0 0 0 0 false false W lq one
  rw [HVB.out, HT.out] at L1 L2
  have hq0 : q0 % 2 = va / vb % 2 := by
    have h1 := hq.out
    rw [← h1]; unfold val6; omega
  clear ht lt lr hr HT
  generalize va % vb = vr at *
  generalize va / vb = vq at *
  by_cases h1 : vb < 2 * vr
  · rw [show decide (vb < 2 * vr) = true by simp [h1]] at L1
    have HRV : Hid (rv = vq + 1) := by show rv = _; rw [HRND.out, if_pos (.inl h1)]
    clear L2 h1 HRND hq0 HVB HB
    go_wp2_with fail
    refine (L1 _).mono ?_
    rintro e w3 ⟨rfl, os3, n3, rfl⟩
    go_wp2_with fail
    go_region_with (first
      | (go_at_call 138; refine (ON1 _).mono ?_; rintro e w5 ⟨rfl, os5, n5, rfl⟩)
      | (go_at_call 186; refine (AD _).mono ?_; rintro e w6 ⟨o0, o1, o2, o3, o4, o5, c2, rfl, lo, ho, os6, n6, rfl⟩))
    all_goals go_wp2_with fail
    all_goals refine bodyPost_ret_by (v := wv o0 o1 o2 o3 o4 o5 sa) ?_ rfl ⟨o0, o1, o2, o3, o4, o5, rfl, lo, ?_, (by repeat (first | exact Grew.refl _ | apply Grew.drew | apply Grew.drewN | apply Grew.alloc | apply Grew.more))⟩
    all_goals first
      | (simp [results, Tryz.results137, go_sem]; done)
      | (show val6 _ _ _ _ _ _ = rv
         have h1 := hq.out
         have h2 := HM.out
         have h3 := HRV.out
         unfold val6 at h1 ho ⊢
         omega)
  · rw [show decide (vb < 2 * vr) = false by simp; omega] at L1
    by_cases h2 : 2 * vr < vb
    · rw [show decide (2 * vr < vb) = true by simp [h2]] at L2
      have HRV : Hid (rv = vq) := by show rv = _; rw [HRND.out, if_neg (by omega)]
      clear h1 h2 HRND hq0 HVB HB
      go_wp2_with fail
      refine (L1 _).mono ?_
      rintro e w3 ⟨rfl, os3, n3, rfl⟩
      go_wp2_with fail
      refine (L2 _).mono ?_
      rintro e w4 ⟨rfl, os4, n4, rfl⟩
      go_wp2_with fail
      refine bodyPost_ret_by (v := wv q0 q1 q2 q3 q4 q5 sa) ?_ rfl ⟨q0, q1, q2, q3, q4, q5, rfl, lq, (show Hid (val6 q0 q1 q2 q3 q4 q5 = rv) from by show val6 q0 q1 q2 q3 q4 q5 = rv; rw [hq.out, HRV.out]), (by repeat (first | exact Grew.refl _ | apply Grew.drew | apply Grew.drewN | apply Grew.alloc | apply Grew.more))⟩
      simp [results, Tryz.results137, go_sem]
    · rw [show decide (2 * vr < vb) = false by simp; omega] at L2
      by_cases h3 : vq % 2 = 1
      · have HRV : Hid (rv = vq + 1) := by show rv = _; rw [HRND.out, if_pos (.inr ⟨by omega, h3⟩)]
        have hqi : (q0 : Int) % 2 = 1 := by omega
        clear h1 h2 h3 HRND hq0 HVB HB
        go_wp2_with fail
        refine (L1 _).mono ?_
        rintro e w3 ⟨rfl, os3, n3, rfl⟩
        go_wp2_with fail
        refine (L2 _).mono ?_
        rintro e w4 ⟨rfl, os4, n4, rfl⟩
        go_wp2_with fail
        go_region_with (first
          | (go_at_call 138; refine (ON1 _).mono ?_; rintro e w5 ⟨rfl, os5, n5, rfl⟩)
          | (go_at_call 186; refine (AD _).mono ?_; rintro e w6 ⟨o0, o1, o2, o3, o4, o5, c2, rfl, lo, ho, os6, n6, rfl⟩))
        all_goals go_wp2_with fail
        all_goals refine bodyPost_ret_by (v := wv o0 o1 o2 o3 o4 o5 sa) ?_ rfl ⟨o0, o1, o2, o3, o4, o5, rfl, lo, ?_, (by repeat (first | exact Grew.refl _ | apply Grew.drew | apply Grew.drewN | apply Grew.alloc | apply Grew.more))⟩
        all_goals first
          | (simp [results, Tryz.results137, go_sem]; done)
          | (show val6 _ _ _ _ _ _ = rv
             have h1 := hq.out
             have h2 := HM.out
             have h3 := HRV.out
             unfold val6 at h1 ho ⊢
             omega)
      · have HRV : Hid (rv = vq) := by show rv = _; rw [HRND.out, if_neg (by omega)]
        have hqi : (q0 : Int) % 2 = 0 := by omega
        clear h1 h2 h3 HRND hq0 HVB HB
        go_wp2_with fail
        refine (L1 _).mono ?_
        rintro e w3 ⟨rfl, os3, n3, rfl⟩
        go_wp2_with fail
        refine (L2 _).mono ?_
        rintro e w4 ⟨rfl, os4, n4, rfl⟩
        go_wp2_with fail
        refine bodyPost_ret_by (v := wv q0 q1 q2 q3 q4 q5 sa) ?_ rfl ⟨q0, q1, q2, q3, q4, q5, rfl, lq, (show Hid (val6 q0 q1 q2 q3 q4 q5 = rv) from by show val6 q0 q1 q2 q3 q4 q5 = rv; rw [hq.out, HRV.out]), (by repeat (first | exact Grew.refl _ | apply Grew.drew | apply Grew.drewN | apply Grew.alloc | apply Grew.more))⟩
        simp [results, Tryz.results137, go_sem]
end Go.Proofs.YtnpdecbgakgbgaaGreatDoor

namespace Go.Proofs.YtnpdecbgakgbgaaGreatDoor
open Go.RowKit

def rU (u s t : Int) : Int := if (rightS s && rightS t) = true then nz (dq u s 1 0 t) else 0
def rS (u s t : Int) : Int := if (rightS s && rightS t) = true then fs (dq u s 1 0 t) t else 0
def rE (u s t : Int) : Int := if (rightS s && rightS t) = true then nErr (dq u s 1 0 t) else 1

theorem rescale_any (u s t : Int) (w : World) (hP : Pw w) (a0 : -9223372036854775808 ≤ u) (a1 : u ≤ 9223372036854775807) :
    Calls Tryz.prog 190 #[dv u s, .int .i64 t] w fun e w' => e = .returned (.tuple #[dv (rU u s t) (rS u s t), .int .i64 (rE u s t)]) ∧ Grew w w' := by
  unfold rU rS rE
  by_cases h : (rightS s && rightS t) = true
  · rw [if_pos h, if_pos h, if_pos h]
    have h' := Bool.and_eq_true_iff.1 h
    exact rescale_good u s t w hP h'.1 h'.2 a0 a1
  · rw [if_neg h, if_neg h, if_neg h]
    exact rescale_bad u s t w (by simpa using h)

theorem rescale_ok (u s t : Int) (h : rE u s t = 0) : rightS s = true ∧ rightS t = true ∧ -9223372036854775808 ≤ dq u s 1 0 t ∧ dq u s 1 0 t ≤ 9223372036854775807 ∧ rU u s t = dq u s 1 0 t ∧ rS u s t = t := by
  unfold rE at h
  by_cases hr : (rightS s && rightS t) = true
  · rw [if_pos hr] at h
    have h' := Bool.and_eq_true_iff.1 hr
    unfold nErr at h
    by_cases hf : fits (dq u s 1 0 t) = true
    · have hb := (fits_iff _).1 hf
      refine ⟨h'.1, h'.2, hb.1, hb.2, ?_, ?_⟩
      · unfold rU nz; rw [if_pos hr, if_pos hf]
      · unfold rS fs; rw [if_pos hr, if_pos hf]
    · rw [if_neg hf] at h
      exact absurd h (by decide)
  · rw [if_neg hr] at h
    exact absurd h (by decide)

theorem rq_one (n : Int) : rq n 1 = n := by
  have : rq n 1 = sval (decide (n < 0)) (rnd n.natAbs 1) := by simp [rq]
  rw [this, rnd_one, sval_of]
theorem dq_up (u s t : Int) (h : s ≤ t) : dq u s 1 0 t = u * (10 ^ (t - s).toNat : Nat) := by
  unfold dq
  rw [if_pos (by omega), rq_one, Int.add_zero]
theorem dq_down (u s t : Int) (h : ¬ s ≤ t) : dq u s 1 0 t = rq u (10 ^ (s - t).toNat : Nat) := by
  unfold dq
  rw [if_neg (by omega), Int.one_mul, Int.add_zero]

/-- As near as can be. -/
theorem rq_near (n : Int) (P : Nat) (hP : 0 < P) : 2 * n ≤ 2 * (rq n P * P) + P ∧ 2 * (rq n P * P) ≤ 2 * n + P ∧ ((2 * n = 2 * (rq n P * P) + P ∨ 2 * (rq n P * P) = 2 * n + P) → rq n P % 2 = 0) := by
  have hq : rq n P = sval (decide (n < 0)) (rnd n.natAbs P) := by
    have e : decide ((P : Int) < 0) = false := by simp
    unfold rq
    rw [e, Int.natAbs_natCast]
    cases decide (n < 0) <;> rfl
  rw [hq]
  obtain ⟨k1, k2, k3⟩ := rnd_near n.natAbs P hP
  generalize rnd n.natAbs P = r at *
  have er : ((r * P : Nat) : Int) = (r : Int) * (P : Int) := Int.natCast_mul r P
  by_cases h : n < 0
  · have e1 : decide (n < 0) = true := by simpa using h
    rw [e1, sval_true, Int.neg_mul, ← er]
    generalize r * P = x at *
    refine ⟨by omega, by omega, fun hh => ?_⟩
    have := k3 (by omega)
    omega
  · have e1 : decide (n < 0) = false := by simpa using h
    rw [e1, sval_false, ← er]
    generalize r * P = x at *
    refine ⟨by omega, by omega, fun hh => ?_⟩
    have := k3 (by omega)
    omega
end Go.Proofs.YtnpdecbgakgbgaaGreatDoor

namespace Go.Proofs.YtnpdecbgakgbgaaGreatDoor
open Go.RowKit
attribute [local go_sem] cell?_more frozen?_more setCell_more more_lt more_more more_drew more_drewN setCell_drewN alloc_drewN
attribute [local go_sem high] cellMA frozenMA setMA cellMAM frozenMAM setMAM

theorem rq_pos (n : Int) (P : Nat) (h : 0 < P) : sval (decide (n < 0)) (rnd n.natAbs P) = rq n (P : Int) := by
  have h1 := rq_sval (decide (n < 0)) false n.natAbs P h
  rw [sval_of, sval_false] at h1
  rw [h1]
  cases decide (n < 0) <;> rfl

set_option maxHeartbeats 1000000 in
theorem rrescale_bad (u s t : Int) (w : World) (hr : (rightS s && rightS t) = false) :
    Calls Tryz.prog 76 #[dv u s, .int .i64 t] w fun e w' => e = .returned (dBad 1) ∧ Grew w w' := by
  have Ra := fun W => refRight_any u s W
  cases ha : rightS s
  · rw [ha] at Ra
    clear hr ha
    go_enter Tryz.func76, Tryz.ntmps76
    go_wp2_with (go_at_call 123; refine (Ra _).mono ?_; rintro e w' ⟨rfl, os, n, rfl⟩)
    refine bodyPost_ret_by (v := dBad 1) ?_ rfl ⟨rfl, (by repeat (first | exact Grew.refl _ | apply Grew.drew | apply Grew.drewN | apply Grew.alloc | apply Grew.more))⟩
    simp [results, Tryz.results76, go_sem]
  · rw [ha] at Ra hr
    have hb : rightS t = false := by simpa using hr
    rw [rightS_not] at hb
    clear hr ha
    by_cases h0 : t < 0
    · clear hb
      go_enter Tryz.func76, Tryz.ntmps76
      go_wp2_with (go_at_call 123; refine (Ra _).mono ?_; rintro e w' ⟨rfl, os, n, rfl⟩)
      refine bodyPost_ret_by (v := dBad 1) ?_ rfl ⟨rfl, (by repeat (first | exact Grew.refl _ | apply Grew.drew | apply Grew.drewN | apply Grew.alloc | apply Grew.more))⟩
      simp [results, Tryz.results76, go_sem]
    · have h6 : 6 < t := by omega
      clear hb
      go_enter Tryz.func76, Tryz.ntmps76
      go_wp2_with (go_at_call 123; refine (Ra _).mono ?_; rintro e w' ⟨rfl, os, n, rfl⟩)
      refine bodyPost_ret_by (v := dBad 1) ?_ rfl ⟨rfl, (by repeat (first | exact Grew.refl _ | apply Grew.drew | apply Grew.drewN | apply Grew.alloc | apply Grew.more))⟩
      simp [results, Tryz.results76, go_sem]

set_option maxRecDepth 5000 in
set_option maxHeartbeats 4000000 in
theorem rrescale_good (u s t : Int) (w : World) (hs : rightS s = true) (ht : rightS t = true) (u0 : -9223372036854775808 ≤ u) (u1 : u ≤ 9223372036854775807) :
    Calls Tryz.prog 76 #[dv u s, .int .i64 t] w fun e w' => e = .returned (dres (dq u s 1 0 t) t) ∧ Grew w w' := by
  have Ra := fun W => refRight_any u s W
  rw [hs] at Ra
  rw [rightS_iff] at hs ht
  have t0 : ¬ t < 0 := by omega
  have t6 : ¬ 6 < t := by omega
  by_cases hle : s ≤ t
  · have Sa := fun W => rscaled_any u s t W u0 u1 (by omega) (by omega) (by omega)
    have hd : at10 u s t = dq u s 1 0 t := by rw [dq_up _ _ _ hle]; rfl
    rw [hd] at Sa
    generalize dq u s 1 0 t = z at *
    clear hs ht hd u0 u1
    go_enter Tryz.func76, Tryz.ntmps76
    go_wp2_with (first
      | (go_at_call 123; refine (Ra _).mono ?_; rintro e w' ⟨rfl, os, n, rfl⟩)
      | (go_at_call 124; refine (Sa _).mono ?_; rintro e w1 ⟨p0, p1, p2, p3, p4, p5, rfl, lo1, hv1, bd1, os1, n1, rfl⟩)
      | (go_at_call 136; refine (rback_any p0 p1 p2 p3 p4 p5 _ _ _ lo1).mono ?_; rw [hv1.out]; rintro e w4 ⟨rfl, os4, n4, rfl⟩))
    refine bodyPost_ret_by (v := dres z t) ?_ rfl ⟨rfl, (by repeat (first | exact Grew.refl _ | apply Grew.drew | apply Grew.drewN | apply Grew.alloc | apply Grew.more))⟩
    simp [results, Tryz.results76, go_sem]
  · obtain ⟨k, hk⟩ : ∃ k : Nat, s - t = (k : Int) := ⟨(s - t).toNat, by omega⟩
    have d4 : IntKind.i64.wrap (s - t) = (k : Int) := by rw [IntKind.wrap_i64]; omega
    have hp1 : 10 ^ k ≤ 10 ^ 6 := Nat.pow_le_pow_right (by decide) (by omega)
    have hp0 : 0 < 10 ^ k := Nat.pow_pos (by decide)
    have hd : dq u s 1 0 t = rq u (10 ^ k : Nat) := by rw [dq_down _ _ _ hle, hk, Int.toNat_natCast]
    have Pk := fun W => power_any k W (by omega)
    obtain ⟨P, hP⟩ : ∃ P : Nat, P = 10 ^ k := ⟨_, rfl⟩
    rw [← hP] at Pk hd hp1 hp0
    have hv := rq_pos u P hp0
    rw [← hd] at hv
    have A := fun W => wof_any u _ _ _ W u0 u1 rfl rfl rfl
    have B := fun W => wof_any (P : Int) P _ _ W (by omega) (by omega) rfl rfl rfl
    have eP : decide ((P : Int) < 0) = false := by simp
    rw [eP] at B
    have la := low_of u.natAbs _ _ (by omega) rfl rfl
    have lb := low_of P _ _ (by omega) rfl rfl
    have R := fun W => rrounded_any _ _ _ _ _ _ _ _ _ _ _ _ (decide (u < 0)) false W la.1 lb.1 (by rw [la.2]; omega) (by rw [lb.2]; omega) (by rw [lb.2]; omega)
    rw [la.2, lb.2] at R
    have HV : Hid (sval (decide (u < 0)) (rnd u.natAbs P) = dq u s 1 0 t) := hv
    generalize dq u s 1 0 t = z at *
    generalize rnd u.natAbs P = rv at *
    generalize u.natAbs % 4294967296 = ra at *
    generalize u.natAbs / 4294967296 = qa at *
    generalize P % 4294967296 = rb at *
    generalize P / 4294967296 = qb at *
    clear la lb eP hp0 hp1 hP hk hs ht u0 u1 hd hv
    generalize (P : Int) = p at *
    have hlt : t < s := by omega
    go_enter Tryz.func76, Tryz.ntmps76
    go_wp2_with (go_at_call 123; refine (Ra _).mono ?_; rintro e w' ⟨rfl, os, n, rfl⟩)
    go_region_held2 (fun W => W.cell? ⟨w.heap.size, 0, none⟩ = some (.int .i64 u) ∧ W.cell? ⟨w.heap.size, 1, none⟩ = some (.int .i64 s)) (simp (maxDischargeDepth := 12) [go_sem])
      ((first
        | (go_at_call_of 138 (Value.int IntKind.i64 u); refine (A _).mono ?_; rintro e w' ⟨rfl, os1, n1, rfl⟩)
        | (go_at_call 138; refine (B _).mono ?_; rintro e w' ⟨rfl, os2, n2, rfl⟩)
        | (go_at_call 139; refine (Pk _).mono ?_; rintro e w' ⟨rfl, rfl⟩)
        | (go_at_call 137; refine (R _).mono ?_; rintro e w' ⟨o0, o1, o2, o3, o4, o5, rfl, lo, hv, os3, n3, rfl⟩)
        | (go_at_call 136; refine (rback_any o0 o1 o2 o3 o4 o5 _ _ _ lo).mono ?_; rw [hv.out, HV.out]; rintro e w4 ⟨rfl, os4, n4, rfl⟩)))
    all_goals go_wp2_with fail
    all_goals refine bodyPost_ret_by (v := dres z t) ?_ rfl ⟨rfl, (by repeat (first | exact Grew.refl _ | apply Grew.drew | apply Grew.drewN | apply Grew.alloc | apply Grew.more))⟩
    all_goals simp [results, Tryz.results76, go_sem]
end Go.Proofs.YtnpdecbgakgbgaaGreatDoor
