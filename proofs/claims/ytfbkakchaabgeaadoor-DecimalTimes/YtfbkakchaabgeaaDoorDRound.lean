/-
  The document's wide numbers: rounded.
-/
import Derived.Test.YtfbkakchaabgeaaDoorDParts
import Derived.Deep.RegionWith
namespace Go.Proofs.YtfbkakchaabgeaaDoor
open Go.RowKit
attribute [local go_sem] cell?_more frozen?_more setCell_more more_lt more_more more_drew more_drewN setCell_drewN alloc_drewN

section
variable (W : World) (l1 l2 l3 : List Obj) (o1 o2 o3 : Obj) (n i : Nat) (v : Value)
theorem ltX (h : n < W.heap.size) : n < (((more W l1).alloc o1).alloc o2).heap.size := by have := more_lt h l1; simp; omega
theorem ltB : (more W l1).heap.size < (((more W l1).alloc o1).alloc o2).heap.size := by simp; omega
theorem yc (h : n < W.heap.size) : ((more (((more W l1).alloc o1).alloc o2) l2).alloc o3).cell? ⟨n, i, none⟩ = W.cell? ⟨n, i, none⟩ :=
  (World.cell?_alloc_past o3 n i (more_lt (ltX W l1 o1 o2 n h) l2)).trans ((cell?_more l2 n i _ (ltX W l1 o1 o2 n h)).trans ((World.cell?_alloc_past o2 n i (by have := more_lt h l1; simp; omega)).trans (cellMA l1 o1 n i W h)))
theorem yf (h : n < W.heap.size) : ((more (((more W l1).alloc o1).alloc o2) l2).alloc o3).frozen? ⟨n, i, none⟩ = W.frozen? ⟨n, i, none⟩ :=
  (World.frozen?_alloc_past o3 n i (more_lt (ltX W l1 o1 o2 n h) l2)).trans ((frozen?_more l2 n i _ (ltX W l1 o1 o2 n h)).trans ((World.frozen?_alloc_past o2 n i (by have := more_lt h l1; simp; omega)).trans (frozenMA l1 o1 n i W h)))
theorem ys (h : n < W.heap.size) : ((more (((more W l1).alloc o1).alloc o2) l2).alloc o3).setCell ⟨n, i, none⟩ v = (more (((more (W.setCell ⟨n, i, none⟩ v) l1).alloc o1).alloc o2) l2).alloc o3 := by
  rw [World.setCell_alloc_past o3 n i v (more_lt (ltX W l1 o1 o2 n h) l2), setCell_more l2 n i v _ (ltX W l1 o1 o2 n h), World.setCell_alloc_past o2 n i v (by have := more_lt h l1; simp; omega), setMA l1 o1 n i v W h]
theorem ycB : ((more (((more W l1).alloc o1).alloc o2) l2).alloc o3).cell? ⟨(more W l1).heap.size, i, none⟩ = ((more W l1).alloc o1).cell? ⟨(more W l1).heap.size, i, none⟩ :=
  (World.cell?_alloc_past o3 _ i (more_lt (ltB W l1 o1 o2) l2)).trans ((cell?_more l2 _ i _ (ltB W l1 o1 o2)).trans (World.cell?_alloc_past o2 _ i (by simp)))
theorem yfB : ((more (((more W l1).alloc o1).alloc o2) l2).alloc o3).frozen? ⟨(more W l1).heap.size, i, none⟩ = ((more W l1).alloc o1).frozen? ⟨(more W l1).heap.size, i, none⟩ :=
  (World.frozen?_alloc_past o3 _ i (more_lt (ltB W l1 o1 o2) l2)).trans ((frozen?_more l2 _ i _ (ltB W l1 o1 o2)).trans (World.frozen?_alloc_past o2 _ i (by simp)))
theorem ysB : ((more (((more W l1).alloc o1).alloc o2) l2).alloc o3).setCell ⟨(more W l1).heap.size, i, none⟩ v = (more ((((more W l1).alloc o1).setCell ⟨(more W l1).heap.size, i, none⟩ v).alloc o2) l2).alloc o3 := by
  rw [World.setCell_alloc_past o3 _ i v (more_lt (ltB W l1 o1 o2) l2), setCell_more l2 _ i v _ (ltB W l1 o1 o2), World.setCell_alloc_past o2 _ i v (by simp)]
theorem ltY (h : n < W.heap.size) : n < ((more (((more W l1).alloc o1).alloc o2) l2).alloc o3).heap.size := by have := more_lt (ltX W l1 o1 o2 n h) l2; simp; omega
theorem ltYB : (more W l1).heap.size < ((more (((more W l1).alloc o1).alloc o2) l2).alloc o3).heap.size := by have := more_lt (ltB W l1 o1 o2) l2; simp; omega
theorem yyc (h : n < W.heap.size) : (more ((more (((more W l1).alloc o1).alloc o2) l2).alloc o3) l3).cell? ⟨n, i, none⟩ = W.cell? ⟨n, i, none⟩ := (cell?_more l3 n i _ (ltY W l1 l2 o1 o2 o3 n h)).trans (yc W l1 l2 o1 o2 o3 n i h)
theorem yyf (h : n < W.heap.size) : (more ((more (((more W l1).alloc o1).alloc o2) l2).alloc o3) l3).frozen? ⟨n, i, none⟩ = W.frozen? ⟨n, i, none⟩ := (frozen?_more l3 n i _ (ltY W l1 l2 o1 o2 o3 n h)).trans (yf W l1 l2 o1 o2 o3 n i h)
theorem yys (h : n < W.heap.size) : (more ((more (((more W l1).alloc o1).alloc o2) l2).alloc o3) l3).setCell ⟨n, i, none⟩ v = more ((more (((more (W.setCell ⟨n, i, none⟩ v) l1).alloc o1).alloc o2) l2).alloc o3) l3 := by
  rw [setCell_more l3 n i v _ (ltY W l1 l2 o1 o2 o3 n h), ys W l1 l2 o1 o2 o3 n i v h]
theorem yycB : (more ((more (((more W l1).alloc o1).alloc o2) l2).alloc o3) l3).cell? ⟨(more W l1).heap.size, i, none⟩ = ((more W l1).alloc o1).cell? ⟨(more W l1).heap.size, i, none⟩ := (cell?_more l3 _ i _ (ltYB W l1 l2 o1 o2 o3)).trans (ycB W l1 l2 o1 o2 o3 i)
theorem yyfB : (more ((more (((more W l1).alloc o1).alloc o2) l2).alloc o3) l3).frozen? ⟨(more W l1).heap.size, i, none⟩ = ((more W l1).alloc o1).frozen? ⟨(more W l1).heap.size, i, none⟩ := (frozen?_more l3 _ i _ (ltYB W l1 l2 o1 o2 o3)).trans (yfB W l1 l2 o1 o2 o3 i)
theorem yysB : (more ((more (((more W l1).alloc o1).alloc o2) l2).alloc o3) l3).setCell ⟨(more W l1).heap.size, i, none⟩ v = more ((more ((((more W l1).alloc o1).setCell ⟨(more W l1).heap.size, i, none⟩ v).alloc o2) l2).alloc o3) l3 := by
  rw [setCell_more l3 _ i v _ (ltYB W l1 l2 o1 o2 o3), ysB W l1 l2 o1 o2 o3 i v]
end
attribute [local go_sem high] cellMA frozenMA setMA yc yf ys ycB yfB ysB yyc yyf yys yycB yyfB yysB

theorem rnd_is (va vb : Nat) : rnd va vb = if vb < 2 * (va % vb) ∨ (2 * (va % vb) = vb ∧ va / vb % 2 = 1) then va / vb + 1 else va / vb := rfl

set_option maxRecDepth 5000 in
set_option maxHeartbeats 8000000 in
theorem rrounded_any (a0 a1 a2 a3 a4 a5 b0 b1 b2 b3 b4 b5 : Nat) (sa sb : Bool) (w : World) (ha : Low6 a0 a1 a2 a3 a4 a5) (hb : Low6 b0 b1 b2 b3 b4 b5) (fa : val6 a0 a1 a2 a3 a4 a5 < 340282366920938463463374607431768211456) (fb : val6 b0 b1 b2 b3 b4 b5 < 340282366920938463463374607431768211456) (hb0 : 0 < val6 b0 b1 b2 b3 b4 b5) :
    Calls Tryd.prog 52 #[wv a0 a1 a2 a3 a4 a5 sa, wv b0 b1 b2 b3 b4 b5 sb] w fun e w' => ∃ o0 o1 o2 o3 o4 o5 : Nat, e = .returned (wv o0 o1 o2 o3 o4 o5 sa) ∧ Low6 o0 o1 o2 o3 o4 o5 ∧ Hid (val6 o0 o1 o2 o3 o4 o5 = rnd (val6 a0 a1 a2 a3 a4 a5) (val6 b0 b1 b2 b3 b4 b5)) ∧ Grew w w' := by
  have PT := fun W => parts_any a0 a1 a2 a3 a4 a5 b0 b1 b2 b3 b4 b5 sa sb W ha hb fa fb hb0
  have HB : Hid (Low6 b0 b1 b2 b3 b4 b5) := hb
  have one : Low6 1 0 0 0 0 0 := ⟨by decide, by decide, by decide, by decide, by decide, by decide⟩
  have ON1 := fun W => of_any 1 1 0 1 W (by decide) (by decide) rfl rfl rfl
  obtain ⟨va, hva⟩ : ∃ v, v = val6 a0 a1 a2 a3 a4 a5 := ⟨_, rfl⟩
  obtain ⟨vb, hvb⟩ : ∃ v, v = val6 b0 b1 b2 b3 b4 b5 := ⟨_, rfl⟩
  have HVB : Hid (val6 b0 b1 b2 b3 b4 b5 = vb) := hvb.symm
  rw [← hva, ← hvb] at PT
  rw [← hva] at fa
  rw [← hvb] at fb hb0
  rw [← hva, ← hvb]
  have HM : Hid (va % vb < vb ∧ va / vb ≤ va ∧ va < 340282366920938463463374607431768211456 ∧ vb < 340282366920938463463374607431768211456) := ⟨Nat.mod_lt _ hb0, Nat.div_le_self _ _, fa, fb⟩
  have HRND : Hid (rnd va vb = if vb < 2 * (va % vb) ∨ (2 * (va % vb) = vb ∧ va / vb % 2 = 1) then va / vb + 1 else va / vb) := rnd_is va vb
  generalize rnd va vb = rv at HRND ⊢
  clear ha hb hva hvb fa fb hb0
  go_enter Tryd.func52, Tryd.ntmps52
  go_wp2_with fail
  refine (PT _).mono ?_
  rintro e w1 ⟨q0, q1, q2, q3, q4, q5, r0, r1, r2, r3, r4, r5, rfl, lq, lr, hq, hr, os1, n1, rfl⟩
  clear PT
  go_wp2_with fail
  refine (plus_any r0 r1 r2 r3 r4 r5 r0 r1 r2 r3 r4 r5 false false _ lr lr).mono ?_
  rintro e w2 ⟨t0, t1, t2, t3, t4, t5, c1, rfl, lt, ht, os2, n2, rfl⟩
  have HT : Hid (val6 t0 t1 t2 t3 t4 t5 = 2 * (va % vb)) := by
    have h1 := hr.out
    have h2 := HM.out
    show val6 t0 t1 t2 t3 t4 t5 = _
    omega
  have L1 := fun W => less_any b0 b1 b2 b3 b4 b5 t0 t1 t2 t3 t4 t5 sb false W HB.out lt
  have L2 := fun W => less_any t0 t1 t2 t3 t4 t5 b0 b1 b2 b3 b4 b5 false sb W lt HB.out
  have AD := fun W => plus_any q0 q1 q2 q3 q4 q5 1 0 0 0 0 0 false false W lq one
  rw [HVB.out, HT.out] at L1 L2
  have hq0 : q0 % 2 = va / vb % 2 := by
    have h1 := hq.out
    rw [← h1]; unfold val6; omega
  clear ht lt lr hr HT
  generalize va % vb = vr at *
  generalize va / vb = vq at *
  by_cases h1 : vb < 2 * vr
  · rw [show decide (vb < 2 * vr) = true by simp [h1]] at L1
    have HRV : Hid (rv = vq + 1) := by show rv = _; rw [HRND.out, if_pos (.inl h1)]
    clear L2 h1 HRND hq0 HVB HB
    go_wp2_with fail
    refine (L1 _).mono ?_
    rintro e w3 ⟨rfl, os3, n3, rfl⟩
    go_wp2_with fail
    go_region_with (first
      | (go_at_call 51; refine (ON1 _).mono ?_; rintro e w5 ⟨rfl, os5, n5, rfl⟩)
      | (go_at_call 59; refine (AD _).mono ?_; rintro e w6 ⟨o0, o1, o2, o3, o4, o5, c2, rfl, lo, ho, os6, n6, rfl⟩))
    all_goals go_wp2_with fail
    all_goals refine bodyPost_ret_by (v := wv o0 o1 o2 o3 o4 o5 sa) ?_ rfl ⟨o0, o1, o2, o3, o4, o5, rfl, lo, ?_, (by repeat (first | exact Grew.refl _ | apply Grew.drew | apply Grew.drewN | apply Grew.alloc | apply Grew.more))⟩
    all_goals first
      | (simp [results, Tryd.results52, go_sem]; done)
      | (show val6 _ _ _ _ _ _ = rv
         have h1 := hq.out
         have h2 := HM.out
         have h3 := HRV.out
         unfold val6 at h1 ho ⊢
         omega)
  · rw [show decide (vb < 2 * vr) = false by simp; omega] at L1
    by_cases h2 : 2 * vr < vb
    · rw [show decide (2 * vr < vb) = true by simp [h2]] at L2
      have HRV : Hid (rv = vq) := by show rv = _; rw [HRND.out, if_neg (by omega)]
      clear h1 h2 HRND hq0 HVB HB
      go_wp2_with fail
      refine (L1 _).mono ?_
      rintro e w3 ⟨rfl, os3, n3, rfl⟩
      go_wp2_with fail
      refine (L2 _).mono ?_
      rintro e w4 ⟨rfl, os4, n4, rfl⟩
      go_wp2_with fail
      refine bodyPost_ret_by (v := wv q0 q1 q2 q3 q4 q5 sa) ?_ rfl ⟨q0, q1, q2, q3, q4, q5, rfl, lq, (show Hid (val6 q0 q1 q2 q3 q4 q5 = rv) from by show val6 q0 q1 q2 q3 q4 q5 = rv; rw [hq.out, HRV.out]), (by repeat (first | exact Grew.refl _ | apply Grew.drew | apply Grew.drewN | apply Grew.alloc | apply Grew.more))⟩
      simp [results, Tryd.results52, go_sem]
    · rw [show decide (2 * vr < vb) = false by simp; omega] at L2
      by_cases h3 : vq % 2 = 1
      · have HRV : Hid (rv = vq + 1) := by show rv = _; rw [HRND.out, if_pos (.inr ⟨by omega, h3⟩)]
        have hqi : (q0 : Int) % 2 = 1 := by omega
        clear h1 h2 h3 HRND hq0 HVB HB
        go_wp2_with fail
        refine (L1 _).mono ?_
        rintro e w3 ⟨rfl, os3, n3, rfl⟩
        go_wp2_with fail
        refine (L2 _).mono ?_
        rintro e w4 ⟨rfl, os4, n4, rfl⟩
        go_wp2_with fail
        go_region_with (first
          | (go_at_call 51; refine (ON1 _).mono ?_; rintro e w5 ⟨rfl, os5, n5, rfl⟩)
          | (go_at_call 59; refine (AD _).mono ?_; rintro e w6 ⟨o0, o1, o2, o3, o4, o5, c2, rfl, lo, ho, os6, n6, rfl⟩))
        all_goals go_wp2_with fail
        all_goals refine bodyPost_ret_by (v := wv o0 o1 o2 o3 o4 o5 sa) ?_ rfl ⟨o0, o1, o2, o3, o4, o5, rfl, lo, ?_, (by repeat (first | exact Grew.refl _ | apply Grew.drew | apply Grew.drewN | apply Grew.alloc | apply Grew.more))⟩
        all_goals first
          | (simp [results, Tryd.results52, go_sem]; done)
          | (show val6 _ _ _ _ _ _ = rv
             have h1 := hq.out
             have h2 := HM.out
             have h3 := HRV.out
             unfold val6 at h1 ho ⊢
             omega)
      · have HRV : Hid (rv = vq) := by show rv = _; rw [HRND.out, if_neg (by omega)]
        have hqi : (q0 : Int) % 2 = 0 := by omega
        clear h1 h2 h3 HRND hq0 HVB HB
        go_wp2_with fail
        refine (L1 _).mono ?_
        rintro e w3 ⟨rfl, os3, n3, rfl⟩
        go_wp2_with fail
        refine (L2 _).mono ?_
        rintro e w4 ⟨rfl, os4, n4, rfl⟩
        go_wp2_with fail
        refine bodyPost_ret_by (v := wv q0 q1 q2 q3 q4 q5 sa) ?_ rfl ⟨q0, q1, q2, q3, q4, q5, rfl, lq, (show Hid (val6 q0 q1 q2 q3 q4 q5 = rv) from by show val6 q0 q1 q2 q3 q4 q5 = rv; rw [hq.out, HRV.out]), (by repeat (first | exact Grew.refl _ | apply Grew.drew | apply Grew.drewN | apply Grew.alloc | apply Grew.more))⟩
        simp [results, Tryd.results52, go_sem]
end Go.Proofs.YtfbkakchaabgeaaDoor
