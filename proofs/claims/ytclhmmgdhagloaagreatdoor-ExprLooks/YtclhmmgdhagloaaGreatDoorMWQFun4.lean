/-
  eval.called, name by name.
  eval.Function.
  eval.Function, whole.
-/
import Derived.Test.YtclhmmgdhagloaaGreatDoorMVQCallB
import Derived.Test.YtclhmmgdhagloaaGreatDoorMRHTurn
import Derived.Test.YtclhmmgdhagloaaGreatDoorMUQWide
namespace Go.Proofs.YtclhmmgdhagloaaGreatDoor
open Go.RowKit Go.Shelf
attribute [local go_sem] cell?_more frozen?_more setCell_more more_lt more_more more_drew more_drewN setCell_drewN alloc_drewN cell?_drawTo frozen?_drawTo heap_drawTo setCell_drawTo alloc_drawTo drewN_drawTo drew_drawTo drawTo_drewN drawTo_drew drawTo_drawTo more_drawTo

:
    Calls Tryz.prog 88 #[.string ⟨#[97, 98, 115]⟩, .slice (some ⟨bl, off, none⟩) 1 cap] w fun e w' => e = .returned (.tuple #[va rk rn rm rb, .int .i64 re]) ∧ Below w.heap.size w w' := by
  obtain ⟨w0, hw0, bxr, Bw⟩ := res_box w
  have z0 : IntKind.i64.wrap 0 = 0 := by rw [IntKind.wrap_i64]; rfl
  go_enter Tryz.func88, Tryz.ntmps88
  go_wp2_with fail
  rw [← hw0]
  clear hw0
  rw [← Bw.cell (p := ⟨bl, off, none⟩) hg] at c0
  rw [← Bw.cell (p := ⟨bl, off + 1, none⟩) hg] at c1
  rw [← Bw.cell (p := ⟨bl, off + 2, none⟩) hg] at c2
  rw [← Bw.cell (p := ⟨bl, off + 3, none⟩) hg] at c3
  replace hg : bl < w0.heap.size := Nat.lt_of_lt_of_le hg Bw.size
  go_cut [6, 7] from 8 (fun s0 s1 wx => ∃ p q : Nat, s0 = .pointer (some ⟨p, 0, none⟩) ∧ s1 = .pointer (some ⟨q, 0, none⟩) ∧ (wx.cell? ⟨p, 0, none⟩ = some (.int .i64 2) ∧ wx.cell? ⟨p, 1, none⟩ = some (.int .i64 an) ∧ wx.cell? ⟨p, 2, none⟩ = some (.int .i64 am) ∧ wx.cell? ⟨p, 3, none⟩ = some (.string ⟨ab.toArray⟩)) ∧ (wx.cell? ⟨q, 0, none⟩ = some (.int .i64 2) ∧ wx.cell? ⟨q, 1, none⟩ = some (.int .i64 an) ∧ wx.cell? ⟨q, 2, none⟩ = some (.int .i64 am) ∧ wx.cell? ⟨q, 3, none⟩ = some (.string ⟨ab.toArray⟩)) ∧ w0.heap.size ≤ p ∧ w0.heap.size ≤ q ∧ Grew w0 wx)
  case first =>
    refine wp_region_held_drew (S := (fun W => W.cell? ⟨bl, off, none⟩ = some (.int .i64 2) ∧ W.cell? ⟨bl, off + 1, none⟩ = some (.int .i64 an) ∧ W.cell? ⟨bl, off + 2, none⟩ = some (.int .i64 am) ∧ W.cell? ⟨bl, off + 3, none⟩ = some (.string ⟨ab.toArray⟩))) (by kernel_rfl) ?_ (fun hHeld => ?_)
    · ((try dsimp only); (simp (maxDischargeDepth := 12) [go_sem, c0, c1, c2, c3]))
    refine wpAnyH_take (i := 0) (oi := qcO0) (v := ?_) rfl (by kernel_rfl) (by kernel_rfl) (by kernel_rfl) (fun _ _ _ h => h) (Or.inl ⟨by rfl, ?_⟩) (by assumption) ?_
    rotate_left
    · (intro W hSw; (try dsimp only at hSw); try simp only [qcO0]; first | (go_simp; done) | (go_simp; with_reducible rfl))
    try simp only [qcO0, Act.put, List.setIfInBounds_toArray, List.set_cons_zero, List.set_cons_succ]
    refine wpAnyH_take (i := 1) (oi := qcO1) (v := ?_) rfl (by kernel_rfl) (by kernel_rfl) (by kernel_rfl) (fun _ _ _ h => h) (Or.inl ⟨by rfl, ?_⟩) (by assumption) ?_
    rotate_left
    · (intro W hSw; (try dsimp only at hSw); try simp only [qcO1]; first | (go_simp; done) | (go_simp; with_reducible rfl))
    try simp only [qcO1, Act.put, List.setIfInBounds_toArray, List.set_cons_zero, List.set_cons_succ]
    refine wpAnyH_take (i := 2) (oi := qcO2) (v := ?_) rfl (by kernel_rfl) (by kernel_rfl) (by kernel_rfl) (fun _ _ _ h => h) (Or.inl ⟨by rfl, ?_⟩) (by assumption) ?_
    rotate_left
    · (intro W hSw; (try dsimp only at hSw); try simp only [qcO2]; first | (go_simp; done) | (go_simp; with_reducible rfl))
    try simp only [qcO2, Act.put, List.setIfInBounds_toArray, List.set_cons_zero, List.set_cons_succ]
    refine wpAnyH_take (i := 3) (oi := qcO3) (v := ?_) rfl (by kernel_rfl) (by kernel_rfl) (by kernel_rfl) (fun _ _ _ h => h) (Or.inl ⟨by rfl, ?_⟩) (by assumption) ?_
    rotate_left
    · (intro W hSw; (try dsimp only at hSw); try simp only [qcO3]; first | (go_simp; done) | (go_simp; with_reducible rfl))
    try simp only [qcO3, Act.put, List.setIfInBounds_toArray, List.set_cons_zero, List.set_cons_succ]
    refine wpAnyH_take (i := 4) (oi := qcO4) (v := ?_) rfl (by kernel_rfl) (by kernel_rfl) (by kernel_rfl) (fun _ _ _ h => h) (Or.inl ⟨by rfl, ?_⟩) (by assumption) ?_
    rotate_left
    · (intro W hSw; (try dsimp only at hSw); try simp only [qcO4]; first | (go_simp; done) | (go_simp; with_reducible rfl))
    try simp only [qcO4, Act.put, List.setIfInBounds_toArray, List.set_cons_zero, List.set_cons_succ]
    refine wpAnyH_take (i := 5) (oi := qcO5) (v := ?_) rfl (by kernel_rfl) (by kernel_rfl) (by kernel_rfl) (fun _ _ _ h => h) (Or.inl ⟨by rfl, ?_⟩) (by assumption) ?_
    rotate_left
    · (intro W hSw; (try dsimp only at hSw); try simp only [qcO5]; first | (go_simp; done) | (go_simp; with_reducible rfl))
    try simp only [qcO5, Act.put, List.setIfInBounds_toArray, List.set_cons_zero, List.set_cons_succ]
    refine wpAnyH_take (i := 6) (oi := qcO6) (v := ?_) rfl (by kernel_rfl) (by kernel_rfl) (by kernel_rfl) (fun _ _ _ h => h) (Or.inl ⟨by rfl, ?_⟩) (by assumption) ?_
    rotate_left
    · (intro W hSw; (try dsimp only at hSw); try simp only [qcO6]; first | (go_simp; done) | (go_simp; with_reducible rfl))
    try simp only [qcO6, Act.put, List.setIfInBounds_toArray, List.set_cons_zero, List.set_cons_succ]
    refine wpAnyH_take (i := 7) (oi := qcO7) (v := ?_) rfl (by kernel_rfl) (by kernel_rfl) (by kernel_rfl) (fun _ _ _ h => h) (Or.inl ⟨by rfl, ?_⟩) (by assumption) ?_
    rotate_left
    · (intro W hSw; (try dsimp only at hSw); try simp only [qcO7]; first | (go_simp; done) | (go_simp; with_reducible rfl))
    try simp only [qcO7, Act.put, List.setIfInBounds_toArray, List.set_cons_zero, List.set_cons_succ]
    refine wpAnyH_take (i := 8) (oi := qcO8) (v := ?_) rfl (by kernel_rfl) (by kernel_rfl) (by kernel_rfl) (fun _ _ _ h => h) (Or.inl ⟨by rfl, ?_⟩) (by assumption) ?_
    rotate_left
    · (intro W hSw; (try dsimp only at hSw); try simp only [qcO8]; first | (go_simp; done) | (go_simp; with_reducible rfl))
    try simp only [qcO8, Act.put, List.setIfInBounds_toArray, List.set_cons_zero, List.set_cons_succ]
    refine wpAnyH_ready (rs := [9, 10]) (by kernel_rfl) (by simp) ?_
    refine AllReadyH.cons (o := qcO9) rfl (fun K hK => ?_) (AllReadyH.cons (o := qcO10) rfl (fun K hK => ?_) AllReadyH.nil)
    ·
      try simp only [qcO9]
      go_simp
      refine hK.out _ _ ?_ (fun hHeld => ?_)
      · ((try dsimp only); (simp (maxDischargeDepth := 12) [go_sem, c0, c1, c2, c3, hg]))
      clear hK K
      try simp only [Act.put, List.setIfInBounds_toArray, List.set_cons_zero, List.set_cons_succ]
      refine wpAnyH_ready (rs := [10]) (by kernel_rfl) (by simp) ?_
      refine AllReadyH.cons (o := qcO10) rfl (fun K hK => ?_) AllReadyH.nil
      try simp only [qcO10]
      go_simp
      refine hK.out _ _ ?_ (fun hHeld => ?_)
      · ((try dsimp only); (simp (maxDischargeDepth := 12) [go_sem, c0, c1, c2, c3, hg]))
      clear hK K
      try simp only [Act.put, List.setIfInBounds_toArray, List.set_cons_zero, List.set_cons_succ]
      refine wpAnyH_ready (rs := [11]) (by kernel_rfl) (by simp) ?_
      refine AllReadyH.cons (o := qcO11) rfl (fun K hK => ?_) AllReadyH.nil
      try simp only [qcO11]
      go_simp
      refine hK.out _ _ ?_ (fun hHeld => ?_)
      · ((try dsimp only); (simp (maxDischargeDepth := 12) [go_sem, c0, c1, c2, c3, hg]))
      clear hK K
      try simp only [Act.put, List.setIfInBounds_toArray, List.set_cons_zero, List.set_cons_succ]
      refine wpAnyH_ready (rs := [12]) (by kernel_rfl) (by simp) ?_
      refine AllReadyH.cons (o := qcO12) rfl (fun K hK => ?_) AllReadyH.nil
      try simp only [qcO12]
      go_simp
      refine hK.out _ _ ?_ (fun hHeld => ?_)
      · ((try dsimp only); (simp (maxDischargeDepth := 12) [go_sem, c0, c1, c2, c3, hg]))
      clear hK K
      try simp only [Act.put, List.setIfInBounds_toArray, List.set_cons_zero, List.set_cons_succ]
      refine wpAnyH_done (by kernel_rfl) ?_ _
      go_wp2_with fail
      go_meet
      exact ⟨_, _, rfl, rfl, ⟨by simp (maxDischargeDepth := 12) [go_sem], by simp (maxDischargeDepth := 12) [go_sem], by simp (maxDischargeDepth := 12) [go_sem], by simp (maxDischargeDepth := 12) [go_sem]⟩, ⟨by simp (maxDischargeDepth := 12) [go_sem], by simp (maxDischargeDepth := 12) [go_sem], by simp (maxDischargeDepth := 12) [go_sem], by simp (maxDischargeDepth := 12) [go_sem]⟩, by simp, by simp, (by repeat (first | assumption | exact Grew.refl _ | apply Grew.drew | apply Grew.drewN | apply Grew.alloc | apply Grew.more))⟩
    ·
      try simp only [qcO10]
      go_simp
      refine hK.out _ _ ?_ (fun hHeld => ?_)
      · ((try dsimp only); (simp (maxDischargeDepth := 12) [go_sem, c0, c1, c2, c3, hg]))
      clear hK K
      try simp only [Act.put, List.setIfInBounds_toArray, List.set_cons_zero, List.set_cons_succ]
      refine wpAnyH_ready (rs := [9]) (by kernel_rfl) (by simp) ?_
      refine AllReadyH.cons (o := qcO9) rfl (fun K hK => ?_) AllReadyH.nil
      try simp only [qcO9]
      go_simp
      refine hK.out _ _ ?_ (fun hHeld => ?_)
      · ((try dsimp only); (simp (maxDischargeDepth := 12) [go_sem, c0, c1, c2, c3, hg]))
      clear hK K
      try simp only [Act.put, List.setIfInBounds_toArray, List.set_cons_zero, List.set_cons_succ]
      refine wpAnyH_ready (rs := [11]) (by kernel_rfl) (by simp) ?_
      refine AllReadyH.cons (o := qcO11) rfl (fun K hK => ?_) AllReadyH.nil
      try simp only [qcO11]
      go_simp
      refine hK.out _ _ ?_ (fun hHeld => ?_)
      · ((try dsimp only); (simp (maxDischargeDepth := 12) [go_sem, c0, c1, c2, c3, hg]))
      clear hK K
      try simp only [Act.put, List.setIfInBounds_toArray, List.set_cons_zero, List.set_cons_succ]
      refine wpAnyH_ready (rs := [12]) (by kernel_rfl) (by simp) ?_
      refine AllReadyH.cons (o := qcO12) rfl (fun K hK => ?_) AllReadyH.nil
      try simp only [qcO12]
      go_simp
      refine hK.out _ _ ?_ (fun hHeld => ?_)
      · ((try dsimp only); (simp (maxDischargeDepth := 12) [go_sem, c0, c1, c2, c3, hg]))
      clear hK K
      try simp only [Act.put, List.setIfInBounds_toArray, List.set_cons_zero, List.set_cons_succ]
      refine wpAnyH_done (by kernel_rfl) ?_ _
      go_wp2_with fail
      go_meet
      exact ⟨_, _, rfl, rfl, ⟨by simp (maxDischargeDepth := 12) [go_sem], by simp (maxDischargeDepth := 12) [go_sem], by simp (maxDischargeDepth := 12) [go_sem], by simp (maxDischargeDepth := 12) [go_sem]⟩, ⟨by simp (maxDischargeDepth := 12) [go_sem], by simp (maxDischargeDepth := 12) [go_sem], by simp (maxDischargeDepth := 12) [go_sem], by simp (maxDischargeDepth := 12) [go_sem]⟩, by simp, by simp, (by repeat (first | assumption | exact Grew.refl _ | apply Grew.drew | apply Grew.drewN | apply Grew.alloc | apply Grew.more))⟩
  rename World => w1
  obtain ⟨p, q, rfl, rfl, ⟨p0, p1, p2, p3⟩, ⟨q0, q1, q2, q3⟩, gp, gq, g⟩ := hcut
  have lp := World.block_lt_of_cell? w1 _ p0
  have lq := World.block_lt_of_cell? w1 _ q0
  have B1 := g.below
  have br := bxr.later B1
  obtain ⟨r0, r1, r2, r3⟩ := br.at4
  dsimp only [nul] at r0 r1 r2 r3
  simp only [Nat.zero_add] at r1 r2 r3
  have f0 := br.free 0
  have f1 := br.free 1
  have f2 := br.free 2
  have f3 := br.free 3
  have lt1 := br.lt
  have Be := below_trans Bw B1
  have lr := bxr.lt
  have np : ¬ w.heap.size = p := by omega
  have nq : ¬ w.heap.size = q := by omega
  clear gp gq lr
  clear br bxr g c0 c1 c2 c3 hg
  go_wp2_with (first
    | (go_at_call 78; refine (qnumber_any _ _ _ _ _).mono ?_; rintro e w2 ⟨rfl, os0, n0, rfl⟩)
    | (go_at_call 165; refine (F _ (below_trans Be (Grown.below (by repeat (first | assumption | exact Grown.refl _ | apply Grown.drew | apply Grown.drewN | apply Grown.alloc | apply Grown.more | apply Grown.drawTo))))).mono ?_; rintro e w2 ⟨rfl, bc⟩; obtain ⟨osc, dc, rfl⟩ := wide bc; clear bc))
  refine bodyPost_ret_by (v := .tuple #[va rk rn rm rb, .int .i64 re]) ?_ rfl ⟨rfl, ?_⟩
  · simp [results, Tryz.results88, go_sem, r0, r1, r2, r3, lt1]
  · refine below_trans (Be.setCell (p := ⟨w.heap.size, 0, none⟩) (Nat.le_refl _) (.int .i64 rk) |>.setCell (p := ⟨w.heap.size, 1, none⟩) (Nat.le_refl _) (.int .i64 rn) |>.setCell (p := ⟨w.heap.size, 2, none⟩) (Nat.le_refl _) (.int .i64 rm) |>.setCell (p := ⟨w.heap.size, 3, none⟩) (Nat.le_refl _) (.string rb)) (Grown.below ?_)
    repeat (first | assumption | exact Grown.refl _ | apply Grown.drew | apply Grown.drewN | apply Grown.alloc | apply Grown.more | apply Grown.drawTo)


:
    Calls Tryz.prog 88 #[.string ⟨#[114, 111, 117, 110, 100]⟩, .slice (some ⟨bl, off, none⟩) 2 cap] w fun e w' => e = .returned (rs r) ∧ Below w.heap.size w w' := by
  obtain ⟨w0, hw0, bxr, Bw⟩ := res_box w
  have z0 : IntKind.i64.wrap 1 = 1 := by rw [IntKind.wrap_i64]; rfl
  go_enter Tryz.func88, Tryz.ntmps88
  go_wp2_with fail
  rw [← hw0]
  clear hw0
  rw [← Bw.cell (p := ⟨bl, off, none⟩) hg] at c0
  rw [← Bw.cell (p := ⟨bl, off + 1, none⟩) hg] at c1
  rw [← Bw.cell (p := ⟨bl, off + 2, none⟩) hg] at c2
  rw [← Bw.cell (p := ⟨bl, off + 3, none⟩) hg] at c3
  rw [← Bw.cell (p := ⟨bl, off + 4, none⟩) hg] at d0
  rw [← Bw.cell (p := ⟨bl, off + 4 + 1, none⟩) hg] at d1
  rw [← Bw.cell (p := ⟨bl, off + 4 + 2, none⟩) hg] at d2
  rw [← Bw.cell (p := ⟨bl, off + 4 + 3, none⟩) hg] at d3
  replace hg : bl < w0.heap.size := Nat.lt_of_lt_of_le hg Bw.size
  go_cut [6, 7] from 8 (fun s0 s1 wx => ∃ p q : Nat, s0 = .pointer (some ⟨p, 0, none⟩) ∧ s1 = .pointer (some ⟨q, 0, none⟩) ∧ (wx.cell? ⟨p, 0, none⟩ = some (.int .i64 2) ∧ wx.cell? ⟨p, 1, none⟩ = some (.int .i64 an) ∧ wx.cell? ⟨p, 2, none⟩ = some (.int .i64 am) ∧ wx.cell? ⟨p, 3, none⟩ = some (.string ⟨ab.toArray⟩)) ∧ (wx.cell? ⟨q, 0, none⟩ = some (.int .i64 1) ∧ wx.cell? ⟨q, 1, none⟩ = some (.int .i64 bn) ∧ wx.cell? ⟨q, 2, none⟩ = some (.int .i64 bm) ∧ wx.cell? ⟨q, 3, none⟩ = some (.string ⟨bb.toArray⟩)) ∧ w0.heap.size ≤ p ∧ w0.heap.size ≤ q ∧ Grew w0 wx)
  case first =>
    refine wp_region_held_drew (S := (fun W => W.cell? ⟨bl, off, none⟩ = some (.int .i64 2) ∧ W.cell? ⟨bl, off + 1, none⟩ = some (.int .i64 an) ∧ W.cell? ⟨bl, off + 2, none⟩ = some (.int .i64 am) ∧ W.cell? ⟨bl, off + 3, none⟩ = some (.string ⟨ab.toArray⟩) ∧ W.cell? ⟨bl, off + 4, none⟩ = some (.int .i64 1) ∧ W.cell? ⟨bl, off + 4 + 1, none⟩ = some (.int .i64 bn) ∧ W.cell? ⟨bl, off + 4 + 2, none⟩ = some (.int .i64 bm) ∧ W.cell? ⟨bl, off + 4 + 3, none⟩ = some (.string ⟨bb.toArray⟩))) (by kernel_rfl) ?_ (fun hHeld => ?_)
    · ((try dsimp only); (simp (maxDischargeDepth := 12) [go_sem, c0, c1, c2, c3, d0, d1, d2, d3]))
    refine wpAnyH_take (i := 0) (oi := qcO0) (v := ?_) rfl (by kernel_rfl) (by kernel_rfl) (by kernel_rfl) (fun _ _ _ h => h) (Or.inl ⟨by rfl, ?_⟩) (by assumption) ?_
    rotate_left
    · (intro W hSw; (try dsimp only at hSw); try simp only [qcO0]; first | (go_simp; done) | (go_simp; with_reducible rfl))
    try simp only [qcO0, Act.put, List.setIfInBounds_toArray, List.set_cons_zero, List.set_cons_succ]
    refine wpAnyH_take (i := 1) (oi := qcO1) (v := ?_) rfl (by kernel_rfl) (by kernel_rfl) (by kernel_rfl) (fun _ _ _ h => h) (Or.inl ⟨by rfl, ?_⟩) (by assumption) ?_
    rotate_left
    · (intro W hSw; (try dsimp only at hSw); try simp only [qcO1]; first | (go_simp; done) | (go_simp; with_reducible rfl))
    try simp only [qcO1, Act.put, List.setIfInBounds_toArray, List.set_cons_zero, List.set_cons_succ]
    refine wpAnyH_take (i := 2) (oi := qcO2) (v := ?_) rfl (by kernel_rfl) (by kernel_rfl) (by kernel_rfl) (fun _ _ _ h => h) (Or.inl ⟨by rfl, ?_⟩) (by assumption) ?_
    rotate_left
    · (intro W hSw; (try dsimp only at hSw); try simp only [qcO2]; first | (go_simp; done) | (go_simp; with_reducible rfl))
    try simp only [qcO2, Act.put, List.setIfInBounds_toArray, List.set_cons_zero, List.set_cons_succ]
    refine wpAnyH_take (i := 3) (oi := qcO3) (v := ?_) rfl (by kernel_rfl) (by kernel_rfl) (by kernel_rfl) (fun _ _ _ h => h) (Or.inl ⟨by rfl, ?_⟩) (by assumption) ?_
    rotate_left
    · (intro W hSw; (try dsimp only at hSw); try simp only [qcO3]; first | (go_simp; done) | (go_simp; with_reducible rfl))
    try simp only [qcO3, Act.put, List.setIfInBounds_toArray, List.set_cons_zero, List.set_cons_succ]
    refine wpAnyH_take (i := 4) (oi := qcO4) (v := ?_) rfl (by kernel_rfl) (by kernel_rfl) (by kernel_rfl) (fun _ _ _ h => h) (Or.inl ⟨by rfl, ?_⟩) (by assumption) ?_
    rotate_left
    · (intro W hSw; (try dsimp only at hSw); try simp only [qcO4]; first | (go_simp; done) | (go_simp; with_reducible rfl))
    try simp only [qcO4, Act.put, List.setIfInBounds_toArray, List.set_cons_zero, List.set_cons_succ]
    refine wpAnyH_take (i := 5) (oi := qcO5) (v := ?_) rfl (by kernel_rfl) (by kernel_rfl) (by kernel_rfl) (fun _ _ _ h => h) (Or.inl ⟨by rfl, ?_⟩) (by assumption) ?_
    rotate_left
    · (intro W hSw; (try dsimp only at hSw); try simp only [qcO5]; first | (go_simp; done) | (go_simp; with_reducible rfl))
    try simp only [qcO5, Act.put, List.setIfInBounds_toArray, List.set_cons_zero, List.set_cons_succ]
    refine wpAnyH_take (i := 6) (oi := qcO6) (v := ?_) rfl (by kernel_rfl) (by kernel_rfl) (by kernel_rfl) (fun _ _ _ h => h) (Or.inl ⟨by rfl, ?_⟩) (by assumption) ?_
    rotate_left
    · (intro W hSw; (try dsimp only at hSw); try simp only [qcO6]; first | (go_simp; done) | (go_simp; with_reducible rfl))
    try simp only [qcO6, Act.put, List.setIfInBounds_toArray, List.set_cons_zero, List.set_cons_succ]
    refine wpAnyH_take (i := 7) (oi := qcO7) (v := ?_) rfl (by kernel_rfl) (by kernel_rfl) (by kernel_rfl) (fun _ _ _ h => h) (Or.inl ⟨by rfl, ?_⟩) (by assumption) ?_
    rotate_left
    · (intro W hSw; (try dsimp only at hSw); try simp only [qcO7]; first | (go_simp; done) | (go_simp; with_reducible rfl))
    try simp only [qcO7, Act.put, List.setIfInBounds_toArray, List.set_cons_zero, List.set_cons_succ]
    refine wpAnyH_take (i := 8) (oi := qcO8) (v := ?_) rfl (by kernel_rfl) (by kernel_rfl) (by kernel_rfl) (fun _ _ _ h => h) (Or.inl ⟨by rfl, ?_⟩) (by assumption) ?_
    rotate_left
    · (intro W hSw; (try dsimp only at hSw); try simp only [qcO8]; first | (go_simp; done) | (go_simp; with_reducible rfl))
    try simp only [qcO8, Act.put, List.setIfInBounds_toArray, List.set_cons_zero, List.set_cons_succ]
    refine wpAnyH_ready (rs := [9, 10]) (by kernel_rfl) (by simp) ?_
    refine AllReadyH.cons (o := qcO9) rfl (fun K hK => ?_) (AllReadyH.cons (o := qcO10) rfl (fun K hK => ?_) AllReadyH.nil)
    ·
      try simp only [qcO9]
      go_simp
      refine hK.out _ _ ?_ (fun hHeld => ?_)
      · ((try dsimp only); (simp (maxDischargeDepth := 12) [go_sem, c0, c1, c2, c3, hg, d0, d1, d2, d3]))
      clear hK K
      try simp only [Act.put, List.setIfInBounds_toArray, List.set_cons_zero, List.set_cons_succ]
      refine wpAnyH_ready (rs := [10]) (by kernel_rfl) (by simp) ?_
      refine AllReadyH.cons (o := qcO10) rfl (fun K hK => ?_) AllReadyH.nil
      try simp only [qcO10]
      go_simp
      refine hK.out _ _ ?_ (fun hHeld => ?_)
      · ((try dsimp only); (simp (maxDischargeDepth := 12) [go_sem, c0, c1, c2, c3, hg, d0, d1, d2, d3]))
      clear hK K
      try simp only [Act.put, List.setIfInBounds_toArray, List.set_cons_zero, List.set_cons_succ]
      refine wpAnyH_ready (rs := [11]) (by kernel_rfl) (by simp) ?_
      refine AllReadyH.cons (o := qcO11) rfl (fun K hK => ?_) AllReadyH.nil
      try simp only [qcO11]
      go_simp
      refine hK.out _ _ ?_ (fun hHeld => ?_)
      · ((try dsimp only); (simp (maxDischargeDepth := 12) [go_sem, c0, c1, c2, c3, hg, d0, d1, d2, d3]))
      clear hK K
      try simp only [Act.put, List.setIfInBounds_toArray, List.set_cons_zero, List.set_cons_succ]
      refine wpAnyH_ready (rs := [12]) (by kernel_rfl) (by simp) ?_
      refine AllReadyH.cons (o := qcO12) rfl (fun K hK => ?_) AllReadyH.nil
      try simp only [qcO12]
      go_simp
      refine hK.out _ _ ?_ (fun hHeld => ?_)
      · ((try dsimp only); (simp (maxDischargeDepth := 12) [go_sem, c0, c1, c2, c3, hg, d0, d1, d2, d3]))
      clear hK K
      try simp only [Act.put, List.setIfInBounds_toArray, List.set_cons_zero, List.set_cons_succ]
      refine wpAnyH_done (by kernel_rfl) ?_ _
      go_wp2_with fail
      go_meet
      exact ⟨_, _, rfl, rfl, ⟨by simp (maxDischargeDepth := 12) [go_sem], by simp (maxDischargeDepth := 12) [go_sem], by simp (maxDischargeDepth := 12) [go_sem], by simp (maxDischargeDepth := 12) [go_sem]⟩, ⟨by simp (maxDischargeDepth := 12) [go_sem], by simp (maxDischargeDepth := 12) [go_sem], by simp (maxDischargeDepth := 12) [go_sem], by simp (maxDischargeDepth := 12) [go_sem]⟩, by simp, by simp, (by repeat (first | assumption | exact Grew.refl _ | apply Grew.drew | apply Grew.drewN | apply Grew.alloc | apply Grew.more))⟩
    ·
      try simp only [qcO10]
      go_simp
      refine hK.out _ _ ?_ (fun hHeld => ?_)
      · ((try dsimp only); (simp (maxDischargeDepth := 12) [go_sem, c0, c1, c2, c3, hg, d0, d1, d2, d3]))
      clear hK K
      try simp only [Act.put, List.setIfInBounds_toArray, List.set_cons_zero, List.set_cons_succ]
      refine wpAnyH_ready (rs := [9]) (by kernel_rfl) (by simp) ?_
      refine AllReadyH.cons (o := qcO9) rfl (fun K hK => ?_) AllReadyH.nil
      try simp only [qcO9]
      go_simp
      refine hK.out _ _ ?_ (fun hHeld => ?_)
      · ((try dsimp only); (simp (maxDischargeDepth := 12) [go_sem, c0, c1, c2, c3, hg, d0, d1, d2, d3]))
      clear hK K
      try simp only [Act.put, List.setIfInBounds_toArray, List.set_cons_zero, List.set_cons_succ]
      refine wpAnyH_ready (rs := [11]) (by kernel_rfl) (by simp) ?_
      refine AllReadyH.cons (o := qcO11) rfl (fun K hK => ?_) AllReadyH.nil
      try simp only [qcO11]
      go_simp
      refine hK.out _ _ ?_ (fun hHeld => ?_)
      · ((try dsimp only); (simp (maxDischargeDepth := 12) [go_sem, c0, c1, c2, c3, hg, d0, d1, d2, d3]))
      clear hK K
      try simp only [Act.put, List.setIfInBounds_toArray, List.set_cons_zero, List.set_cons_succ]
      refine wpAnyH_ready (rs := [12]) (by kernel_rfl) (by simp) ?_
      refine AllReadyH.cons (o := qcO12) rfl (fun K hK => ?_) AllReadyH.nil
      try simp only [qcO12]
      go_simp
      refine hK.out _ _ ?_ (fun hHeld => ?_)
      · ((try dsimp only); (simp (maxDischargeDepth := 12) [go_sem, c0, c1, c2, c3, hg, d0, d1, d2, d3]))
      clear hK K
      try simp only [Act.put, List.setIfInBounds_toArray, List.set_cons_zero, List.set_cons_succ]
      refine wpAnyH_done (by kernel_rfl) ?_ _
      go_wp2_with fail
      go_meet
      exact ⟨_, _, rfl, rfl, ⟨by simp (maxDischargeDepth := 12) [go_sem], by simp (maxDischargeDepth := 12) [go_sem], by simp (maxDischargeDepth := 12) [go_sem], by simp (maxDischargeDepth := 12) [go_sem]⟩, ⟨by simp (maxDischargeDepth := 12) [go_sem], by simp (maxDischargeDepth := 12) [go_sem], by simp (maxDischargeDepth := 12) [go_sem], by simp (maxDischargeDepth := 12) [go_sem]⟩, by simp, by simp, (by repeat (first | assumption | exact Grew.refl _ | apply Grew.drew | apply Grew.drewN | apply Grew.alloc | apply Grew.more))⟩
  rename World => w1
  obtain ⟨p, q, rfl, rfl, ⟨p0, p1, p2, p3⟩, ⟨q0, q1, q2, q3⟩, gp, gq, g⟩ := hcut
  have lp := World.block_lt_of_cell? w1 _ p0
  have lq := World.block_lt_of_cell? w1 _ q0
  have B1 := g.below
  have br := bxr.later B1
  obtain ⟨r0, r1, r2, r3⟩ := br.at4
  dsimp only [nul] at r0 r1 r2 r3
  simp only [Nat.zero_add] at r1 r2 r3
  have f0 := br.free 0
  have f1 := br.free 1
  have f2 := br.free 2
  have f3 := br.free 3
  have lt1 := br.lt
  have Be := below_trans Bw B1
  have lr := bxr.lt
  have np : ¬ w.heap.size = p := by omega
  have nq : ¬ w.heap.size = q := by omega
  clear gp gq lr
  clear br bxr g c0 c1 c2 c3 hg d0 d1 d2 d3
  go_wp2_with (first
    | (go_at_call 78; refine (qnumber_any _ _ _ _ _).mono ?_; rintro e w2 ⟨rfl, os0, n0, rfl⟩))
  go_region_held2 (fun W => W.cell? ⟨p, 0, none⟩ = some (.int .i64 2) ∧ W.cell? ⟨p, 1, none⟩ = some (.int .i64 an) ∧ W.cell? ⟨p, 2, none⟩ = some (.int .i64 am) ∧ W.cell? ⟨p, 3, none⟩ = some (.string ⟨ab.toArray⟩) ∧ W.cell? ⟨q, 1, none⟩ = some (.int .i64 bn)) (simp (maxDischargeDepth := 12) [go_sem, p0, p1, p2, p3, q1, lp, lq]) (first
    | (go_at_call 80; refine (qunits_any _ _ _ _ _).mono ?_; rintro e w2 ⟨rfl, os1, n1, rfl⟩)
    | (go_at_call 168; refine (D _ (below_trans Be (Grew.below (by repeat (first | assumption | exact Grew.refl _ | apply Grew.drew | apply Grew.drewN | apply Grew.alloc | apply Grew.more))))).mono ?_; rintro e w2 ⟨rfl, os2, n2, rfl⟩))
  all_goals go_wp2
  all_goals refine bodyPost_ret_by (v := rs r) ?_ rfl ⟨rfl, ?_⟩
  · simp [results, Tryz.results88, go_sem, r0, r1, r2, r3, lt1]
  · refine below_trans (Be.setCell (p := ⟨w.heap.size, 0, none⟩) (Nat.le_refl _) (.int .i64 (r).1.k) |>.setCell (p := ⟨w.heap.size, 1, none⟩) (Nat.le_refl _) (.int .i64 (r).1.n) |>.setCell (p := ⟨w.heap.size, 2, none⟩) (Nat.le_refl _) (.int .i64 (r).1.m) |>.setCell (p := ⟨w.heap.size, 3, none⟩) (Nat.le_refl _) (.string ⟨(r).1.b.toArray⟩)) (Grew.below ?_)
    repeat (first | assumption | exact Grew.refl _ | apply Grew.drew | apply Grew.drewN | apply Grew.alloc | apply Grew.more)


end Go.Proofs.YtclhmmgdhagloaaGreatDoor

namespace Go.Proofs.YtclhmmgdhagloaaGreatDoor
open Go.RowKit Go.Shelf
attribute [local go_sem] cell?_more frozen?_more setCell_more more_lt more_more more_drew more_drewN setCell_drewN alloc_drewN

end Go.Proofs.YtclhmmgdhagloaaGreatDoor

namespace Go.Proofs.YtclhmmgdhagloaaGreatDoor
open Go.RowKit Go.Shelf

end Go.Proofs.YtclhmmgdhagloaaGreatDoor
