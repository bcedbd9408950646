/-
  The walk of GaussParts over what its callees give.
-/
import Derived.Test.YtidknbdckdinlaaGBase
namespace Go.Proofs.Ytidknbdckdinlaa
attribute [local go_sem] cell?_more frozen?_more setCell_more more_lt more_more more_drew more_drewN setCell_drewN alloc_drewN
attribute [local go_sem high] cellMA frozenMA setMA cellMAM frozenMAM setMAM cellMAA frozenMAA setMAA cellMAAM frozenMAAM setMAAM cellMAMA frozenMAMA setMAMA cellMAMAM frozenMAMAM setMAMAM cellMAMAMA frozenMAMAMA setMAMAMA cellMAMAMAM frozenMAMAMAM setMAMAMAM size_blank

set_option maxRecDepth 10000 in
set_option maxHeartbeats 8000000 in
theorem parts_core (x y u v k c1x c1y r1x r1y de gx gy ge cx cy nn tx ty : Int) (w : World)
    (Oa : Gives 9 #[pv x y] w (pv x y)) (Ob : Gives 9 #[pv u v] w (pv u v)) (K : Gives 19 #[] w (.bool true)) (Nm : ∀ (n : Int) (W : World), Calls Try.prog 18 #[.int .i64 n] W fun e w' => e = .returned (.int .i64 n) ∧ W = w') (Sm : ∀ (x y : Int) (W : World), Calls Try.prog 17 #[pv x y, pv x y] W fun e w' => e = .returned (.bool true) ∧ Grew W w')
    (D1 : Gives 20 #[pv x y, pv u v] w (.tuple #[pv c1x c1y, pv r1x r1y, .int .i64 de])) (D2 : Gives 21 #[pv x y, pv u v] w (.tuple #[pv c1x c1y, pv r1x r1y, .int .i64 de]))
    (G1 : Gives 22 #[pv x y, pv u v] w (.tuple #[pv gx gy, .int .i64 ge])) (G2 : Gives 23 #[pv x y, pv u v] w (.tuple #[pv gx gy, .int .i64 ge]))
    (C1 : Gives 24 #[pv x y] w (pv cx cy)) (C2 : Gives 25 #[pv x y] w (pv cx cy))
    (N1 : Gives 26 #[pv x y] w (.int .i64 nn)) (N2 : Gives 27 #[pv x y] w (.int .i64 nn))
    (T1 : Gives 28 #[pv x y, .int .i64 k] w (pv tx ty)) (T2 : Gives 29 #[pv x y, .int .i64 k] w (pv tx ty)) :
    Calls Try.prog 4 #[pv x y, pv u v, .int .i64 k] w fun e w' => e = .returned (.bool true) ∧ Grew w w' := by
  go_enter Try.func4, Try.ntmps4
  go_upto_region 1 with fail
  have hb0 : Two ((w.alloc (Obj.cells #[Value.int IntKind.i64 x, Value.int IntKind.i64 y] 23)).alloc (Obj.cells #[Value.int IntKind.i64 u, Value.int IntKind.i64 v] 23)) w.heap.size x y := ⟨by simp [go_sem], by simp [go_sem]⟩
  have hb1 : Two ((w.alloc (Obj.cells #[Value.int IntKind.i64 x, Value.int IntKind.i64 y] 23)).alloc (Obj.cells #[Value.int IntKind.i64 u, Value.int IntKind.i64 v] 23)) (w.heap.size + 1) u v := ⟨by simp [go_sem], by simp [go_sem]⟩
  have g : Grew w ((w.alloc (Obj.cells #[Value.int IntKind.i64 x, Value.int IntKind.i64 y] 23)).alloc (Obj.cells #[Value.int IntKind.i64 u, Value.int IntKind.i64 v] 23)) := ((Grew.refl w).alloc _).alloc _
  generalize (w.alloc (Obj.cells #[Value.int IntKind.i64 x, Value.int IntKind.i64 y] 23)).alloc (Obj.cells #[Value.int IntKind.i64 u, Value.int IntKind.i64 v] 23) = w0 at *
  obtain ⟨c0, c1⟩ := id hb0
  have l0 := hb0.lt
  obtain ⟨c2, c3⟩ := id hb1
  have l1 := hb1.lt
  go_upto_region 1 with fail
  go_cut [7, 8, 9] from 17 (fun s0 s1 s2 wx => ∃ p1 : Nat, ∃ p2 : Nat, s0 = .pointer (some ⟨p1, 0, none⟩) ∧ s1 = .pointer (some ⟨p2, 0, none⟩) ∧ s2 = .int .i64 de ∧ Two wx p1 c1x c1y ∧ Two wx p2 r1x r1y ∧ Grew w0 wx)
  case first => as_aux_lemma =>
    clear K Nm Sm D2 G1 G2 C1 C2 N1 N2 T1 T2
    go_region_held2 (fun W => W.cell? ⟨w.heap.size, 0, none⟩ = some (.int .i64 x) ∧ W.cell? ⟨w.heap.size, 1, none⟩ = some (.int .i64 y) ∧ W.cell? ⟨(w.heap.size + 1), 0, none⟩ = some (.int .i64 u) ∧ W.cell? ⟨(w.heap.size + 1), 1, none⟩ = some (.int .i64 v)) (simp (maxDischargeDepth := 12) [go_sem, c0, c1, c2, c3, l0, l1])
      ((first
        | (go_at_call_of 9 (Value.int IntKind.i64 x); refine (Oa _ (by repeat (first | assumption | exact Grew.refl _ | apply Grew.drew | apply Grew.drewN | apply Grew.alloc | apply Grew.more))).mono ?_; rintro e w' ⟨rfl, os, n, rfl⟩)
        | (go_at_call_of 9 (Value.int IntKind.i64 u); refine (Ob _ (by repeat (first | assumption | exact Grew.refl _ | apply Grew.drew | apply Grew.drewN | apply Grew.alloc | apply Grew.more))).mono ?_; rintro e w' ⟨rfl, os, n, rfl⟩)
        | (go_at_call 20; refine (D1 _ (by repeat (first | assumption | exact Grew.refl _ | apply Grew.drew | apply Grew.drewN | apply Grew.alloc | apply Grew.more))).mono ?_; rintro e w' ⟨rfl, os, n, rfl⟩)))
    all_goals go_wp2_with fail
    all_goals go_meet
    all_goals exact ⟨_, _, rfl, rfl, rfl, ⟨by simp (maxDischargeDepth := 12) [go_sem], by simp (maxDischargeDepth := 12) [go_sem]⟩, ⟨by simp (maxDischargeDepth := 12) [go_sem], by simp (maxDischargeDepth := 12) [go_sem]⟩, by repeat (first | assumption | exact Grew.refl _ | apply Grew.drew | apply Grew.drewN | apply Grew.alloc | apply Grew.more)⟩
  rename World => w1
  obtain ⟨p1, p2, rfl, rfl, rfl, hb2, hb3, g'⟩ := hcut
  replace hb0 := hb0.later g'
  replace hb1 := hb1.later g'
  replace g := g.trans g'
  clear g'
  clear c0 c1 c2 c3 l0 l1
  obtain ⟨c0, c1⟩ := id hb0
  have l0 := hb0.lt
  obtain ⟨c2, c3⟩ := id hb1
  have l1 := hb1.lt
  obtain ⟨c4, c5⟩ := id hb2
  have l2 := hb2.lt
  obtain ⟨c6, c7⟩ := id hb3
  have l3 := hb3.lt
  go_upto_region 2 with fail
  go_cut [10, 11, 12] from 17 (fun s0 s1 s2 wx => ∃ p3 : Nat, ∃ p4 : Nat, s0 = .pointer (some ⟨p3, 0, none⟩) ∧ s1 = .pointer (some ⟨p4, 0, none⟩) ∧ s2 = .int .i64 de ∧ Two wx p3 c1x c1y ∧ Two wx p4 r1x r1y ∧ Grew w1 wx)
  case first => as_aux_lemma =>
    clear Oa Ob K Nm Sm D1 G1 G2 C1 C2 N1 N2 T1 T2
    go_wp2_with (first
        | (go_at_call 21; refine (D2 _ (by repeat (first | assumption | exact Grew.refl _ | apply Grew.drew | apply Grew.drewN | apply Grew.alloc | apply Grew.more))).mono ?_; rintro e w' ⟨rfl, os, n, rfl⟩))
    all_goals go_meet
    all_goals exact ⟨_, _, rfl, rfl, rfl, ⟨by simp (maxDischargeDepth := 12) [go_sem], by simp (maxDischargeDepth := 12) [go_sem]⟩, ⟨by simp (maxDischargeDepth := 12) [go_sem], by simp (maxDischargeDepth := 12) [go_sem]⟩, by repeat (first | assumption | exact Grew.refl _ | apply Grew.drew | apply Grew.drewN | apply Grew.alloc | apply Grew.more)⟩
  rename World => w2
  obtain ⟨p3, p4, rfl, rfl, rfl, hb4, hb5, g'⟩ := hcut
  replace hb0 := hb0.later g'
  replace hb1 := hb1.later g'
  replace hb2 := hb2.later g'
  replace hb3 := hb3.later g'
  replace g := g.trans g'
  clear g'
  clear c0 c1 c2 c3 c4 c5 c6 c7 l0 l1 l2 l3
  obtain ⟨c0, c1⟩ := id hb0
  have l0 := hb0.lt
  obtain ⟨c2, c3⟩ := id hb1
  have l1 := hb1.lt
  obtain ⟨c4, c5⟩ := id hb2
  have l2 := hb2.lt
  obtain ⟨c6, c7⟩ := id hb3
  have l3 := hb3.lt
  obtain ⟨c8, c9⟩ := id hb4
  have l4 := hb4.lt
  obtain ⟨c10, c11⟩ := id hb5
  have l5 := hb5.lt
  go_upto_region 3 with fail
  go_cut [13, 14] from 17 (fun s0 s1 wx => ∃ p5 : Nat, s0 = .pointer (some ⟨p5, 0, none⟩) ∧ s1 = .int .i64 ge ∧ Two wx p5 gx gy ∧ Grew w2 wx)
  case first => as_aux_lemma =>
    clear K Nm Sm D1 D2 G2 C1 C2 N1 N2 T1 T2
    go_region_held2 (fun W => W.cell? ⟨w.heap.size, 0, none⟩ = some (.int .i64 x) ∧ W.cell? ⟨w.heap.size, 1, none⟩ = some (.int .i64 y) ∧ W.cell? ⟨(w.heap.size + 1), 0, none⟩ = some (.int .i64 u) ∧ W.cell? ⟨(w.heap.size + 1), 1, none⟩ = some (.int .i64 v) ∧ W.cell? ⟨p1, 0, none⟩ = some (.int .i64 c1x) ∧ W.cell? ⟨p1, 1, none⟩ = some (.int .i64 c1y) ∧ W.cell? ⟨p2, 0, none⟩ = some (.int .i64 r1x) ∧ W.cell? ⟨p2, 1, none⟩ = some (.int .i64 r1y) ∧ W.cell? ⟨p3, 0, none⟩ = some (.int .i64 c1x) ∧ W.cell? ⟨p3, 1, none⟩ = some (.int .i64 c1y) ∧ W.cell? ⟨p4, 0, none⟩ = some (.int .i64 r1x) ∧ W.cell? ⟨p4, 1, none⟩ = some (.int .i64 r1y)) (simp (maxDischargeDepth := 12) [go_sem, c0, c1, c2, c3, c4, c5, c6, c7, c8, c9, c10, c11, l0, l1, l2, l3, l4, l5])
      ((first
        | (go_at_call_of 9 (Value.int IntKind.i64 x); refine (Oa _ (by repeat (first | assumption | exact Grew.refl _ | apply Grew.drew | apply Grew.drewN | apply Grew.alloc | apply Grew.more))).mono ?_; rintro e w' ⟨rfl, os, n, rfl⟩)
        | (go_at_call_of 9 (Value.int IntKind.i64 u); refine (Ob _ (by repeat (first | assumption | exact Grew.refl _ | apply Grew.drew | apply Grew.drewN | apply Grew.alloc | apply Grew.more))).mono ?_; rintro e w' ⟨rfl, os, n, rfl⟩)
        | (go_at_call 22; refine (G1 _ (by repeat (first | assumption | exact Grew.refl _ | apply Grew.drew | apply Grew.drewN | apply Grew.alloc | apply Grew.more))).mono ?_; rintro e w' ⟨rfl, os, n, rfl⟩)))
    all_goals go_wp2_with fail
    all_goals go_meet
    all_goals exact ⟨_, rfl, rfl, ⟨by simp (maxDischargeDepth := 12) [go_sem], by simp (maxDischargeDepth := 12) [go_sem]⟩, by repeat (first | assumption | exact Grew.refl _ | apply Grew.drew | apply Grew.drewN | apply Grew.alloc | apply Grew.more)⟩
  rename World => w3
  obtain ⟨p5, rfl, rfl, hb6, g'⟩ := hcut
  replace hb0 := hb0.later g'
  replace hb1 := hb1.later g'
  replace hb2 := hb2.later g'
  replace hb3 := hb3.later g'
  replace hb4 := hb4.later g'
  replace hb5 := hb5.later g'
  replace g := g.trans g'
  clear g'
  clear c0 c1 c2 c3 c4 c5 c6 c7 c8 c9 c10 c11 l0 l1 l2 l3 l4 l5
  obtain ⟨c0, c1⟩ := id hb0
  have l0 := hb0.lt
  obtain ⟨c2, c3⟩ := id hb1
  have l1 := hb1.lt
  obtain ⟨c4, c5⟩ := id hb2
  have l2 := hb2.lt
  obtain ⟨c6, c7⟩ := id hb3
  have l3 := hb3.lt
  obtain ⟨c8, c9⟩ := id hb4
  have l4 := hb4.lt
  obtain ⟨c10, c11⟩ := id hb5
  have l5 := hb5.lt
  obtain ⟨c12, c13⟩ := id hb6
  have l6 := hb6.lt
  go_upto_region 4 with fail
  go_cut [15, 16] from 17 (fun s0 s1 wx => ∃ p6 : Nat, s0 = .pointer (some ⟨p6, 0, none⟩) ∧ s1 = .int .i64 ge ∧ Two wx p6 gx gy ∧ Grew w3 wx)
  case first => as_aux_lemma =>
    clear Oa Ob K Nm Sm D1 D2 G1 C1 C2 N1 N2 T1 T2
    go_wp2_with (first
        | (go_at_call 23; refine (G2 _ (by repeat (first | assumption | exact Grew.refl _ | apply Grew.drew | apply Grew.drewN | apply Grew.alloc | apply Grew.more))).mono ?_; rintro e w' ⟨rfl, os, n, rfl⟩))
    all_goals go_meet
    all_goals exact ⟨_, rfl, rfl, ⟨by simp (maxDischargeDepth := 12) [go_sem], by simp (maxDischargeDepth := 12) [go_sem]⟩, by repeat (first | assumption | exact Grew.refl _ | apply Grew.drew | apply Grew.drewN | apply Grew.alloc | apply Grew.more)⟩
  rename World => w4
  obtain ⟨p6, rfl, rfl, hb7, g'⟩ := hcut
  replace hb0 := hb0.later g'
  replace hb1 := hb1.later g'
  replace hb2 := hb2.later g'
  replace hb3 := hb3.later g'
  replace hb4 := hb4.later g'
  replace hb5 := hb5.later g'
  replace hb6 := hb6.later g'
  replace g := g.trans g'
  clear g'
  clear c0 c1 c2 c3 c4 c5 c6 c7 c8 c9 c10 c11 c12 c13 l0 l1 l2 l3 l4 l5 l6
  obtain ⟨c0, c1⟩ := id hb0
  have l0 := hb0.lt
  obtain ⟨c2, c3⟩ := id hb1
  have l1 := hb1.lt
  obtain ⟨c4, c5⟩ := id hb2
  have l2 := hb2.lt
  obtain ⟨c6, c7⟩ := id hb3
  have l3 := hb3.lt
  obtain ⟨c8, c9⟩ := id hb4
  have l4 := hb4.lt
  obtain ⟨c10, c11⟩ := id hb5
  have l5 := hb5.lt
  obtain ⟨c12, c13⟩ := id hb6
  have l6 := hb6.lt
  obtain ⟨c14, c15⟩ := id hb7
  have l7 := hb7.lt
  clear D1 D2 G1 G2 Ob
  go_upto_region 5 with fail
  as_aux_lemma =>
    go_region_held2 (fun W => W.cell? ⟨w.heap.size, 0, none⟩ = some (.int .i64 x) ∧ W.cell? ⟨w.heap.size, 1, none⟩ = some (.int .i64 y) ∧ W.cell? ⟨(w.heap.size + 1), 0, none⟩ = some (.int .i64 u) ∧ W.cell? ⟨(w.heap.size + 1), 1, none⟩ = some (.int .i64 v) ∧ W.cell? ⟨p1, 0, none⟩ = some (.int .i64 c1x) ∧ W.cell? ⟨p1, 1, none⟩ = some (.int .i64 c1y) ∧ W.cell? ⟨p2, 0, none⟩ = some (.int .i64 r1x) ∧ W.cell? ⟨p2, 1, none⟩ = some (.int .i64 r1y) ∧ W.cell? ⟨p3, 0, none⟩ = some (.int .i64 c1x) ∧ W.cell? ⟨p3, 1, none⟩ = some (.int .i64 c1y) ∧ W.cell? ⟨p4, 0, none⟩ = some (.int .i64 r1x) ∧ W.cell? ⟨p4, 1, none⟩ = some (.int .i64 r1y) ∧ W.cell? ⟨p5, 0, none⟩ = some (.int .i64 gx) ∧ W.cell? ⟨p5, 1, none⟩ = some (.int .i64 gy) ∧ W.cell? ⟨p6, 0, none⟩ = some (.int .i64 gx) ∧ W.cell? ⟨p6, 1, none⟩ = some (.int .i64 gy)) (simp (maxDischargeDepth := 12) [go_sem, c0, c1, c2, c3, c4, c5, c6, c7, c8, c9, c10, c11, c12, c13, c14, c15, l0, l1, l2, l3, l4, l5, l6, l7])
      ((first
        | (go_at_call 9; refine (Oa _ (by repeat (first | assumption | exact Grew.refl _ | apply Grew.drew | apply Grew.drewN | apply Grew.alloc | apply Grew.more))).mono ?_; rintro e w' ⟨rfl, os, n, rfl⟩)
        | (go_at_call 17; refine (Sm _ _ _).mono ?_; rintro e w' ⟨rfl, os, n, rfl⟩)
        | (go_at_call 18; refine (Nm _ _).mono ?_; rintro e w' ⟨rfl, rfl⟩)
        | (go_at_call 24; refine (C1 _ (by repeat (first | assumption | exact Grew.refl _ | apply Grew.drew | apply Grew.drewN | apply Grew.alloc | apply Grew.more))).mono ?_; rintro e w' ⟨rfl, os, n, rfl⟩)
        | (go_at_call 25; refine (C2 _ (by repeat (first | assumption | exact Grew.refl _ | apply Grew.drew | apply Grew.drewN | apply Grew.alloc | apply Grew.more))).mono ?_; rintro e w' ⟨rfl, os, n, rfl⟩)
        | (go_at_call 26; refine (N1 _ (by repeat (first | assumption | exact Grew.refl _ | apply Grew.drew | apply Grew.drewN | apply Grew.alloc | apply Grew.more))).mono ?_; rintro e w' ⟨rfl, os, n, rfl⟩)
        | (go_at_call 27; refine (N2 _ (by repeat (first | assumption | exact Grew.refl _ | apply Grew.drew | apply Grew.drewN | apply Grew.alloc | apply Grew.more))).mono ?_; rintro e w' ⟨rfl, os, n, rfl⟩)
        | (go_at_call 28; refine (T1 _ (by repeat (first | assumption | exact Grew.refl _ | apply Grew.drew | apply Grew.drewN | apply Grew.alloc | apply Grew.more))).mono ?_; rintro e w' ⟨rfl, os, n, rfl⟩)
        | (go_at_call 29; refine (T2 _ (by repeat (first | assumption | exact Grew.refl _ | apply Grew.drew | apply Grew.drewN | apply Grew.alloc | apply Grew.more))).mono ?_; rintro e w' ⟨rfl, os, n, rfl⟩)
        | (go_at_call 19; refine (K _ (by repeat (first | assumption | exact Grew.refl _ | apply Grew.drew | apply Grew.drewN | apply Grew.alloc | apply Grew.more))).mono ?_; rintro e w' ⟨rfl, os, n, rfl⟩)))
    all_goals go_wp2_with fail
    all_goals go_ret
    all_goals exact ⟨rfl, by repeat (first | assumption | exact Grew.refl _ | apply Grew.drew | apply Grew.drewN | apply Grew.alloc | apply Grew.more)⟩
end Go.Proofs.Ytidknbdckdinlaa
