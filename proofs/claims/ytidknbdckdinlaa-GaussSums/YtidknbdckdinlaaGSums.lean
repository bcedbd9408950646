/-
  The walk of GaussSums over what its callees give.
-/
import Derived.Test.YtidknbdckdinlaaGBase
namespace Go.Proofs.Ytidknbdckdinlaa
attribute [local go_sem] cell?_more frozen?_more setCell_more more_lt more_more more_drew more_drewN setCell_drewN alloc_drewN

set_option maxRecDepth 10000 in
set_option maxHeartbeats 8000000 in
theorem sums_core (x y u v ax ay ae dx dy de mx my me : Int) (bb : Bool) (w : World)
    (Oa : Gives 9 #[pv x y] w (pv x y)) (Ob : Gives 9 #[pv u v] w (pv u v))
    (K : Gives 19 #[] w (.bool true)) (Sm : ∀ (x y : Int) (W : World), Calls Try.prog 17 #[pv x y, pv x y] W fun e w' => e = .returned (.bool true) ∧ Grew W w') (Nm : ∀ (n : Int) (W : World), Calls Try.prog 18 #[.int .i64 n] W fun e w' => e = .returned (.int .i64 n) ∧ W = w')
    (A1 : Gives 8 #[pv x y, pv u v] w (.tuple #[pv ax ay, .int .i64 ae])) (A2 : Gives 10 #[pv x y, pv u v] w (.tuple #[pv ax ay, .int .i64 ae]))
    (S1 : Gives 11 #[pv x y, pv u v] w (.tuple #[pv dx dy, .int .i64 de])) (S2 : Gives 12 #[pv x y, pv u v] w (.tuple #[pv dx dy, .int .i64 de]))
    (M1 : Gives 13 #[pv x y, pv u v] w (.tuple #[pv mx my, .int .i64 me])) (M2 : Gives 14 #[pv x y, pv u v] w (.tuple #[pv mx my, .int .i64 me]))
    (R1 : Gives 15 #[pv x y] w (.bool bb)) (R2 : Gives 16 #[pv x y] w (.bool bb)) :
    Calls Try.prog 3 #[pv x y, pv u v] w fun e w' => e = .returned (.bool true) ∧ Grew w w' := by
  go_enter Try.func3, Try.ntmps3
  go_upto_region 1 with fail
  have hb0 : Two ((w.alloc (Obj.cells #[Value.int IntKind.i64 x, Value.int IntKind.i64 y] 23)).alloc (Obj.cells #[Value.int IntKind.i64 u, Value.int IntKind.i64 v] 23)) w.heap.size x y := ⟨by simp [go_sem], by simp [go_sem]⟩
  have hb1 : Two ((w.alloc (Obj.cells #[Value.int IntKind.i64 x, Value.int IntKind.i64 y] 23)).alloc (Obj.cells #[Value.int IntKind.i64 u, Value.int IntKind.i64 v] 23)) (w.heap.size + 1) u v := ⟨by simp [go_sem], by simp [go_sem]⟩
  have g : Grew w ((w.alloc (Obj.cells #[Value.int IntKind.i64 x, Value.int IntKind.i64 y] 23)).alloc (Obj.cells #[Value.int IntKind.i64 u, Value.int IntKind.i64 v] 23)) := ((Grew.refl w).alloc _).alloc _
  generalize (w.alloc (Obj.cells #[Value.int IntKind.i64 x, Value.int IntKind.i64 y] 23)).alloc (Obj.cells #[Value.int IntKind.i64 u, Value.int IntKind.i64 v] 23) = w0 at *
  obtain ⟨c0, c1⟩ := id hb0
  have l0 := hb0.lt
  obtain ⟨c2, c3⟩ := id hb1
  have l1 := hb1.lt
  go_upto_region 1 with fail
  go_cut [5, 6] from 17 (fun s0 s1 wx => ∃ p : Nat, s0 = .pointer (some ⟨p, 0, none⟩) ∧ s1 = .int .i64 ae ∧ Two wx p ax ay ∧ Grew w0 wx)
  case first =>
    clear K Sm Nm A2 S1 S2 M1 M2 R1 R2
    go_region_held2 (fun W => W.cell? ⟨w.heap.size, 0, none⟩ = some (.int .i64 x) ∧ W.cell? ⟨w.heap.size, 1, none⟩ = some (.int .i64 y) ∧ W.cell? ⟨(w.heap.size + 1), 0, none⟩ = some (.int .i64 u) ∧ W.cell? ⟨(w.heap.size + 1), 1, none⟩ = some (.int .i64 v)) (simp (maxDischargeDepth := 12) [go_sem, c0, c1, c2, c3, l0, l1])
      ((first
        | (go_at_call_of 9 (Value.int IntKind.i64 x); refine (Oa _ (by repeat (first | assumption | exact Grew.refl _ | apply Grew.drew | apply Grew.drewN | apply Grew.alloc | apply Grew.more))).mono ?_; rintro e w' ⟨rfl, os, n, rfl⟩)
        | (go_at_call_of 9 (Value.int IntKind.i64 u); refine (Ob _ (by repeat (first | assumption | exact Grew.refl _ | apply Grew.drew | apply Grew.drewN | apply Grew.alloc | apply Grew.more))).mono ?_; rintro e w' ⟨rfl, os, n, rfl⟩)
        | (go_at_call 8; refine (A1 _ (by repeat (first | assumption | exact Grew.refl _ | apply Grew.drew | apply Grew.drewN | apply Grew.alloc | apply Grew.more))).mono ?_; rintro e w' ⟨rfl, os, n, rfl⟩)))
    all_goals go_wp2_with fail
    all_goals go_meet
    all_goals exact ⟨_, rfl, rfl, ⟨by simp (maxDischargeDepth := 12) [go_sem], by simp (maxDischargeDepth := 12) [go_sem]⟩, by repeat (first | assumption | exact Grew.refl _ | apply Grew.drew | apply Grew.drewN | apply Grew.alloc | apply Grew.more)⟩
  rename World => w1
  obtain ⟨p, rfl, rfl, hb2, g'⟩ := hcut
  replace hb0 := hb0.later g'
  replace hb1 := hb1.later g'
  replace g := g.trans g'
  clear g'
  clear c0 c1 c2 c3 l0 l1
  obtain ⟨c0, c1⟩ := id hb0
  have l0 := hb0.lt
  obtain ⟨c2, c3⟩ := id hb1
  have l1 := hb1.lt
  obtain ⟨c4, c5⟩ := id hb2
  have l2 := hb2.lt
  go_upto_region 2 with fail
  go_cut [7, 8] from 17 (fun s0 s1 wx => ∃ q : Nat, s0 = .pointer (some ⟨q, 0, none⟩) ∧ s1 = .int .i64 ae ∧ Two wx q ax ay ∧ Grew w1 wx)
  case first =>
    clear Oa Ob K Sm Nm A1 S1 S2 M1 M2 R1 R2
    go_wp2_with (first
        | (go_at_call 10; refine (A2 _ (by repeat (first | assumption | exact Grew.refl _ | apply Grew.drew | apply Grew.drewN | apply Grew.alloc | apply Grew.more))).mono ?_; rintro e w' ⟨rfl, os, n, rfl⟩))
    all_goals go_meet
    all_goals exact ⟨_, rfl, rfl, ⟨by simp (maxDischargeDepth := 12) [go_sem], by simp (maxDischargeDepth := 12) [go_sem]⟩, by repeat (first | assumption | exact Grew.refl _ | apply Grew.drew | apply Grew.drewN | apply Grew.alloc | apply Grew.more)⟩
  rename World => w2
  obtain ⟨q, rfl, rfl, hb3, g'⟩ := hcut
  replace hb0 := hb0.later g'
  replace hb1 := hb1.later g'
  replace hb2 := hb2.later g'
  replace g := g.trans g'
  clear g'
  clear c0 c1 c2 c3 c4 c5 l0 l1 l2
  obtain ⟨c0, c1⟩ := id hb0
  have l0 := hb0.lt
  obtain ⟨c2, c3⟩ := id hb1
  have l1 := hb1.lt
  obtain ⟨c4, c5⟩ := id hb2
  have l2 := hb2.lt
  obtain ⟨c6, c7⟩ := id hb3
  have l3 := hb3.lt
  go_upto_region 3 with fail
  go_cut [9, 10] from 17 (fun s0 s1 wx => ∃ r : Nat, s0 = .pointer (some ⟨r, 0, none⟩) ∧ s1 = .int .i64 de ∧ Two wx r dx dy ∧ Grew w2 wx)
  case first =>
    clear K Sm Nm A1 A2 S2 M1 M2 R1 R2
    go_region_held2 (fun W => W.cell? ⟨w.heap.size, 0, none⟩ = some (.int .i64 x) ∧ W.cell? ⟨w.heap.size, 1, none⟩ = some (.int .i64 y) ∧ W.cell? ⟨(w.heap.size + 1), 0, none⟩ = some (.int .i64 u) ∧ W.cell? ⟨(w.heap.size + 1), 1, none⟩ = some (.int .i64 v) ∧ W.cell? ⟨p, 0, none⟩ = some (.int .i64 ax) ∧ W.cell? ⟨p, 1, none⟩ = some (.int .i64 ay) ∧ W.cell? ⟨q, 0, none⟩ = some (.int .i64 ax) ∧ W.cell? ⟨q, 1, none⟩ = some (.int .i64 ay)) (simp (maxDischargeDepth := 12) [go_sem, c0, c1, c2, c3, c4, c5, c6, c7, l0, l1, l2, l3])
      ((first
        | (go_at_call_of 9 (Value.int IntKind.i64 x); refine (Oa _ (by repeat (first | assumption | exact Grew.refl _ | apply Grew.drew | apply Grew.drewN | apply Grew.alloc | apply Grew.more))).mono ?_; rintro e w' ⟨rfl, os, n, rfl⟩)
        | (go_at_call_of 9 (Value.int IntKind.i64 u); refine (Ob _ (by repeat (first | assumption | exact Grew.refl _ | apply Grew.drew | apply Grew.drewN | apply Grew.alloc | apply Grew.more))).mono ?_; rintro e w' ⟨rfl, os, n, rfl⟩)
        | (go_at_call 11; refine (S1 _ (by repeat (first | assumption | exact Grew.refl _ | apply Grew.drew | apply Grew.drewN | apply Grew.alloc | apply Grew.more))).mono ?_; rintro e w' ⟨rfl, os, n, rfl⟩)))
    all_goals go_wp2_with fail
    all_goals go_meet
    all_goals exact ⟨_, rfl, rfl, ⟨by simp (maxDischargeDepth := 12) [go_sem], by simp (maxDischargeDepth := 12) [go_sem]⟩, by repeat (first | assumption | exact Grew.refl _ | apply Grew.drew | apply Grew.drewN | apply Grew.alloc | apply Grew.more)⟩
  rename World => w3
  obtain ⟨r, rfl, rfl, hb4, g'⟩ := hcut
  replace hb0 := hb0.later g'
  replace hb1 := hb1.later g'
  replace hb2 := hb2.later g'
  replace hb3 := hb3.later g'
  replace g := g.trans g'
  clear g'
  clear c0 c1 c2 c3 c4 c5 c6 c7 l0 l1 l2 l3
  obtain ⟨c0, c1⟩ := id hb0
  have l0 := hb0.lt
  obtain ⟨c2, c3⟩ := id hb1
  have l1 := hb1.lt
  obtain ⟨c4, c5⟩ := id hb2
  have l2 := hb2.lt
  obtain ⟨c6, c7⟩ := id hb3
  have l3 := hb3.lt
  obtain ⟨c8, c9⟩ := id hb4
  have l4 := hb4.lt
  go_upto_region 4 with fail
  go_cut [11, 12] from 17 (fun s0 s1 wx => ∃ s : Nat, s0 = .pointer (some ⟨s, 0, none⟩) ∧ s1 = .int .i64 de ∧ Two wx s dx dy ∧ Grew w3 wx)
  case first =>
    clear Oa Ob K Sm Nm A1 A2 S1 M1 M2 R1 R2
    go_wp2_with (first
        | (go_at_call 12; refine (S2 _ (by repeat (first | assumption | exact Grew.refl _ | apply Grew.drew | apply Grew.drewN | apply Grew.alloc | apply Grew.more))).mono ?_; rintro e w' ⟨rfl, os, n, rfl⟩))
    all_goals go_meet
    all_goals exact ⟨_, rfl, rfl, ⟨by simp (maxDischargeDepth := 12) [go_sem], by simp (maxDischargeDepth := 12) [go_sem]⟩, by repeat (first | assumption | exact Grew.refl _ | apply Grew.drew | apply Grew.drewN | apply Grew.alloc | apply Grew.more)⟩
  rename World => w4
  obtain ⟨s, rfl, rfl, hb5, g'⟩ := hcut
  replace hb0 := hb0.later g'
  replace hb1 := hb1.later g'
  replace hb2 := hb2.later g'
  replace hb3 := hb3.later g'
  replace hb4 := hb4.later g'
  replace g := g.trans g'
  clear g'
  clear c0 c1 c2 c3 c4 c5 c6 c7 c8 c9 l0 l1 l2 l3 l4
  obtain ⟨c0, c1⟩ := id hb0
  have l0 := hb0.lt
  obtain ⟨c2, c3⟩ := id hb1
  have l1 := hb1.lt
  obtain ⟨c4, c5⟩ := id hb2
  have l2 := hb2.lt
  obtain ⟨c6, c7⟩ := id hb3
  have l3 := hb3.lt
  obtain ⟨c8, c9⟩ := id hb4
  have l4 := hb4.lt
  obtain ⟨c10, c11⟩ := id hb5
  have l5 := hb5.lt
  go_upto_region 5 with fail
  go_cut [13, 14] from 17 (fun s0 s1 wx => ∃ t : Nat, s0 = .pointer (some ⟨t, 0, none⟩) ∧ s1 = .int .i64 me ∧ Two wx t mx my ∧ Grew w4 wx)
  case first =>
    clear K Sm Nm A1 A2 S1 S2 M2 R1 R2
    go_region_held2 (fun W => W.cell? ⟨w.heap.size, 0, none⟩ = some (.int .i64 x) ∧ W.cell? ⟨w.heap.size, 1, none⟩ = some (.int .i64 y) ∧ W.cell? ⟨(w.heap.size + 1), 0, none⟩ = some (.int .i64 u) ∧ W.cell? ⟨(w.heap.size + 1), 1, none⟩ = some (.int .i64 v) ∧ W.cell? ⟨p, 0, none⟩ = some (.int .i64 ax) ∧ W.cell? ⟨p, 1, none⟩ = some (.int .i64 ay) ∧ W.cell? ⟨q, 0, none⟩ = some (.int .i64 ax) ∧ W.cell? ⟨q, 1, none⟩ = some (.int .i64 ay) ∧ W.cell? ⟨r, 0, none⟩ = some (.int .i64 dx) ∧ W.cell? ⟨r, 1, none⟩ = some (.int .i64 dy) ∧ W.cell? ⟨s, 0, none⟩ = some (.int .i64 dx) ∧ W.cell? ⟨s, 1, none⟩ = some (.int .i64 dy)) (simp (maxDischargeDepth := 12) [go_sem, c0, c1, c2, c3, c4, c5, c6, c7, c8, c9, c10, c11, l0, l1, l2, l3, l4, l5])
      ((first
        | (go_at_call_of 9 (Value.int IntKind.i64 x); refine (Oa _ (by repeat (first | assumption | exact Grew.refl _ | apply Grew.drew | apply Grew.drewN | apply Grew.alloc | apply Grew.more))).mono ?_; rintro e w' ⟨rfl, os, n, rfl⟩)
        | (go_at_call_of 9 (Value.int IntKind.i64 u); refine (Ob _ (by repeat (first | assumption | exact Grew.refl _ | apply Grew.drew | apply Grew.drewN | apply Grew.alloc | apply Grew.more))).mono ?_; rintro e w' ⟨rfl, os, n, rfl⟩)
        | (go_at_call 13; refine (M1 _ (by repeat (first | assumption | exact Grew.refl _ | apply Grew.drew | apply Grew.drewN | apply Grew.alloc | apply Grew.more))).mono ?_; rintro e w' ⟨rfl, os, n, rfl⟩)))
    all_goals go_wp2_with fail
    all_goals go_meet
    all_goals exact ⟨_, rfl, rfl, ⟨by simp (maxDischargeDepth := 12) [go_sem], by simp (maxDischargeDepth := 12) [go_sem]⟩, by repeat (first | assumption | exact Grew.refl _ | apply Grew.drew | apply Grew.drewN | apply Grew.alloc | apply Grew.more)⟩
  rename World => w5
  obtain ⟨t, rfl, rfl, hb6, g'⟩ := hcut
  replace hb0 := hb0.later g'
  replace hb1 := hb1.later g'
  replace hb2 := hb2.later g'
  replace hb3 := hb3.later g'
  replace hb4 := hb4.later g'
  replace hb5 := hb5.later g'
  replace g := g.trans g'
  clear g'
  clear c0 c1 c2 c3 c4 c5 c6 c7 c8 c9 c10 c11 l0 l1 l2 l3 l4 l5
  obtain ⟨c0, c1⟩ := id hb0
  have l0 := hb0.lt
  obtain ⟨c2, c3⟩ := id hb1
  have l1 := hb1.lt
  obtain ⟨c4, c5⟩ := id hb2
  have l2 := hb2.lt
  obtain ⟨c6, c7⟩ := id hb3
  have l3 := hb3.lt
  obtain ⟨c8, c9⟩ := id hb4
  have l4 := hb4.lt
  obtain ⟨c10, c11⟩ := id hb5
  have l5 := hb5.lt
  obtain ⟨c12, c13⟩ := id hb6
  have l6 := hb6.lt
  go_upto_region 6 with fail
  go_cut [15, 16] from 17 (fun s0 s1 wx => ∃ z : Nat, s0 = .pointer (some ⟨z, 0, none⟩) ∧ s1 = .int .i64 me ∧ Two wx z mx my ∧ Grew w5 wx)
  case first =>
    clear Oa Ob K Sm Nm A1 A2 S1 S2 M1 R1 R2
    go_wp2_with (first
        | (go_at_call 14; refine (M2 _ (by repeat (first | assumption | exact Grew.refl _ | apply Grew.drew | apply Grew.drewN | apply Grew.alloc | apply Grew.more))).mono ?_; rintro e w' ⟨rfl, os, n, rfl⟩))
    all_goals go_meet
    all_goals exact ⟨_, rfl, rfl, ⟨by simp (maxDischargeDepth := 12) [go_sem], by simp (maxDischargeDepth := 12) [go_sem]⟩, by repeat (first | assumption | exact Grew.refl _ | apply Grew.drew | apply Grew.drewN | apply Grew.alloc | apply Grew.more)⟩
  rename World => w6
  obtain ⟨z, rfl, rfl, hb7, g'⟩ := hcut
  replace hb0 := hb0.later g'
  replace hb1 := hb1.later g'
  replace hb2 := hb2.later g'
  replace hb3 := hb3.later g'
  replace hb4 := hb4.later g'
  replace hb5 := hb5.later g'
  replace hb6 := hb6.later g'
  replace g := g.trans g'
  clear g'
  clear c0 c1 c2 c3 c4 c5 c6 c7 c8 c9 c10 c11 c12 c13 l0 l1 l2 l3 l4 l5 l6
  obtain ⟨c0, c1⟩ := id hb0
  have l0 := hb0.lt
  obtain ⟨c2, c3⟩ := id hb1
  have l1 := hb1.lt
  obtain ⟨c4, c5⟩ := id hb2
  have l2 := hb2.lt
  obtain ⟨c6, c7⟩ := id hb3
  have l3 := hb3.lt
  obtain ⟨c8, c9⟩ := id hb4
  have l4 := hb4.lt
  obtain ⟨c10, c11⟩ := id hb5
  have l5 := hb5.lt
  obtain ⟨c12, c13⟩ := id hb6
  have l6 := hb6.lt
  obtain ⟨c14, c15⟩ := id hb7
  have l7 := hb7.lt
  clear A1 A2 S1 S2 M1 M2
  go_upto_region 7 with fail
  go_region_held2 (fun W => W.cell? ⟨w.heap.size, 0, none⟩ = some (.int .i64 x) ∧ W.cell? ⟨w.heap.size, 1, none⟩ = some (.int .i64 y) ∧ W.cell? ⟨(w.heap.size + 1), 0, none⟩ = some (.int .i64 u) ∧ W.cell? ⟨(w.heap.size + 1), 1, none⟩ = some (.int .i64 v) ∧ W.cell? ⟨p, 0, none⟩ = some (.int .i64 ax) ∧ W.cell? ⟨p, 1, none⟩ = some (.int .i64 ay) ∧ W.cell? ⟨q, 0, none⟩ = some (.int .i64 ax) ∧ W.cell? ⟨q, 1, none⟩ = some (.int .i64 ay) ∧ W.cell? ⟨r, 0, none⟩ = some (.int .i64 dx) ∧ W.cell? ⟨r, 1, none⟩ = some (.int .i64 dy) ∧ W.cell? ⟨s, 0, none⟩ = some (.int .i64 dx) ∧ W.cell? ⟨s, 1, none⟩ = some (.int .i64 dy) ∧ W.cell? ⟨t, 0, none⟩ = some (.int .i64 mx) ∧ W.cell? ⟨t, 1, none⟩ = some (.int .i64 my) ∧ W.cell? ⟨z, 0, none⟩ = some (.int .i64 mx) ∧ W.cell? ⟨z, 1, none⟩ = some (.int .i64 my)) (simp (maxDischargeDepth := 12) [go_sem, c0, c1, c2, c3, c4, c5, c6, c7, c8, c9, c10, c11, c12, c13, c14, c15, l0, l1, l2, l3, l4, l5, l6, l7])
      ((first
        | (go_at_call_of 9 (Value.int IntKind.i64 x); refine (Oa _ (by repeat (first | assumption | exact Grew.refl _ | apply Grew.drew | apply Grew.drewN | apply Grew.alloc | apply Grew.more))).mono ?_; rintro e w' ⟨rfl, os, n, rfl⟩)
        | (go_at_call 17; refine (Sm _ _ _).mono ?_; rintro e w' ⟨rfl, os, n, rfl⟩)
        | (go_at_call 18; refine (Nm _ _).mono ?_; rintro e w' ⟨rfl, rfl⟩)
        | (go_at_call 15; refine (R1 _ (by repeat (first | assumption | exact Grew.refl _ | apply Grew.drew | apply Grew.drewN | apply Grew.alloc | apply Grew.more))).mono ?_; rintro e w' ⟨rfl, os, n, rfl⟩)
        | (go_at_call 16; refine (R2 _ (by repeat (first | assumption | exact Grew.refl _ | apply Grew.drew | apply Grew.drewN | apply Grew.alloc | apply Grew.more))).mono ?_; rintro e w' ⟨rfl, os, n, rfl⟩)
        | (go_at_call 19; refine (K _ (by repeat (first | assumption | exact Grew.refl _ | apply Grew.drew | apply Grew.drewN | apply Grew.alloc | apply Grew.more))).mono ?_; rintro e w' ⟨rfl, os, n, rfl⟩)))
  all_goals go_wp2_with fail
  all_goals go_ret
  all_goals exact ⟨rfl, by repeat (first | assumption | exact Grew.refl _ | apply Grew.drew | apply Grew.drewN | apply Grew.alloc | apply Grew.more)⟩
end Go.Proofs.Ytidknbdckdinlaa
