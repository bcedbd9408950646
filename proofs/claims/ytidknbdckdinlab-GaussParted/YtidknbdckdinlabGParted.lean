/-
  The walks of GaussParted over what its callees give.
-/
import Derived.Test.YtidknbdckdinlabGBase
namespace Go.Proofs.Ytidknbdckdinlab
attribute [local go_sem] cell?_more frozen?_more setCell_more more_lt more_more more_drew more_drewN setCell_drewN alloc_drewN

set_option maxRecDepth 10000 in
set_option maxHeartbeats 8000000 in
theorem parted_bad (x y u v r t ax ay ae bx by1 be cx cy ce sx sy se q1 q2 q3 : Int) (w : World)
    (Oa : Gives 5 #[pv x y] w (pv x y)) (Ob : Gives 5 #[pv u v] w (pv u v)) (Oc : Gives 5 #[pv r t] w (pv r t))
    (K : Gives 8 #[] w (.bool true)) (Nm : ∀ (n : Int) (W : World), Calls Try.prog 7 #[.int .i64 n] W fun e w' => e = .returned (.int .i64 n) ∧ W = w')
    (M1 : Gives 4 #[pv x y, pv u v] w (.tuple #[pv ax ay, .int .i64 ae])) (M2 : Gives 4 #[pv u v, pv r t] w (.tuple #[pv bx by1, .int .i64 be]))
    (M3 : Gives 4 #[pv x y, pv r t] w (.tuple #[pv cx cy, .int .i64 ce])) (A4 : Gives 6 #[pv u v, pv r t] w (.tuple #[pv sx sy, .int .i64 se]))
    (e1 : IntKind.i64.wrap (ae + be) = q1) (e2 : IntKind.i64.wrap (q1 + ce) = q2) (e3 : IntKind.i64.wrap (q2 + se) = q3) (hq : ¬ q3 = 0) :
    Calls Try.prog 3 #[pv x y, pv u v, pv r t] w fun e w' => e = .returned (.bool true) ∧ Grew w w' := by
  go_enter Try.func3, Try.ntmps3
  go_upto_region 1 with fail
  have hb0 : Two (((w.alloc (Obj.cells #[Value.int IntKind.i64 x, Value.int IntKind.i64 y] 23)).alloc (Obj.cells #[Value.int IntKind.i64 u, Value.int IntKind.i64 v] 23)).alloc (Obj.cells #[Value.int IntKind.i64 r, Value.int IntKind.i64 t] 23)) w.heap.size x y := ⟨by simp [go_sem], by simp [go_sem]⟩
  have hb1 : Two (((w.alloc (Obj.cells #[Value.int IntKind.i64 x, Value.int IntKind.i64 y] 23)).alloc (Obj.cells #[Value.int IntKind.i64 u, Value.int IntKind.i64 v] 23)).alloc (Obj.cells #[Value.int IntKind.i64 r, Value.int IntKind.i64 t] 23)) (w.heap.size + 1) u v := ⟨by simp [go_sem], by simp [go_sem]⟩
  have hb2 : Two (((w.alloc (Obj.cells #[Value.int IntKind.i64 x, Value.int IntKind.i64 y] 23)).alloc (Obj.cells #[Value.int IntKind.i64 u, Value.int IntKind.i64 v] 23)).alloc (Obj.cells #[Value.int IntKind.i64 r, Value.int IntKind.i64 t] 23)) (w.heap.size + 1 + 1) r t := ⟨by simp [go_sem], by simp [go_sem]⟩
  have g : Grew w (((w.alloc (Obj.cells #[Value.int IntKind.i64 x, Value.int IntKind.i64 y] 23)).alloc (Obj.cells #[Value.int IntKind.i64 u, Value.int IntKind.i64 v] 23)).alloc (Obj.cells #[Value.int IntKind.i64 r, Value.int IntKind.i64 t] 23)) := (((Grew.refl w).alloc _).alloc _).alloc _
  generalize ((w.alloc (Obj.cells #[Value.int IntKind.i64 x, Value.int IntKind.i64 y] 23)).alloc (Obj.cells #[Value.int IntKind.i64 u, Value.int IntKind.i64 v] 23)).alloc (Obj.cells #[Value.int IntKind.i64 r, Value.int IntKind.i64 t] 23) = w0 at *
  obtain ⟨c0, c1⟩ := id hb0
  have l0 := hb0.lt
  obtain ⟨c2, c3⟩ := id hb1
  have l1 := hb1.lt
  obtain ⟨c4, c5⟩ := id hb2
  have l2 := hb2.lt
  go_upto_region 1 with fail
  go_cut [7, 8] from 23 (fun s0 s1 wx => ∃ pa : Nat, s0 = .pointer (some ⟨pa, 0, none⟩) ∧ s1 = .int .i64 ae ∧ Two wx pa ax ay ∧ Grew w0 wx)
  case first =>
    clear Oc K Nm M2 M3 A4 e1 e2 e3 hq
    go_region_held2 (fun W => W.cell? ⟨w.heap.size, 0, none⟩ = some (.int .i64 x) ∧ W.cell? ⟨w.heap.size, 1, none⟩ = some (.int .i64 y) ∧ W.cell? ⟨(w.heap.size + 1), 0, none⟩ = some (.int .i64 u) ∧ W.cell? ⟨(w.heap.size + 1), 1, none⟩ = some (.int .i64 v) ∧ W.cell? ⟨(w.heap.size + 1 + 1), 0, none⟩ = some (.int .i64 r) ∧ W.cell? ⟨(w.heap.size + 1 + 1), 1, none⟩ = some (.int .i64 t)) (simp (maxDischargeDepth := 12) [go_sem, c0, c1, c2, c3, c4, c5, l0, l1, l2])
      ((first
        | (go_at_call_of 5 (Value.int IntKind.i64 x); refine (Oa _ (by repeat (first | assumption | exact Grew.refl _ | apply Grew.drew | apply Grew.drewN | apply Grew.alloc | apply Grew.more))).mono ?_; rintro e w' ⟨rfl, os, n, rfl⟩)
        | (go_at_call_of 5 (Value.int IntKind.i64 u); refine (Ob _ (by repeat (first | assumption | exact Grew.refl _ | apply Grew.drew | apply Grew.drewN | apply Grew.alloc | apply Grew.more))).mono ?_; rintro e w' ⟨rfl, os, n, rfl⟩)
        | (go_at_call 4; refine (M1 _ (by repeat (first | assumption | exact Grew.refl _ | apply Grew.drew | apply Grew.drewN | apply Grew.alloc | apply Grew.more))).mono ?_; rintro e w' ⟨rfl, os, n, rfl⟩)))
    all_goals go_wp2_with fail
    all_goals go_meet
    all_goals exact ⟨_, rfl, rfl, ⟨by simp (maxDischargeDepth := 12) [go_sem], by simp (maxDischargeDepth := 12) [go_sem]⟩, by repeat (first | assumption | exact Grew.refl _ | apply Grew.drew | apply Grew.drewN | apply Grew.alloc | apply Grew.more)⟩
  rename World => w1
  obtain ⟨pa, rfl, rfl, hb3, g'⟩ := hcut
  replace hb0 := hb0.later g'
  replace hb1 := hb1.later g'
  replace hb2 := hb2.later g'
  replace g := g.trans g'
  clear g'
  clear c0 c1 c2 c3 c4 c5 l0 l1 l2
  obtain ⟨c0, c1⟩ := id hb0
  have l0 := hb0.lt
  obtain ⟨c2, c3⟩ := id hb1
  have l1 := hb1.lt
  obtain ⟨c4, c5⟩ := id hb2
  have l2 := hb2.lt
  obtain ⟨c6, c7⟩ := id hb3
  have l3 := hb3.lt
  go_upto_region 2 with fail
  go_cut [9, 10] from 23 (fun s0 s1 wx => ∃ pb : Nat, s0 = .pointer (some ⟨pb, 0, none⟩) ∧ s1 = .int .i64 be ∧ Two wx pb bx by1 ∧ Grew w1 wx)
  case first =>
    clear Oa K Nm M1 M3 A4 e1 e2 e3 hq
    go_region_held2 (fun W => W.cell? ⟨w.heap.size, 0, none⟩ = some (.int .i64 x) ∧ W.cell? ⟨w.heap.size, 1, none⟩ = some (.int .i64 y) ∧ W.cell? ⟨(w.heap.size + 1), 0, none⟩ = some (.int .i64 u) ∧ W.cell? ⟨(w.heap.size + 1), 1, none⟩ = some (.int .i64 v) ∧ W.cell? ⟨(w.heap.size + 1 + 1), 0, none⟩ = some (.int .i64 r) ∧ W.cell? ⟨(w.heap.size + 1 + 1), 1, none⟩ = some (.int .i64 t) ∧ W.cell? ⟨pa, 0, none⟩ = some (.int .i64 ax) ∧ W.cell? ⟨pa, 1, none⟩ = some (.int .i64 ay)) (simp (maxDischargeDepth := 12) [go_sem, c0, c1, c2, c3, c4, c5, c6, c7, l0, l1, l2, l3])
      ((first
        | (go_at_call_of 5 (Value.int IntKind.i64 u); refine (Ob _ (by repeat (first | assumption | exact Grew.refl _ | apply Grew.drew | apply Grew.drewN | apply Grew.alloc | apply Grew.more))).mono ?_; rintro e w' ⟨rfl, os, n, rfl⟩)
        | (go_at_call_of 5 (Value.int IntKind.i64 r); refine (Oc _ (by repeat (first | assumption | exact Grew.refl _ | apply Grew.drew | apply Grew.drewN | apply Grew.alloc | apply Grew.more))).mono ?_; rintro e w' ⟨rfl, os, n, rfl⟩)
        | (go_at_call 4; refine (M2 _ (by repeat (first | assumption | exact Grew.refl _ | apply Grew.drew | apply Grew.drewN | apply Grew.alloc | apply Grew.more))).mono ?_; rintro e w' ⟨rfl, os, n, rfl⟩)))
    all_goals go_wp2_with fail
    all_goals go_meet
    all_goals exact ⟨_, rfl, rfl, ⟨by simp (maxDischargeDepth := 12) [go_sem], by simp (maxDischargeDepth := 12) [go_sem]⟩, by repeat (first | assumption | exact Grew.refl _ | apply Grew.drew | apply Grew.drewN | apply Grew.alloc | apply Grew.more)⟩
  rename World => w2
  obtain ⟨pb, rfl, rfl, hb4, g'⟩ := hcut
  replace hb0 := hb0.later g'
  replace hb1 := hb1.later g'
  replace hb2 := hb2.later g'
  replace hb3 := hb3.later g'
  replace g := g.trans g'
  clear g'
  clear c0 c1 c2 c3 c4 c5 c6 c7 l0 l1 l2 l3
  obtain ⟨c0, c1⟩ := id hb0
  have l0 := hb0.lt
  obtain ⟨c2, c3⟩ := id hb1
  have l1 := hb1.lt
  obtain ⟨c4, c5⟩ := id hb2
  have l2 := hb2.lt
  obtain ⟨c6, c7⟩ := id hb3
  have l3 := hb3.lt
  obtain ⟨c8, c9⟩ := id hb4
  have l4 := hb4.lt
  go_upto_region 3 with fail
  go_cut [11, 12] from 23 (fun s0 s1 wx => ∃ pc : Nat, s0 = .pointer (some ⟨pc, 0, none⟩) ∧ s1 = .int .i64 ce ∧ Two wx pc cx cy ∧ Grew w2 wx)
  case first =>
    clear Ob K Nm M1 M2 A4 e1 e2 e3 hq
    go_region_held2 (fun W => W.cell? ⟨w.heap.size, 0, none⟩ = some (.int .i64 x) ∧ W.cell? ⟨w.heap.size, 1, none⟩ = some (.int .i64 y) ∧ W.cell? ⟨(w.heap.size + 1), 0, none⟩ = some (.int .i64 u) ∧ W.cell? ⟨(w.heap.size + 1), 1, none⟩ = some (.int .i64 v) ∧ W.cell? ⟨(w.heap.size + 1 + 1), 0, none⟩ = some (.int .i64 r) ∧ W.cell? ⟨(w.heap.size + 1 + 1), 1, none⟩ = some (.int .i64 t) ∧ W.cell? ⟨pa, 0, none⟩ = some (.int .i64 ax) ∧ W.cell? ⟨pa, 1, none⟩ = some (.int .i64 ay) ∧ W.cell? ⟨pb, 0, none⟩ = some (.int .i64 bx) ∧ W.cell? ⟨pb, 1, none⟩ = some (.int .i64 by1)) (simp (maxDischargeDepth := 12) [go_sem, c0, c1, c2, c3, c4, c5, c6, c7, c8, c9, l0, l1, l2, l3, l4])
      ((first
        | (go_at_call_of 5 (Value.int IntKind.i64 x); refine (Oa _ (by repeat (first | assumption | exact Grew.refl _ | apply Grew.drew | apply Grew.drewN | apply Grew.alloc | apply Grew.more))).mono ?_; rintro e w' ⟨rfl, os, n, rfl⟩)
        | (go_at_call_of 5 (Value.int IntKind.i64 r); refine (Oc _ (by repeat (first | assumption | exact Grew.refl _ | apply Grew.drew | apply Grew.drewN | apply Grew.alloc | apply Grew.more))).mono ?_; rintro e w' ⟨rfl, os, n, rfl⟩)
        | (go_at_call 4; refine (M3 _ (by repeat (first | assumption | exact Grew.refl _ | apply Grew.drew | apply Grew.drewN | apply Grew.alloc | apply Grew.more))).mono ?_; rintro e w' ⟨rfl, os, n, rfl⟩)))
    all_goals go_wp2_with fail
    all_goals go_meet
    all_goals exact ⟨_, rfl, rfl, ⟨by simp (maxDischargeDepth := 12) [go_sem], by simp (maxDischargeDepth := 12) [go_sem]⟩, by repeat (first | assumption | exact Grew.refl _ | apply Grew.drew | apply Grew.drewN | apply Grew.alloc | apply Grew.more)⟩
  rename World => w3
  obtain ⟨pc, rfl, rfl, hb5, g'⟩ := hcut
  replace hb0 := hb0.later g'
  replace hb1 := hb1.later g'
  replace hb2 := hb2.later g'
  replace hb3 := hb3.later g'
  replace hb4 := hb4.later g'
  replace g := g.trans g'
  clear g'
  clear c0 c1 c2 c3 c4 c5 c6 c7 c8 c9 l0 l1 l2 l3 l4
  obtain ⟨c0, c1⟩ := id hb0
  have l0 := hb0.lt
  obtain ⟨c2, c3⟩ := id hb1
  have l1 := hb1.lt
  obtain ⟨c4, c5⟩ := id hb2
  have l2 := hb2.lt
  obtain ⟨c6, c7⟩ := id hb3
  have l3 := hb3.lt
  obtain ⟨c8, c9⟩ := id hb4
  have l4 := hb4.lt
  obtain ⟨c10, c11⟩ := id hb5
  have l5 := hb5.lt
  go_upto_region 4 with fail
  go_cut [13, 14] from 23 (fun s0 s1 wx => ∃ ps : Nat, s0 = .pointer (some ⟨ps, 0, none⟩) ∧ s1 = .int .i64 se ∧ Two wx ps sx sy ∧ Grew w3 wx)
  case first =>
    clear Oa K Nm M1 M2 M3 e1 e2 e3 hq
    go_region_held2 (fun W => W.cell? ⟨w.heap.size, 0, none⟩ = some (.int .i64 x) ∧ W.cell? ⟨w.heap.size, 1, none⟩ = some (.int .i64 y) ∧ W.cell? ⟨(w.heap.size + 1), 0, none⟩ = some (.int .i64 u) ∧ W.cell? ⟨(w.heap.size + 1), 1, none⟩ = some (.int .i64 v) ∧ W.cell? ⟨(w.heap.size + 1 + 1), 0, none⟩ = some (.int .i64 r) ∧ W.cell? ⟨(w.heap.size + 1 + 1), 1, none⟩ = some (.int .i64 t) ∧ W.cell? ⟨pa, 0, none⟩ = some (.int .i64 ax) ∧ W.cell? ⟨pa, 1, none⟩ = some (.int .i64 ay) ∧ W.cell? ⟨pb, 0, none⟩ = some (.int .i64 bx) ∧ W.cell? ⟨pb, 1, none⟩ = some (.int .i64 by1) ∧ W.cell? ⟨pc, 0, none⟩ = some (.int .i64 cx) ∧ W.cell? ⟨pc, 1, none⟩ = some (.int .i64 cy)) (simp (maxDischargeDepth := 12) [go_sem, c0, c1, c2, c3, c4, c5, c6, c7, c8, c9, c10, c11, l0, l1, l2, l3, l4, l5])
      ((first
        | (go_at_call_of 5 (Value.int IntKind.i64 u); refine (Ob _ (by repeat (first | assumption | exact Grew.refl _ | apply Grew.drew | apply Grew.drewN | apply Grew.alloc | apply Grew.more))).mono ?_; rintro e w' ⟨rfl, os, n, rfl⟩)
        | (go_at_call_of 5 (Value.int IntKind.i64 r); refine (Oc _ (by repeat (first | assumption | exact Grew.refl _ | apply Grew.drew | apply Grew.drewN | apply Grew.alloc | apply Grew.more))).mono ?_; rintro e w' ⟨rfl, os, n, rfl⟩)
        | (go_at_call 6; refine (A4 _ (by repeat (first | assumption | exact Grew.refl _ | apply Grew.drew | apply Grew.drewN | apply Grew.alloc | apply Grew.more))).mono ?_; rintro e w' ⟨rfl, os, n, rfl⟩)))
    all_goals go_wp2_with fail
    all_goals go_meet
    all_goals exact ⟨_, rfl, rfl, ⟨by simp (maxDischargeDepth := 12) [go_sem], by simp (maxDischargeDepth := 12) [go_sem]⟩, by repeat (first | assumption | exact Grew.refl _ | apply Grew.drew | apply Grew.drewN | apply Grew.alloc | apply Grew.more)⟩
  rename World => w4
  obtain ⟨ps, rfl, rfl, hb6, g'⟩ := hcut
  replace hb0 := hb0.later g'
  replace hb1 := hb1.later g'
  replace hb2 := hb2.later g'
  replace hb3 := hb3.later g'
  replace hb4 := hb4.later g'
  replace hb5 := hb5.later g'
  replace g := g.trans g'
  clear g'
  clear c0 c1 c2 c3 c4 c5 c6 c7 c8 c9 c10 c11 l0 l1 l2 l3 l4 l5
  obtain ⟨c0, c1⟩ := id hb0
  have l0 := hb0.lt
  obtain ⟨c2, c3⟩ := id hb1
  have l1 := hb1.lt
  obtain ⟨c4, c5⟩ := id hb2
  have l2 := hb2.lt
  obtain ⟨c6, c7⟩ := id hb3
  have l3 := hb3.lt
  obtain ⟨c8, c9⟩ := id hb4
  have l4 := hb4.lt
  obtain ⟨c10, c11⟩ := id hb5
  have l5 := hb5.lt
  obtain ⟨c12, c13⟩ := id hb6
  have l6 := hb6.lt
  clear M1 M2 M3 A4
  go_wp2_with (first
    | (go_at_call 7; refine (Nm _ _).mono ?_; rintro e w' ⟨rfl, rfl⟩)
    | (go_at_call 8; refine (K _ (by repeat (first | assumption | exact Grew.refl _ | apply Grew.drew | apply Grew.drewN | apply Grew.alloc | apply Grew.more))).mono ?_; rintro e w' ⟨rfl, os, n, rfl⟩))
  all_goals go_ret
  all_goals exact ⟨rfl, by repeat (first | assumption | exact Grew.refl _ | apply Grew.drew | apply Grew.drewN | apply Grew.alloc | apply Grew.more)⟩

set_option maxRecDepth 10000 in
set_option maxHeartbeats 8000000 in
theorem parted_good (x y u v r t ax ay bx by1 cx cy sx sy X Y E U V F : Int) (w : World)
    (Oa : Gives 5 #[pv x y] w (pv x y)) (Ob : Gives 5 #[pv u v] w (pv u v)) (Oc : Gives 5 #[pv r t] w (pv r t))
    (K : Gives 8 #[] w (.bool true)) (Nm : ∀ (n : Int) (W : World), Calls Try.prog 7 #[.int .i64 n] W fun e w' => e = .returned (.int .i64 n) ∧ W = w')
    (M1 : Gives 4 #[pv x y, pv u v] w (.tuple #[pv ax ay, .int .i64 0])) (M2 : Gives 4 #[pv u v, pv r t] w (.tuple #[pv bx by1, .int .i64 0]))
    (M3 : Gives 4 #[pv x y, pv r t] w (.tuple #[pv cx cy, .int .i64 0])) (A4 : Gives 6 #[pv u v, pv r t] w (.tuple #[pv sx sy, .int .i64 0]))
    (M5 : Gives 4 #[pv ax ay, pv r t] w (.tuple #[pv X Y, .int .i64 E])) (M6 : Gives 4 #[pv x y, pv bx by1] w (.tuple #[pv X Y, .int .i64 E]))
    (M7 : Gives 4 #[pv x y, pv sx sy] w (.tuple #[pv U V, .int .i64 F])) (A8 : Gives 6 #[pv ax ay, pv cx cy] w (.tuple #[pv U V, .int .i64 F])) :
    Calls Try.prog 3 #[pv x y, pv u v, pv r t] w fun e w' => e = .returned (.bool true) ∧ Grew w w' := by
  go_enter Try.func3, Try.ntmps3
  go_upto_region 1 with fail
  have hb0 : Two (((w.alloc (Obj.cells #[Value.int IntKind.i64 x, Value.int IntKind.i64 y] 23)).alloc (Obj.cells #[Value.int IntKind.i64 u, Value.int IntKind.i64 v] 23)).alloc (Obj.cells #[Value.int IntKind.i64 r, Value.int IntKind.i64 t] 23)) w.heap.size x y := ⟨by simp [go_sem], by simp [go_sem]⟩
  have hb1 : Two (((w.alloc (Obj.cells #[Value.int IntKind.i64 x, Value.int IntKind.i64 y] 23)).alloc (Obj.cells #[Value.int IntKind.i64 u, Value.int IntKind.i64 v] 23)).alloc (Obj.cells #[Value.int IntKind.i64 r, Value.int IntKind.i64 t] 23)) (w.heap.size + 1) u v := ⟨by simp [go_sem], by simp [go_sem]⟩
  have hb2 : Two (((w.alloc (Obj.cells #[Value.int IntKind.i64 x, Value.int IntKind.i64 y] 23)).alloc (Obj.cells #[Value.int IntKind.i64 u, Value.int IntKind.i64 v] 23)).alloc (Obj.cells #[Value.int IntKind.i64 r, Value.int IntKind.i64 t] 23)) (w.heap.size + 1 + 1) r t := ⟨by simp [go_sem], by simp [go_sem]⟩
  have g : Grew w (((w.alloc (Obj.cells #[Value.int IntKind.i64 x, Value.int IntKind.i64 y] 23)).alloc (Obj.cells #[Value.int IntKind.i64 u, Value.int IntKind.i64 v] 23)).alloc (Obj.cells #[Value.int IntKind.i64 r, Value.int IntKind.i64 t] 23)) := (((Grew.refl w).alloc _).alloc _).alloc _
  generalize ((w.alloc (Obj.cells #[Value.int IntKind.i64 x, Value.int IntKind.i64 y] 23)).alloc (Obj.cells #[Value.int IntKind.i64 u, Value.int IntKind.i64 v] 23)).alloc (Obj.cells #[Value.int IntKind.i64 r, Value.int IntKind.i64 t] 23) = w0 at *
  obtain ⟨c0, c1⟩ := id hb0
  have l0 := hb0.lt
  obtain ⟨c2, c3⟩ := id hb1
  have l1 := hb1.lt
  obtain ⟨c4, c5⟩ := id hb2
  have l2 := hb2.lt
  go_upto_region 1 with fail
  go_cut [7, 8] from 23 (fun s0 s1 wx => ∃ pa : Nat, s0 = .pointer (some ⟨pa, 0, none⟩) ∧ s1 = .int .i64 0 ∧ Two wx pa ax ay ∧ Grew w0 wx)
  case first =>
    clear Oc K Nm M2 M3 A4 M5 M6 M7 A8
    go_region_held2 (fun W => W.cell? ⟨w.heap.size, 0, none⟩ = some (.int .i64 x) ∧ W.cell? ⟨w.heap.size, 1, none⟩ = some (.int .i64 y) ∧ W.cell? ⟨(w.heap.size + 1), 0, none⟩ = some (.int .i64 u) ∧ W.cell? ⟨(w.heap.size + 1), 1, none⟩ = some (.int .i64 v) ∧ W.cell? ⟨(w.heap.size + 1 + 1), 0, none⟩ = some (.int .i64 r) ∧ W.cell? ⟨(w.heap.size + 1 + 1), 1, none⟩ = some (.int .i64 t)) (simp (maxDischargeDepth := 12) [go_sem, c0, c1, c2, c3, c4, c5, l0, l1, l2])
      ((first
        | (go_at_call_of 5 (Value.int IntKind.i64 x); refine (Oa _ (by repeat (first | assumption | exact Grew.refl _ | apply Grew.drew | apply Grew.drewN | apply Grew.alloc | apply Grew.more))).mono ?_; rintro e w' ⟨rfl, os, n, rfl⟩)
        | (go_at_call_of 5 (Value.int IntKind.i64 u); refine (Ob _ (by repeat (first | assumption | exact Grew.refl _ | apply Grew.drew | apply Grew.drewN | apply Grew.alloc | apply Grew.more))).mono ?_; rintro e w' ⟨rfl, os, n, rfl⟩)
        | (go_at_call 4; refine (M1 _ (by repeat (first | assumption | exact Grew.refl _ | apply Grew.drew | apply Grew.drewN | apply Grew.alloc | apply Grew.more))).mono ?_; rintro e w' ⟨rfl, os, n, rfl⟩)))
    all_goals go_wp2_with fail
    all_goals go_meet
    all_goals exact ⟨_, rfl, rfl, ⟨by simp (maxDischargeDepth := 12) [go_sem], by simp (maxDischargeDepth := 12) [go_sem]⟩, by repeat (first | assumption | exact Grew.refl _ | apply Grew.drew | apply Grew.drewN | apply Grew.alloc | apply Grew.more)⟩
  rename World => w1
  obtain ⟨pa, rfl, rfl, hb3, g'⟩ := hcut
  replace hb0 := hb0.later g'
  replace hb1 := hb1.later g'
  replace hb2 := hb2.later g'
  replace g := g.trans g'
  clear g'
  clear c0 c1 c2 c3 c4 c5 l0 l1 l2
  obtain ⟨c0, c1⟩ := id hb0
  have l0 := hb0.lt
  obtain ⟨c2, c3⟩ := id hb1
  have l1 := hb1.lt
  obtain ⟨c4, c5⟩ := id hb2
  have l2 := hb2.lt
  obtain ⟨c6, c7⟩ := id hb3
  have l3 := hb3.lt
  go_upto_region 2 with fail
  go_cut [9, 10] from 23 (fun s0 s1 wx => ∃ pb : Nat, s0 = .pointer (some ⟨pb, 0, none⟩) ∧ s1 = .int .i64 0 ∧ Two wx pb bx by1 ∧ Grew w1 wx)
  case first =>
    clear Oa K Nm M1 M3 A4 M5 M6 M7 A8
    go_region_held2 (fun W => W.cell? ⟨w.heap.size, 0, none⟩ = some (.int .i64 x) ∧ W.cell? ⟨w.heap.size, 1, none⟩ = some (.int .i64 y) ∧ W.cell? ⟨(w.heap.size + 1), 0, none⟩ = some (.int .i64 u) ∧ W.cell? ⟨(w.heap.size + 1), 1, none⟩ = some (.int .i64 v) ∧ W.cell? ⟨(w.heap.size + 1 + 1), 0, none⟩ = some (.int .i64 r) ∧ W.cell? ⟨(w.heap.size + 1 + 1), 1, none⟩ = some (.int .i64 t) ∧ W.cell? ⟨pa, 0, none⟩ = some (.int .i64 ax) ∧ W.cell? ⟨pa, 1, none⟩ = some (.int .i64 ay)) (simp (maxDischargeDepth := 12) [go_sem, c0, c1, c2, c3, c4, c5, c6, c7, l0, l1, l2, l3])
      ((first
        | (go_at_call_of 5 (Value.int IntKind.i64 u); refine (Ob _ (by repeat (first | assumption | exact Grew.refl _ | apply Grew.drew | apply Grew.drewN | apply Grew.alloc | apply Grew.more))).mono ?_; rintro e w' ⟨rfl, os, n, rfl⟩)
        | (go_at_call_of 5 (Value.int IntKind.i64 r); refine (Oc _ (by repeat (first | assumption | exact Grew.refl _ | apply Grew.drew | apply Grew.drewN | apply Grew.alloc | apply Grew.more))).mono ?_; rintro e w' ⟨rfl, os, n, rfl⟩)
        | (go_at_call 4; refine (M2 _ (by repeat (first | assumption | exact Grew.refl _ | apply Grew.drew | apply Grew.drewN | apply Grew.alloc | apply Grew.more))).mono ?_; rintro e w' ⟨rfl, os, n, rfl⟩)))
    all_goals go_wp2_with fail
    all_goals go_meet
    all_goals exact ⟨_, rfl, rfl, ⟨by simp (maxDischargeDepth := 12) [go_sem], by simp (maxDischargeDepth := 12) [go_sem]⟩, by repeat (first | assumption | exact Grew.refl _ | apply Grew.drew | apply Grew.drewN | apply Grew.alloc | apply Grew.more)⟩
  rename World => w2
  obtain ⟨pb, rfl, rfl, hb4, g'⟩ := hcut
  replace hb0 := hb0.later g'
  replace hb1 := hb1.later g'
  replace hb2 := hb2.later g'
  replace hb3 := hb3.later g'
  replace g := g.trans g'
  clear g'
  clear c0 c1 c2 c3 c4 c5 c6 c7 l0 l1 l2 l3
  obtain ⟨c0, c1⟩ := id hb0
  have l0 := hb0.lt
  obtain ⟨c2, c3⟩ := id hb1
  have l1 := hb1.lt
  obtain ⟨c4, c5⟩ := id hb2
  have l2 := hb2.lt
  obtain ⟨c6, c7⟩ := id hb3
  have l3 := hb3.lt
  obtain ⟨c8, c9⟩ := id hb4
  have l4 := hb4.lt
  go_upto_region 3 with fail
  go_cut [11, 12] from 23 (fun s0 s1 wx => ∃ pc : Nat, s0 = .pointer (some ⟨pc, 0, none⟩) ∧ s1 = .int .i64 0 ∧ Two wx pc cx cy ∧ Grew w2 wx)
  case first =>
    clear Ob K Nm M1 M2 A4 M5 M6 M7 A8
    go_region_held2 (fun W => W.cell? ⟨w.heap.size, 0, none⟩ = some (.int .i64 x) ∧ W.cell? ⟨w.heap.size, 1, none⟩ = some (.int .i64 y) ∧ W.cell? ⟨(w.heap.size + 1), 0, none⟩ = some (.int .i64 u) ∧ W.cell? ⟨(w.heap.size + 1), 1, none⟩ = some (.int .i64 v) ∧ W.cell? ⟨(w.heap.size + 1 + 1), 0, none⟩ = some (.int .i64 r) ∧ W.cell? ⟨(w.heap.size + 1 + 1), 1, none⟩ = some (.int .i64 t) ∧ W.cell? ⟨pa, 0, none⟩ = some (.int .i64 ax) ∧ W.cell? ⟨pa, 1, none⟩ = some (.int .i64 ay) ∧ W.cell? ⟨pb, 0, none⟩ = some (.int .i64 bx) ∧ W.cell? ⟨pb, 1, none⟩ = some (.int .i64 by1)) (simp (maxDischargeDepth := 12) [go_sem, c0, c1, c2, c3, c4, c5, c6, c7, c8, c9, l0, l1, l2, l3, l4])
      ((first
        | (go_at_call_of 5 (Value.int IntKind.i64 x); refine (Oa _ (by repeat (first | assumption | exact Grew.refl _ | apply Grew.drew | apply Grew.drewN | apply Grew.alloc | apply Grew.more))).mono ?_; rintro e w' ⟨rfl, os, n, rfl⟩)
        | (go_at_call_of 5 (Value.int IntKind.i64 r); refine (Oc _ (by repeat (first | assumption | exact Grew.refl _ | apply Grew.drew | apply Grew.drewN | apply Grew.alloc | apply Grew.more))).mono ?_; rintro e w' ⟨rfl, os, n, rfl⟩)
        | (go_at_call 4; refine (M3 _ (by repeat (first | assumption | exact Grew.refl _ | apply Grew.drew | apply Grew.drewN | apply Grew.alloc | apply Grew.more))).mono ?_; rintro e w' ⟨rfl, os, n, rfl⟩)))
    all_goals go_wp2_with fail
    all_goals go_meet
    all_goals exact ⟨_, rfl, rfl, ⟨by simp (maxDischargeDepth := 12) [go_sem], by simp (maxDischargeDepth := 12) [go_sem]⟩, by repeat (first | assumption | exact Grew.refl _ | apply Grew.drew | apply Grew.drewN | apply Grew.alloc | apply Grew.more)⟩
  rename World => w3
  obtain ⟨pc, rfl, rfl, hb5, g'⟩ := hcut
  replace hb0 := hb0.later g'
  replace hb1 := hb1.later g'
  replace hb2 := hb2.later g'
  replace hb3 := hb3.later g'
  replace hb4 := hb4.later g'
  replace g := g.trans g'
  clear g'
  clear c0 c1 c2 c3 c4 c5 c6 c7 c8 c9 l0 l1 l2 l3 l4
  obtain ⟨c0, c1⟩ := id hb0
  have l0 := hb0.lt
  obtain ⟨c2, c3⟩ := id hb1
  have l1 := hb1.lt
  obtain ⟨c4, c5⟩ := id hb2
  have l2 := hb2.lt
  obtain ⟨c6, c7⟩ := id hb3
  have l3 := hb3.lt
  obtain ⟨c8, c9⟩ := id hb4
  have l4 := hb4.lt
  obtain ⟨c10, c11⟩ := id hb5
  have l5 := hb5.lt
  go_upto_region 4 with fail
  go_cut [13, 14] from 23 (fun s0 s1 wx => ∃ ps : Nat, s0 = .pointer (some ⟨ps, 0, none⟩) ∧ s1 = .int .i64 0 ∧ Two wx ps sx sy ∧ Grew w3 wx)
  case first =>
    clear Oa K Nm M1 M2 M3 M5 M6 M7 A8
    go_region_held2 (fun W => W.cell? ⟨w.heap.size, 0, none⟩ = some (.int .i64 x) ∧ W.cell? ⟨w.heap.size, 1, none⟩ = some (.int .i64 y) ∧ W.cell? ⟨(w.heap.size + 1), 0, none⟩ = some (.int .i64 u) ∧ W.cell? ⟨(w.heap.size + 1), 1, none⟩ = some (.int .i64 v) ∧ W.cell? ⟨(w.heap.size + 1 + 1), 0, none⟩ = some (.int .i64 r) ∧ W.cell? ⟨(w.heap.size + 1 + 1), 1, none⟩ = some (.int .i64 t) ∧ W.cell? ⟨pa, 0, none⟩ = some (.int .i64 ax) ∧ W.cell? ⟨pa, 1, none⟩ = some (.int .i64 ay) ∧ W.cell? ⟨pb, 0, none⟩ = some (.int .i64 bx) ∧ W.cell? ⟨pb, 1, none⟩ = some (.int .i64 by1) ∧ W.cell? ⟨pc, 0, none⟩ = some (.int .i64 cx) ∧ W.cell? ⟨pc, 1, none⟩ = some (.int .i64 cy)) (simp (maxDischargeDepth := 12) [go_sem, c0, c1, c2, c3, c4, c5, c6, c7, c8, c9, c10, c11, l0, l1, l2, l3, l4, l5])
      ((first
        | (go_at_call_of 5 (Value.int IntKind.i64 u); refine (Ob _ (by repeat (first | assumption | exact Grew.refl _ | apply Grew.drew | apply Grew.drewN | apply Grew.alloc | apply Grew.more))).mono ?_; rintro e w' ⟨rfl, os, n, rfl⟩)
        | (go_at_call_of 5 (Value.int IntKind.i64 r); refine (Oc _ (by repeat (first | assumption | exact Grew.refl _ | apply Grew.drew | apply Grew.drewN | apply Grew.alloc | apply Grew.more))).mono ?_; rintro e w' ⟨rfl, os, n, rfl⟩)
        | (go_at_call 6; refine (A4 _ (by repeat (first | assumption | exact Grew.refl _ | apply Grew.drew | apply Grew.drewN | apply Grew.alloc | apply Grew.more))).mono ?_; rintro e w' ⟨rfl, os, n, rfl⟩)))
    all_goals go_wp2_with fail
    all_goals go_meet
    all_goals exact ⟨_, rfl, rfl, ⟨by simp (maxDischargeDepth := 12) [go_sem], by simp (maxDischargeDepth := 12) [go_sem]⟩, by repeat (first | assumption | exact Grew.refl _ | apply Grew.drew | apply Grew.drewN | apply Grew.alloc | apply Grew.more)⟩
  rename World => w4
  obtain ⟨ps, rfl, rfl, hb6, g'⟩ := hcut
  replace hb0 := hb0.later g'
  replace hb1 := hb1.later g'
  replace hb2 := hb2.later g'
  replace hb3 := hb3.later g'
  replace hb4 := hb4.later g'
  replace hb5 := hb5.later g'
  replace g := g.trans g'
  clear g'
  clear c0 c1 c2 c3 c4 c5 c6 c7 c8 c9 c10 c11 l0 l1 l2 l3 l4 l5
  obtain ⟨c0, c1⟩ := id hb0
  have l0 := hb0.lt
  obtain ⟨c2, c3⟩ := id hb1
  have l1 := hb1.lt
  obtain ⟨c4, c5⟩ := id hb2
  have l2 := hb2.lt
  obtain ⟨c6, c7⟩ := id hb3
  have l3 := hb3.lt
  obtain ⟨c8, c9⟩ := id hb4
  have l4 := hb4.lt
  obtain ⟨c10, c11⟩ := id hb5
  have l5 := hb5.lt
  obtain ⟨c12, c13⟩ := id hb6
  have l6 := hb6.lt
  clear M1 M2 M3 A4
  go_wp2_with (go_at_call 7; refine (Nm _ _).mono ?_; rintro e w' ⟨rfl, rfl⟩)
  go_upto_region 7 with fail
  go_cut [15, 16] from 23 (fun s0 s1 wx => ∃ px : Nat, s0 = .pointer (some ⟨px, 0, none⟩) ∧ s1 = .int .i64 E ∧ Two wx px X Y ∧ Grew w4 wx)
  case first =>
    clear Oa Ob K Nm M6 M7 A8
    go_region_held2 (fun W => W.cell? ⟨w.heap.size, 0, none⟩ = some (.int .i64 x) ∧ W.cell? ⟨w.heap.size, 1, none⟩ = some (.int .i64 y) ∧ W.cell? ⟨(w.heap.size + 1), 0, none⟩ = some (.int .i64 u) ∧ W.cell? ⟨(w.heap.size + 1), 1, none⟩ = some (.int .i64 v) ∧ W.cell? ⟨(w.heap.size + 1 + 1), 0, none⟩ = some (.int .i64 r) ∧ W.cell? ⟨(w.heap.size + 1 + 1), 1, none⟩ = some (.int .i64 t) ∧ W.cell? ⟨pa, 0, none⟩ = some (.int .i64 ax) ∧ W.cell? ⟨pa, 1, none⟩ = some (.int .i64 ay) ∧ W.cell? ⟨pb, 0, none⟩ = some (.int .i64 bx) ∧ W.cell? ⟨pb, 1, none⟩ = some (.int .i64 by1) ∧ W.cell? ⟨pc, 0, none⟩ = some (.int .i64 cx) ∧ W.cell? ⟨pc, 1, none⟩ = some (.int .i64 cy) ∧ W.cell? ⟨ps, 0, none⟩ = some (.int .i64 sx) ∧ W.cell? ⟨ps, 1, none⟩ = some (.int .i64 sy)) (simp (maxDischargeDepth := 12) [go_sem, c0, c1, c2, c3, c4, c5, c6, c7, c8, c9, c10, c11, c12, c13, l0, l1, l2, l3, l4, l5, l6])
      ((first
        | (go_at_call_of 5 (Value.int IntKind.i64 r); refine (Oc _ (by repeat (first | assumption | exact Grew.refl _ | apply Grew.drew | apply Grew.drewN | apply Grew.alloc | apply Grew.more))).mono ?_; rintro e w' ⟨rfl, os, n, rfl⟩)
        | (go_at_call 4; refine (M5 _ (by repeat (first | assumption | exact Grew.refl _ | apply Grew.drew | apply Grew.drewN | apply Grew.alloc | apply Grew.more))).mono ?_; rintro e w' ⟨rfl, os, n, rfl⟩)))
    all_goals go_wp2_with fail
    all_goals go_meet
    all_goals exact ⟨_, rfl, rfl, ⟨by simp (maxDischargeDepth := 12) [go_sem], by simp (maxDischargeDepth := 12) [go_sem]⟩, by repeat (first | assumption | exact Grew.refl _ | apply Grew.drew | apply Grew.drewN | apply Grew.alloc | apply Grew.more)⟩
  rename World => w5
  obtain ⟨px, rfl, rfl, hb7, g'⟩ := hcut
  replace hb0 := hb0.later g'
  replace hb1 := hb1.later g'
  replace hb2 := hb2.later g'
  replace hb3 := hb3.later g'
  replace hb4 := hb4.later g'
  replace hb5 := hb5.later g'
  replace hb6 := hb6.later g'
  replace g := g.trans g'
  clear g'
  clear c0 c1 c2 c3 c4 c5 c6 c7 c8 c9 c10 c11 c12 c13 l0 l1 l2 l3 l4 l5 l6
  obtain ⟨c0, c1⟩ := id hb0
  have l0 := hb0.lt
  obtain ⟨c2, c3⟩ := id hb1
  have l1 := hb1.lt
  obtain ⟨c4, c5⟩ := id hb2
  have l2 := hb2.lt
  obtain ⟨c6, c7⟩ := id hb3
  have l3 := hb3.lt
  obtain ⟨c8, c9⟩ := id hb4
  have l4 := hb4.lt
  obtain ⟨c10, c11⟩ := id hb5
  have l5 := hb5.lt
  obtain ⟨c12, c13⟩ := id hb6
  have l6 := hb6.lt
  obtain ⟨c14, c15⟩ := id hb7
  have l7 := hb7.lt
  go_upto_region 8 with fail
  go_cut [17, 18] from 23 (fun s0 s1 wx => ∃ py : Nat, s0 = .pointer (some ⟨py, 0, none⟩) ∧ s1 = .int .i64 E ∧ Two wx py X Y ∧ Grew w5 wx)
  case first =>
    clear Ob Oc K Nm M5 M7 A8
    go_region_held2 (fun W => W.cell? ⟨w.heap.size, 0, none⟩ = some (.int .i64 x) ∧ W.cell? ⟨w.heap.size, 1, none⟩ = some (.int .i64 y) ∧ W.cell? ⟨(w.heap.size + 1), 0, none⟩ = some (.int .i64 u) ∧ W.cell? ⟨(w.heap.size + 1), 1, none⟩ = some (.int .i64 v) ∧ W.cell? ⟨(w.heap.size + 1 + 1), 0, none⟩ = some (.int .i64 r) ∧ W.cell? ⟨(w.heap.size + 1 + 1), 1, none⟩ = some (.int .i64 t) ∧ W.cell? ⟨pa, 0, none⟩ = some (.int .i64 ax) ∧ W.cell? ⟨pa, 1, none⟩ = some (.int .i64 ay) ∧ W.cell? ⟨pb, 0, none⟩ = some (.int .i64 bx) ∧ W.cell? ⟨pb, 1, none⟩ = some (.int .i64 by1) ∧ W.cell? ⟨pc, 0, none⟩ = some (.int .i64 cx) ∧ W.cell? ⟨pc, 1, none⟩ = some (.int .i64 cy) ∧ W.cell? ⟨ps, 0, none⟩ = some (.int .i64 sx) ∧ W.cell? ⟨ps, 1, none⟩ = some (.int .i64 sy) ∧ W.cell? ⟨px, 0, none⟩ = some (.int .i64 X) ∧ W.cell? ⟨px, 1, none⟩ = some (.int .i64 Y)) (simp (maxDischargeDepth := 12) [go_sem, c0, c1, c2, c3, c4, c5, c6, c7, c8, c9, c10, c11, c12, c13, c14, c15, l0, l1, l2, l3, l4, l5, l6, l7])
      ((first
        | (go_at_call_of 5 (Value.int IntKind.i64 x); refine (Oa _ (by repeat (first | assumption | exact Grew.refl _ | apply Grew.drew | apply Grew.drewN | apply Grew.alloc | apply Grew.more))).mono ?_; rintro e w' ⟨rfl, os, n, rfl⟩)
        | (go_at_call 4; refine (M6 _ (by repeat (first | assumption | exact Grew.refl _ | apply Grew.drew | apply Grew.drewN | apply Grew.alloc | apply Grew.more))).mono ?_; rintro e w' ⟨rfl, os, n, rfl⟩)))
    all_goals go_wp2_with fail
    all_goals go_meet
    all_goals exact ⟨_, rfl, rfl, ⟨by simp (maxDischargeDepth := 12) [go_sem], by simp (maxDischargeDepth := 12) [go_sem]⟩, by repeat (first | assumption | exact Grew.refl _ | apply Grew.drew | apply Grew.drewN | apply Grew.alloc | apply Grew.more)⟩
  rename World => w6
  obtain ⟨py, rfl, rfl, hb8, g'⟩ := hcut
  replace hb0 := hb0.later g'
  replace hb1 := hb1.later g'
  replace hb2 := hb2.later g'
  replace hb3 := hb3.later g'
  replace hb4 := hb4.later g'
  replace hb5 := hb5.later g'
  replace hb6 := hb6.later g'
  replace hb7 := hb7.later g'
  replace g := g.trans g'
  clear g'
  clear c0 c1 c2 c3 c4 c5 c6 c7 c8 c9 c10 c11 c12 c13 c14 c15 l0 l1 l2 l3 l4 l5 l6 l7
  obtain ⟨c0, c1⟩ := id hb0
  have l0 := hb0.lt
  obtain ⟨c2, c3⟩ := id hb1
  have l1 := hb1.lt
  obtain ⟨c4, c5⟩ := id hb2
  have l2 := hb2.lt
  obtain ⟨c6, c7⟩ := id hb3
  have l3 := hb3.lt
  obtain ⟨c8, c9⟩ := id hb4
  have l4 := hb4.lt
  obtain ⟨c10, c11⟩ := id hb5
  have l5 := hb5.lt
  obtain ⟨c12, c13⟩ := id hb6
  have l6 := hb6.lt
  obtain ⟨c14, c15⟩ := id hb7
  have l7 := hb7.lt
  obtain ⟨c16, c17⟩ := id hb8
  have l8 := hb8.lt
  go_upto_region 11 with fail
  go_cut [19, 20] from 23 (fun s0 s1 wx => ∃ pu : Nat, s0 = .pointer (some ⟨pu, 0, none⟩) ∧ s1 = .int .i64 F ∧ Two wx pu U V ∧ Grew w6 wx)
  case first =>
    clear Ob Oc K Nm M5 M6 A8
    go_region_held2 (fun W => W.cell? ⟨w.heap.size, 0, none⟩ = some (.int .i64 x) ∧ W.cell? ⟨w.heap.size, 1, none⟩ = some (.int .i64 y) ∧ W.cell? ⟨(w.heap.size + 1), 0, none⟩ = some (.int .i64 u) ∧ W.cell? ⟨(w.heap.size + 1), 1, none⟩ = some (.int .i64 v) ∧ W.cell? ⟨(w.heap.size + 1 + 1), 0, none⟩ = some (.int .i64 r) ∧ W.cell? ⟨(w.heap.size + 1 + 1), 1, none⟩ = some (.int .i64 t) ∧ W.cell? ⟨pa, 0, none⟩ = some (.int .i64 ax) ∧ W.cell? ⟨pa, 1, none⟩ = some (.int .i64 ay) ∧ W.cell? ⟨pb, 0, none⟩ = some (.int .i64 bx) ∧ W.cell? ⟨pb, 1, none⟩ = some (.int .i64 by1) ∧ W.cell? ⟨pc, 0, none⟩ = some (.int .i64 cx) ∧ W.cell? ⟨pc, 1, none⟩ = some (.int .i64 cy) ∧ W.cell? ⟨ps, 0, none⟩ = some (.int .i64 sx) ∧ W.cell? ⟨ps, 1, none⟩ = some (.int .i64 sy) ∧ W.cell? ⟨px, 0, none⟩ = some (.int .i64 X) ∧ W.cell? ⟨px, 1, none⟩ = some (.int .i64 Y) ∧ W.cell? ⟨py, 0, none⟩ = some (.int .i64 X) ∧ W.cell? ⟨py, 1, none⟩ = some (.int .i64 Y)) (simp (maxDischargeDepth := 12) [go_sem, c0, c1, c2, c3, c4, c5, c6, c7, c8, c9, c10, c11, c12, c13, c14, c15, c16, c17, l0, l1, l2, l3, l4, l5, l6, l7, l8])
      ((first
        | (go_at_call_of 5 (Value.int IntKind.i64 x); refine (Oa _ (by repeat (first | assumption | exact Grew.refl _ | apply Grew.drew | apply Grew.drewN | apply Grew.alloc | apply Grew.more))).mono ?_; rintro e w' ⟨rfl, os, n, rfl⟩)
        | (go_at_call 4; refine (M7 _ (by repeat (first | assumption | exact Grew.refl _ | apply Grew.drew | apply Grew.drewN | apply Grew.alloc | apply Grew.more))).mono ?_; rintro e w' ⟨rfl, os, n, rfl⟩)))
    all_goals go_wp2_with fail
    all_goals go_meet
    all_goals exact ⟨_, rfl, rfl, ⟨by simp (maxDischargeDepth := 12) [go_sem], by simp (maxDischargeDepth := 12) [go_sem]⟩, by repeat (first | assumption | exact Grew.refl _ | apply Grew.drew | apply Grew.drewN | apply Grew.alloc | apply Grew.more)⟩
  rename World => w7
  obtain ⟨pu, rfl, rfl, hb9, g'⟩ := hcut
  replace hb0 := hb0.later g'
  replace hb1 := hb1.later g'
  replace hb2 := hb2.later g'
  replace hb3 := hb3.later g'
  replace hb4 := hb4.later g'
  replace hb5 := hb5.later g'
  replace hb6 := hb6.later g'
  replace hb7 := hb7.later g'
  replace hb8 := hb8.later g'
  replace g := g.trans g'
  clear g'
  clear c0 c1 c2 c3 c4 c5 c6 c7 c8 c9 c10 c11 c12 c13 c14 c15 c16 c17 l0 l1 l2 l3 l4 l5 l6 l7 l8
  obtain ⟨c0, c1⟩ := id hb0
  have l0 := hb0.lt
  obtain ⟨c2, c3⟩ := id hb1
  have l1 := hb1.lt
  obtain ⟨c4, c5⟩ := id hb2
  have l2 := hb2.lt
  obtain ⟨c6, c7⟩ := id hb3
  have l3 := hb3.lt
  obtain ⟨c8, c9⟩ := id hb4
  have l4 := hb4.lt
  obtain ⟨c10, c11⟩ := id hb5
  have l5 := hb5.lt
  obtain ⟨c12, c13⟩ := id hb6
  have l6 := hb6.lt
  obtain ⟨c14, c15⟩ := id hb7
  have l7 := hb7.lt
  obtain ⟨c16, c17⟩ := id hb8
  have l8 := hb8.lt
  obtain ⟨c18, c19⟩ := id hb9
  have l9 := hb9.lt
  go_upto_region 12 with fail
  go_cut [21, 22] from 23 (fun s0 s1 wx => ∃ pz : Nat, s0 = .pointer (some ⟨pz, 0, none⟩) ∧ s1 = .int .i64 F ∧ Two wx pz U V ∧ Grew w7 wx)
  case first =>
    clear Oa Ob Oc K Nm M5 M6 M7
    go_wp2_with (first
        | (go_at_call 6; refine (A8 _ (by repeat (first | assumption | exact Grew.refl _ | apply Grew.drew | apply Grew.drewN | apply Grew.alloc | apply Grew.more))).mono ?_; rintro e w' ⟨rfl, os, n, rfl⟩))
    all_goals go_meet
    all_goals exact ⟨_, rfl, rfl, ⟨by simp (maxDischargeDepth := 12) [go_sem], by simp (maxDischargeDepth := 12) [go_sem]⟩, by repeat (first | assumption | exact Grew.refl _ | apply Grew.drew | apply Grew.drewN | apply Grew.alloc | apply Grew.more)⟩
  rename World => w8
  obtain ⟨pz, rfl, rfl, hb10, g'⟩ := hcut
  replace hb0 := hb0.later g'
  replace hb1 := hb1.later g'
  replace hb2 := hb2.later g'
  replace hb3 := hb3.later g'
  replace hb4 := hb4.later g'
  replace hb5 := hb5.later g'
  replace hb6 := hb6.later g'
  replace hb7 := hb7.later g'
  replace hb8 := hb8.later g'
  replace hb9 := hb9.later g'
  replace g := g.trans g'
  clear g'
  clear c0 c1 c2 c3 c4 c5 c6 c7 c8 c9 c10 c11 c12 c13 c14 c15 c16 c17 c18 c19 l0 l1 l2 l3 l4 l5 l6 l7 l8 l9
  obtain ⟨c0, c1⟩ := id hb0
  have l0 := hb0.lt
  obtain ⟨c2, c3⟩ := id hb1
  have l1 := hb1.lt
  obtain ⟨c4, c5⟩ := id hb2
  have l2 := hb2.lt
  obtain ⟨c6, c7⟩ := id hb3
  have l3 := hb3.lt
  obtain ⟨c8, c9⟩ := id hb4
  have l4 := hb4.lt
  obtain ⟨c10, c11⟩ := id hb5
  have l5 := hb5.lt
  obtain ⟨c12, c13⟩ := id hb6
  have l6 := hb6.lt
  obtain ⟨c14, c15⟩ := id hb7
  have l7 := hb7.lt
  obtain ⟨c16, c17⟩ := id hb8
  have l8 := hb8.lt
  obtain ⟨c18, c19⟩ := id hb9
  have l9 := hb9.lt
  obtain ⟨c20, c21⟩ := id hb10
  have l10 := hb10.lt
  go_wp2_with (go_at_call 8; refine (K _ (by repeat (first | assumption | exact Grew.refl _ | apply Grew.drew | apply Grew.drewN | apply Grew.alloc | apply Grew.more))).mono ?_; rintro e w' ⟨rfl, os, n, rfl⟩)
  all_goals go_ret
  all_goals exact ⟨rfl, by repeat (first | assumption | exact Grew.refl _ | apply Grew.drew | apply Grew.drewN | apply Grew.alloc | apply Grew.more)⟩
end Go.Proofs.Ytidknbdckdinlab
