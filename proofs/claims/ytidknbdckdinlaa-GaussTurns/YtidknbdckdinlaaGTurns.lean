/-
  The walks of GaussTurns over what its callees give.
-/
import Derived.Test.YtidknbdckdinlaaGBase
namespace Go.Proofs.Ytidknbdckdinlaa
attribute [local go_sem] cell?_more frozen?_more setCell_more more_lt more_more more_drew more_drewN setCell_drewN alloc_drewN

set_option maxRecDepth 10000 in
set_option maxHeartbeats 4000000 in
theorem turns_bad (x y n m : Int) (w : World) (Oa : Gives 9 #[pv x y] w (pv x y)) (K : Gives 19 #[] w (.bool true))
    (R : Gives 16 #[pv x y] w (.bool false)) (T1 : Gives 28 #[pv x y, .int .i64 n] w (pv 0 0)) :
    Calls Try.prog 7 #[pv x y, .int .i64 n, .int .i64 m] w fun e w' => e = .returned (.bool true) ∧ Grew w w' := by
  go_enter Try.func7, Try.ntmps7
  go_wp2_with (first
    | (go_at_call 16; refine (R _ (by repeat (first | assumption | exact Grew.refl _ | apply Grew.drew | apply Grew.drewN | apply Grew.alloc | apply Grew.more))).mono ?_; rintro e w' ⟨rfl, os, n, rfl⟩)
    | (go_at_call 9; refine (Oa _ (by repeat (first | assumption | exact Grew.refl _ | apply Grew.drew | apply Grew.drewN | apply Grew.alloc | apply Grew.more))).mono ?_; rintro e w' ⟨rfl, os, n, rfl⟩)
    | (go_at_call 28; refine (T1 _ (by repeat (first | assumption | exact Grew.refl _ | apply Grew.drew | apply Grew.drewN | apply Grew.alloc | apply Grew.more))).mono ?_; rintro e w' ⟨rfl, os, n, rfl⟩)
    | (go_at_call 19; refine (K _ (by repeat (first | assumption | exact Grew.refl _ | apply Grew.drew | apply Grew.drewN | apply Grew.alloc | apply Grew.more))).mono ?_; rintro e w' ⟨rfl, os, n, rfl⟩))
  all_goals go_ret
  all_goals exact ⟨rfl, by repeat (first | assumption | exact Grew.refl _ | apply Grew.drew | apply Grew.drewN | apply Grew.alloc | apply Grew.more)⟩

set_option maxRecDepth 10000 in
set_option maxHeartbeats 8000000 in
theorem turns_good (x y n m n1 m1 k1 k2 ax ay bx by1 nn : Int) (w : World) (Oa : Gives 9 #[pv x y] w (pv x y)) (K : Gives 19 #[] w (.bool true))
    (R : Gives 16 #[pv x y] w (.bool true)) (T1 : Gives 28 #[pv x y, .int .i64 n1] w (pv ax ay))
    (N1 : Gives 26 #[pv ax ay] w (.int .i64 nn)) (N2 : Gives 26 #[pv x y] w (.int .i64 nn))
    (T2 : Gives 28 #[pv ax ay, .int .i64 k1] w (pv x y)) (T3 : Gives 28 #[pv ax ay, .int .i64 m1] w (pv bx by1))
    (T4 : Gives 28 #[pv x y, .int .i64 k2] w (pv bx by1)) (T5 : Gives 28 #[pv x y, .int .i64 4] w (pv x y))
    (en : n.tmod 1000 = n1) (em : m.tmod 1000 = m1) (f1 : IntKind.i64.wrap (-n1) = k1) (f2 : IntKind.i64.wrap (n1 + m1) = k2) :
    Calls Try.prog 7 #[pv x y, .int .i64 n, .int .i64 m] w fun e w' => e = .returned (.bool true) ∧ Grew w w' := by
  go_enter Try.func7, Try.ntmps7
  go_upto_region 1 with fail
  have hb0 : Two (w.alloc (Obj.cells #[Value.int IntKind.i64 x, Value.int IntKind.i64 y] 23)) w.heap.size x y := ⟨by simp [go_sem], by simp [go_sem]⟩
  have g : Grew w (w.alloc (Obj.cells #[Value.int IntKind.i64 x, Value.int IntKind.i64 y] 23)) := (Grew.refl w).alloc _
  generalize w.alloc (Obj.cells #[Value.int IntKind.i64 x, Value.int IntKind.i64 y] 23) = w0 at *
  obtain ⟨c0, c1⟩ := id hb0
  have l0 := hb0.lt
  go_upto_region 3 with (go_at_call 16; refine (R _ (by repeat (first | assumption | exact Grew.refl _ | apply Grew.drew | apply Grew.drewN | apply Grew.alloc | apply Grew.more))).mono ?_; rintro e w' ⟨rfl, os, n, rfl⟩)
  go_upto_region 5 with fail
  go_cut [7] from 8 (fun s0 wx => ∃ pa : Nat, s0 = .pointer (some ⟨pa, 0, none⟩) ∧ Two wx pa ax ay ∧ Grew w0 wx)
  case first =>
    clear R K N1 N2 T2 T3 T4 T5
    go_wp2_with (first
        | (go_at_call 9; refine (Oa _ (by repeat (first | assumption | exact Grew.refl _ | apply Grew.drew | apply Grew.drewN | apply Grew.alloc | apply Grew.more))).mono ?_; rintro e w' ⟨rfl, os, n, rfl⟩)
        | (go_at_call 28; refine (T1 _ (by repeat (first | assumption | exact Grew.refl _ | apply Grew.drew | apply Grew.drewN | apply Grew.alloc | apply Grew.more))).mono ?_; rintro e w' ⟨rfl, os, n, rfl⟩))
    all_goals go_meet
    all_goals exact ⟨_, rfl, ⟨by simp (maxDischargeDepth := 12) [go_sem], by simp (maxDischargeDepth := 12) [go_sem]⟩, by repeat (first | assumption | exact Grew.refl _ | apply Grew.drew | apply Grew.drewN | apply Grew.alloc | apply Grew.more)⟩
  rename World => w1
  obtain ⟨pa, rfl, hb1, g'⟩ := hcut
  replace hb0 := hb0.later g'
  replace g := g.trans g'
  clear g'
  clear c0 c1 l0
  obtain ⟨c0, c1⟩ := id hb0
  have l0 := hb0.lt
  obtain ⟨c2, c3⟩ := id hb1
  have l1 := hb1.lt
  clear T1 R
  go_upto_region 6 with fail
  go_region_held2 (fun W => W.cell? ⟨w.heap.size, 0, none⟩ = some (.int .i64 x) ∧ W.cell? ⟨w.heap.size, 1, none⟩ = some (.int .i64 y) ∧ W.cell? ⟨pa, 0, none⟩ = some (.int .i64 ax) ∧ W.cell? ⟨pa, 1, none⟩ = some (.int .i64 ay)) (simp (maxDischargeDepth := 12) [go_sem, c0, c1, c2, c3, l0, l1])
      ((first
        | (go_at_call 9; refine (Oa _ (by repeat (first | assumption | exact Grew.refl _ | apply Grew.drew | apply Grew.drewN | apply Grew.alloc | apply Grew.more))).mono ?_; rintro e w' ⟨rfl, os, n, rfl⟩)
        | (go_at_call_of 26 (Value.int IntKind.i64 ax); refine (N1 _ (by repeat (first | assumption | exact Grew.refl _ | apply Grew.drew | apply Grew.drewN | apply Grew.alloc | apply Grew.more))).mono ?_; rintro e w' ⟨rfl, os, n, rfl⟩)
        | (go_at_call_of 26 (pv x y); refine (N2 _ (by repeat (first | assumption | exact Grew.refl _ | apply Grew.drew | apply Grew.drewN | apply Grew.alloc | apply Grew.more))).mono ?_; rintro e w' ⟨rfl, os, n, rfl⟩)
        | (go_at_call_of 28 (Value.int IntKind.i64 k1); refine (T2 _ (by repeat (first | assumption | exact Grew.refl _ | apply Grew.drew | apply Grew.drewN | apply Grew.alloc | apply Grew.more))).mono ?_; rintro e w' ⟨rfl, os, n, rfl⟩)
        | (go_at_call_of 28 (Value.int IntKind.i64 m1); refine (T3 _ (by repeat (first | assumption | exact Grew.refl _ | apply Grew.drew | apply Grew.drewN | apply Grew.alloc | apply Grew.more))).mono ?_; rintro e w' ⟨rfl, os, n, rfl⟩)
        | (go_at_call_of 28 (Value.int IntKind.i64 k2); refine (T4 _ (by repeat (first | assumption | exact Grew.refl _ | apply Grew.drew | apply Grew.drewN | apply Grew.alloc | apply Grew.more))).mono ?_; rintro e w' ⟨rfl, os, n, rfl⟩)
        | (go_at_call_of 28 (Value.int IntKind.i64 4); refine (T5 _ (by repeat (first | assumption | exact Grew.refl _ | apply Grew.drew | apply Grew.drewN | apply Grew.alloc | apply Grew.more))).mono ?_; rintro e w' ⟨rfl, os, n, rfl⟩)
        | (go_at_call 19; refine (K _ (by repeat (first | assumption | exact Grew.refl _ | apply Grew.drew | apply Grew.drewN | apply Grew.alloc | apply Grew.more))).mono ?_; rintro e w' ⟨rfl, os, n, rfl⟩)))
  all_goals go_wp2_with fail
  all_goals go_ret
  all_goals exact ⟨rfl, by repeat (first | assumption | exact Grew.refl _ | apply Grew.drew | apply Grew.drewN | apply Grew.alloc | apply Grew.more)⟩
end Go.Proofs.Ytidknbdckdinlaa
