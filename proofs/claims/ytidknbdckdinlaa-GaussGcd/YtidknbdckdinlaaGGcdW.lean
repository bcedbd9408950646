/-
  The walks of GaussGcd over what its callees give.
-/
import Derived.Test.YtidknbdckdinlaaGBase
namespace Go.Proofs.Ytidknbdckdinlaa
attribute [local go_sem] cell?_more frozen?_more setCell_more more_lt more_more more_drew more_drewN setCell_drewN alloc_drewN
attribute [local go_sem high] cellMA frozenMA setMA cellMAM frozenMAM setMAM cellMAA frozenMAA setMAA cellMAAM frozenMAAM setMAAM cellMAMA frozenMAMA setMAMA cellMAMAM frozenMAMAM setMAMAM cellMAMAMA frozenMAMAMA setMAMAMA cellMAMAMAM frozenMAMAMAM setMAMAMAM size_blank

set_option maxRecDepth 10000 in
set_option maxHeartbeats 8000000 in
theorem gcd_law_bad (x y u v : Int) (ba bb : Bool) (hr : (ba && bb) = false) (w : World)
    (Oa : Gives 9 #[pv x y] w (pv x y)) (Ob : Gives 9 #[pv u v] w (pv u v)) (K : Gives 19 #[] w (.bool true)) (Nm : ∀ (n : Int) (W : World), Calls Try.prog 18 #[.int .i64 n] W fun e w' => e = .returned (.int .i64 n) ∧ W = w')
    (G : Gives 22 #[pv x y, pv u v] w (.tuple #[pv 0 0, .int .i64 1])) (Ra : Gives 16 #[pv x y] w (.bool ba)) (Rb : Gives 16 #[pv u v] w (.bool bb)) :
    Calls Try.prog 6 #[pv x y, pv u v] w fun e w' => e = .returned (.bool true) ∧ Grew w w' := by
  go_enter Try.func6, Try.ntmps6
  go_upto_region 1 with fail
  have hb0 : Two ((w.alloc (Obj.cells #[Value.int IntKind.i64 x, Value.int IntKind.i64 y] 23)).alloc (Obj.cells #[Value.int IntKind.i64 u, Value.int IntKind.i64 v] 23)) w.heap.size x y := ⟨by simp [go_sem], by simp [go_sem]⟩
  have hb1 : Two ((w.alloc (Obj.cells #[Value.int IntKind.i64 x, Value.int IntKind.i64 y] 23)).alloc (Obj.cells #[Value.int IntKind.i64 u, Value.int IntKind.i64 v] 23)) (w.heap.size + 1) u v := ⟨by simp [go_sem], by simp [go_sem]⟩
  have g : Grew w ((w.alloc (Obj.cells #[Value.int IntKind.i64 x, Value.int IntKind.i64 y] 23)).alloc (Obj.cells #[Value.int IntKind.i64 u, Value.int IntKind.i64 v] 23)) := ((Grew.refl w).alloc _).alloc _
  generalize (w.alloc (Obj.cells #[Value.int IntKind.i64 x, Value.int IntKind.i64 y] 23)).alloc (Obj.cells #[Value.int IntKind.i64 u, Value.int IntKind.i64 v] 23) = w0 at *
  obtain ⟨c0, c1⟩ := id hb0
  have l0 := hb0.lt
  obtain ⟨c2, c3⟩ := id hb1
  have l1 := hb1.lt
  go_upto_region 1 with fail
  go_cut [5, 6] from 13 (fun s0 s1 wx => ∃ pg : Nat, s0 = .pointer (some ⟨pg, 0, none⟩) ∧ s1 = .int .i64 1 ∧ Two wx pg 0 0 ∧ Grew w0 wx)
  case first => as_aux_lemma =>
    clear K Nm Ra Rb hr
    go_region_held2 (fun W => W.cell? ⟨w.heap.size, 0, none⟩ = some (.int .i64 x) ∧ W.cell? ⟨w.heap.size, 1, none⟩ = some (.int .i64 y) ∧ W.cell? ⟨(w.heap.size + 1), 0, none⟩ = some (.int .i64 u) ∧ W.cell? ⟨(w.heap.size + 1), 1, none⟩ = some (.int .i64 v)) (simp (maxDischargeDepth := 12) [go_sem, c0, c1, c2, c3, l0, l1])
      ((first
        | (go_at_call_of 9 (Value.int IntKind.i64 x); refine (Oa _ (by repeat (first | assumption | exact Grew.refl _ | apply Grew.drew | apply Grew.drewN | apply Grew.alloc | apply Grew.more))).mono ?_; rintro e w' ⟨rfl, os, n, rfl⟩)
        | (go_at_call_of 9 (Value.int IntKind.i64 u); refine (Ob _ (by repeat (first | assumption | exact Grew.refl _ | apply Grew.drew | apply Grew.drewN | apply Grew.alloc | apply Grew.more))).mono ?_; rintro e w' ⟨rfl, os, n, rfl⟩)
        | (go_at_call 22; refine (G _ (by repeat (first | assumption | exact Grew.refl _ | apply Grew.drew | apply Grew.drewN | apply Grew.alloc | apply Grew.more))).mono ?_; rintro e w' ⟨rfl, os, n, rfl⟩)))
    all_goals go_wp2_with fail
    all_goals go_meet
    all_goals exact ⟨_, rfl, rfl, ⟨by simp (maxDischargeDepth := 12) [go_sem], by simp (maxDischargeDepth := 12) [go_sem]⟩, by repeat (first | assumption | exact Grew.refl _ | apply Grew.drew | apply Grew.drewN | apply Grew.alloc | apply Grew.more)⟩
  rename World => w1
  obtain ⟨pg, rfl, rfl, hb2, g'⟩ := hcut
  replace hb0 := hb0.later g'
  replace hb1 := hb1.later g'
  replace g := g.trans g'
  clear g'
  clear c0 c1 c2 c3 l0 l1
  obtain ⟨c0, c1⟩ := id hb0
  have l0 := hb0.lt
  obtain ⟨c2, c3⟩ := id hb1
  have l1 := hb1.lt
  obtain ⟨c4, c5⟩ := id hb2
  have l2 := hb2.lt
  cases ba
  · go_wp2_with (first
      | (go_at_call 18; refine (Nm _ _).mono ?_; rintro e w' ⟨rfl, rfl⟩)
      | (go_at_call_of 16 (Value.int IntKind.i64 x); refine (Ra _ (by repeat (first | assumption | exact Grew.refl _ | apply Grew.drew | apply Grew.drewN | apply Grew.alloc | apply Grew.more))).mono ?_; rintro e w' ⟨rfl, os, n, rfl⟩)
      | (go_at_call 19; refine (K _ (by repeat (first | assumption | exact Grew.refl _ | apply Grew.drew | apply Grew.drewN | apply Grew.alloc | apply Grew.more))).mono ?_; rintro e w' ⟨rfl, os, n, rfl⟩))
    all_goals go_ret
    all_goals exact ⟨rfl, by repeat (first | assumption | exact Grew.refl _ | apply Grew.drew | apply Grew.drewN | apply Grew.alloc | apply Grew.more)⟩
  · obtain rfl : bb = false := by simpa using hr
    go_wp2_with (first
      | (go_at_call 18; refine (Nm _ _).mono ?_; rintro e w' ⟨rfl, rfl⟩)
      | (go_at_call_of 16 (Value.int IntKind.i64 x); refine (Ra _ (by repeat (first | assumption | exact Grew.refl _ | apply Grew.drew | apply Grew.drewN | apply Grew.alloc | apply Grew.more))).mono ?_; rintro e w' ⟨rfl, os, n, rfl⟩)
      | (go_at_call_of 16 (Value.int IntKind.i64 u); refine (Rb _ (by repeat (first | assumption | exact Grew.refl _ | apply Grew.drew | apply Grew.drewN | apply Grew.alloc | apply Grew.more))).mono ?_; rintro e w' ⟨rfl, os, n, rfl⟩)
      | (go_at_call 19; refine (K _ (by repeat (first | assumption | exact Grew.refl _ | apply Grew.drew | apply Grew.drewN | apply Grew.alloc | apply Grew.more))).mono ?_; rintro e w' ⟨rfl, os, n, rfl⟩))
    all_goals go_ret
    all_goals exact ⟨rfl, by repeat (first | assumption | exact Grew.refl _ | apply Grew.drew | apply Grew.drewN | apply Grew.alloc | apply Grew.more)⟩

set_option maxRecDepth 10000 in
set_option maxHeartbeats 8000000 in
theorem gcd_law_zero (x y u v gx gy : Int) (w : World)
    (Oa : Gives 9 #[pv x y] w (pv x y)) (Ob : Gives 9 #[pv u v] w (pv u v)) (K : Gives 19 #[] w (.bool true)) (Nm : ∀ (n : Int) (W : World), Calls Try.prog 18 #[.int .i64 n] W fun e w' => e = .returned (.int .i64 n) ∧ W = w')
    (G : Gives 22 #[pv x y, pv u v] w (.tuple #[pv gx gy, .int .i64 0])) (Ng : Gives 26 #[pv gx gy] w (.int .i64 0)) (Np : Gives 26 #[pv x y] w (.int .i64 0)) (Nq : Gives 26 #[pv u v] w (.int .i64 0)) :
    Calls Try.prog 6 #[pv x y, pv u v] w fun e w' => e = .returned (.bool true) ∧ Grew w w' := by
  go_enter Try.func6, Try.ntmps6
  go_upto_region 1 with fail
  have hb0 : Two ((w.alloc (Obj.cells #[Value.int IntKind.i64 x, Value.int IntKind.i64 y] 23)).alloc (Obj.cells #[Value.int IntKind.i64 u, Value.int IntKind.i64 v] 23)) w.heap.size x y := ⟨by simp [go_sem], by simp [go_sem]⟩
  have hb1 : Two ((w.alloc (Obj.cells #[Value.int IntKind.i64 x, Value.int IntKind.i64 y] 23)).alloc (Obj.cells #[Value.int IntKind.i64 u, Value.int IntKind.i64 v] 23)) (w.heap.size + 1) u v := ⟨by simp [go_sem], by simp [go_sem]⟩
  have g : Grew w ((w.alloc (Obj.cells #[Value.int IntKind.i64 x, Value.int IntKind.i64 y] 23)).alloc (Obj.cells #[Value.int IntKind.i64 u, Value.int IntKind.i64 v] 23)) := ((Grew.refl w).alloc _).alloc _
  generalize (w.alloc (Obj.cells #[Value.int IntKind.i64 x, Value.int IntKind.i64 y] 23)).alloc (Obj.cells #[Value.int IntKind.i64 u, Value.int IntKind.i64 v] 23) = w0 at *
  obtain ⟨c0, c1⟩ := id hb0
  have l0 := hb0.lt
  obtain ⟨c2, c3⟩ := id hb1
  have l1 := hb1.lt
  go_upto_region 1 with fail
  go_cut [5, 6] from 13 (fun s0 s1 wx => ∃ pg : Nat, s0 = .pointer (some ⟨pg, 0, none⟩) ∧ s1 = .int .i64 0 ∧ Two wx pg gx gy ∧ Grew w0 wx)
  case first => as_aux_lemma =>
    clear K Nm Ng Np Nq
    go_region_held2 (fun W => W.cell? ⟨w.heap.size, 0, none⟩ = some (.int .i64 x) ∧ W.cell? ⟨w.heap.size, 1, none⟩ = some (.int .i64 y) ∧ W.cell? ⟨(w.heap.size + 1), 0, none⟩ = some (.int .i64 u) ∧ W.cell? ⟨(w.heap.size + 1), 1, none⟩ = some (.int .i64 v)) (simp (maxDischargeDepth := 12) [go_sem, c0, c1, c2, c3, l0, l1])
      ((first
        | (go_at_call_of 9 (Value.int IntKind.i64 x); refine (Oa _ (by repeat (first | assumption | exact Grew.refl _ | apply Grew.drew | apply Grew.drewN | apply Grew.alloc | apply Grew.more))).mono ?_; rintro e w' ⟨rfl, os, n, rfl⟩)
        | (go_at_call_of 9 (Value.int IntKind.i64 u); refine (Ob _ (by repeat (first | assumption | exact Grew.refl _ | apply Grew.drew | apply Grew.drewN | apply Grew.alloc | apply Grew.more))).mono ?_; rintro e w' ⟨rfl, os, n, rfl⟩)
        | (go_at_call 22; refine (G _ (by repeat (first | assumption | exact Grew.refl _ | apply Grew.drew | apply Grew.drewN | apply Grew.alloc | apply Grew.more))).mono ?_; rintro e w' ⟨rfl, os, n, rfl⟩)))
    all_goals go_wp2_with fail
    all_goals go_meet
    all_goals exact ⟨_, rfl, rfl, ⟨by simp (maxDischargeDepth := 12) [go_sem], by simp (maxDischargeDepth := 12) [go_sem]⟩, by repeat (first | assumption | exact Grew.refl _ | apply Grew.drew | apply Grew.drewN | apply Grew.alloc | apply Grew.more)⟩
  rename World => w1
  obtain ⟨pg, rfl, rfl, hb2, g'⟩ := hcut
  replace hb0 := hb0.later g'
  replace hb1 := hb1.later g'
  replace g := g.trans g'
  clear g'
  clear c0 c1 c2 c3 l0 l1
  obtain ⟨c0, c1⟩ := id hb0
  have l0 := hb0.lt
  obtain ⟨c2, c3⟩ := id hb1
  have l1 := hb1.lt
  obtain ⟨c4, c5⟩ := id hb2
  have l2 := hb2.lt
  clear G
  go_upto_region 5 with (first
    | (go_at_call 18; refine (Nm _ _).mono ?_; rintro e w' ⟨rfl, rfl⟩)
    | (go_at_call 26; refine (Ng _ (by repeat (first | assumption | exact Grew.refl _ | apply Grew.drew | apply Grew.drewN | apply Grew.alloc | apply Grew.more))).mono ?_; rintro e w' ⟨rfl, os, n, rfl⟩))
  go_region_held2 (fun W => W.cell? ⟨w.heap.size, 0, none⟩ = some (.int .i64 x) ∧ W.cell? ⟨w.heap.size, 1, none⟩ = some (.int .i64 y) ∧ W.cell? ⟨(w.heap.size + 1), 0, none⟩ = some (.int .i64 u) ∧ W.cell? ⟨(w.heap.size + 1), 1, none⟩ = some (.int .i64 v) ∧ W.cell? ⟨pg, 0, none⟩ = some (.int .i64 gx) ∧ W.cell? ⟨pg, 1, none⟩ = some (.int .i64 gy)) (simp (maxDischargeDepth := 12) [go_sem, c0, c1, c2, c3, c4, c5, l0, l1, l2])
    ((first
      | (go_at_call_of 9 (Value.int IntKind.i64 x); refine (Oa _ (by repeat (first | assumption | exact Grew.refl _ | apply Grew.drew | apply Grew.drewN | apply Grew.alloc | apply Grew.more))).mono ?_; rintro e w' ⟨rfl, os, n, rfl⟩)
      | (go_at_call_of 9 (Value.int IntKind.i64 u); refine (Ob _ (by repeat (first | assumption | exact Grew.refl _ | apply Grew.drew | apply Grew.drewN | apply Grew.alloc | apply Grew.more))).mono ?_; rintro e w' ⟨rfl, os, n, rfl⟩)
      | (go_at_call_of 26 (pv x y); refine (Np _ (by repeat (first | assumption | exact Grew.refl _ | apply Grew.drew | apply Grew.drewN | apply Grew.alloc | apply Grew.more))).mono ?_; rintro e w' ⟨rfl, os, n, rfl⟩)
      | (go_at_call_of 26 (pv u v); refine (Nq _ (by repeat (first | assumption | exact Grew.refl _ | apply Grew.drew | apply Grew.drewN | apply Grew.alloc | apply Grew.more))).mono ?_; rintro e w' ⟨rfl, os, n, rfl⟩)
      | (go_at_call 19; refine (K _ (by repeat (first | assumption | exact Grew.refl _ | apply Grew.drew | apply Grew.drewN | apply Grew.alloc | apply Grew.more))).mono ?_; rintro e w' ⟨rfl, os, n, rfl⟩)))
  all_goals go_wp2_with fail
  all_goals go_ret
  all_goals exact ⟨rfl, by repeat (first | assumption | exact Grew.refl _ | apply Grew.drew | apply Grew.drewN | apply Grew.alloc | apply Grew.more)⟩

set_option maxRecDepth 10000 in
set_option maxHeartbeats 8000000 in
theorem gcd_law_good (x y u v gx gy ng a b c d : Int) (w : World) (h1 : ¬ ng = 0) (h2 : 0 < gx) (h3 : 0 ≤ gy)
    (Oa : Gives 9 #[pv x y] w (pv x y)) (Ob : Gives 9 #[pv u v] w (pv u v)) (K : Gives 19 #[] w (.bool true)) (Nm : ∀ (n : Int) (W : World), Calls Try.prog 18 #[.int .i64 n] W fun e w' => e = .returned (.int .i64 n) ∧ W = w')
    (G : Gives 22 #[pv x y, pv u v] w (.tuple #[pv gx gy, .int .i64 0])) (Ng : Gives 26 #[pv gx gy] w (.int .i64 ng)) (Nz : Gives 26 #[pv 0 0] w (.int .i64 0))
    (D1 : Gives 20 #[pv x y, pv gx gy] w (.tuple #[pv a b, pv 0 0, .int .i64 0])) (D2 : Gives 20 #[pv u v, pv gx gy] w (.tuple #[pv c d, pv 0 0, .int .i64 0])) :
    Calls Try.prog 6 #[pv x y, pv u v] w fun e w' => e = .returned (.bool true) ∧ Grew w w' := by
  go_enter Try.func6, Try.ntmps6
  go_upto_region 1 with fail
  have hb0 : Two ((w.alloc (Obj.cells #[Value.int IntKind.i64 x, Value.int IntKind.i64 y] 23)).alloc (Obj.cells #[Value.int IntKind.i64 u, Value.int IntKind.i64 v] 23)) w.heap.size x y := ⟨by simp [go_sem], by simp [go_sem]⟩
  have hb1 : Two ((w.alloc (Obj.cells #[Value.int IntKind.i64 x, Value.int IntKind.i64 y] 23)).alloc (Obj.cells #[Value.int IntKind.i64 u, Value.int IntKind.i64 v] 23)) (w.heap.size + 1) u v := ⟨by simp [go_sem], by simp [go_sem]⟩
  have g : Grew w ((w.alloc (Obj.cells #[Value.int IntKind.i64 x, Value.int IntKind.i64 y] 23)).alloc (Obj.cells #[Value.int IntKind.i64 u, Value.int IntKind.i64 v] 23)) := ((Grew.refl w).alloc _).alloc _
  generalize (w.alloc (Obj.cells #[Value.int IntKind.i64 x, Value.int IntKind.i64 y] 23)).alloc (Obj.cells #[Value.int IntKind.i64 u, Value.int IntKind.i64 v] 23) = w0 at *
  obtain ⟨c0, c1⟩ := id hb0
  have l0 := hb0.lt
  obtain ⟨c2, c3⟩ := id hb1
  have l1 := hb1.lt
  go_upto_region 1 with fail
  go_cut [5, 6] from 13 (fun s0 s1 wx => ∃ pg : Nat, s0 = .pointer (some ⟨pg, 0, none⟩) ∧ s1 = .int .i64 0 ∧ Two wx pg gx gy ∧ Grew w0 wx)
  case first => as_aux_lemma =>
    clear K Nm Ng Nz D1 D2
    go_region_held2 (fun W => W.cell? ⟨w.heap.size, 0, none⟩ = some (.int .i64 x) ∧ W.cell? ⟨w.heap.size, 1, none⟩ = some (.int .i64 y) ∧ W.cell? ⟨(w.heap.size + 1), 0, none⟩ = some (.int .i64 u) ∧ W.cell? ⟨(w.heap.size + 1), 1, none⟩ = some (.int .i64 v)) (simp (maxDischargeDepth := 12) [go_sem, c0, c1, c2, c3, l0, l1])
      ((first
        | (go_at_call_of 9 (Value.int IntKind.i64 x); refine (Oa _ (by repeat (first | assumption | exact Grew.refl _ | apply Grew.drew | apply Grew.drewN | apply Grew.alloc | apply Grew.more))).mono ?_; rintro e w' ⟨rfl, os, n, rfl⟩)
        | (go_at_call_of 9 (Value.int IntKind.i64 u); refine (Ob _ (by repeat (first | assumption | exact Grew.refl _ | apply Grew.drew | apply Grew.drewN | apply Grew.alloc | apply Grew.more))).mono ?_; rintro e w' ⟨rfl, os, n, rfl⟩)
        | (go_at_call 22; refine (G _ (by repeat (first | assumption | exact Grew.refl _ | apply Grew.drew | apply Grew.drewN | apply Grew.alloc | apply Grew.more))).mono ?_; rintro e w' ⟨rfl, os, n, rfl⟩)))
    all_goals go_wp2_with fail
    all_goals go_meet
    all_goals exact ⟨_, rfl, rfl, ⟨by simp (maxDischargeDepth := 12) [go_sem], by simp (maxDischargeDepth := 12) [go_sem]⟩, by repeat (first | assumption | exact Grew.refl _ | apply Grew.drew | apply Grew.drewN | apply Grew.alloc | apply Grew.more)⟩
  rename World => w1
  obtain ⟨pg, rfl, rfl, hb2, g'⟩ := hcut
  replace hb0 := hb0.later g'
  replace hb1 := hb1.later g'
  replace g := g.trans g'
  clear g'
  clear c0 c1 c2 c3 l0 l1
  obtain ⟨c0, c1⟩ := id hb0
  have l0 := hb0.lt
  obtain ⟨c2, c3⟩ := id hb1
  have l1 := hb1.lt
  obtain ⟨c4, c5⟩ := id hb2
  have l2 := hb2.lt
  clear G
  go_upto_region 6 with (first
    | (go_at_call 18; refine (Nm _ _).mono ?_; rintro e w' ⟨rfl, rfl⟩)
    | (go_at_call 26; refine (Ng _ (by repeat (first | assumption | exact Grew.refl _ | apply Grew.drew | apply Grew.drewN | apply Grew.alloc | apply Grew.more))).mono ?_; rintro e w' ⟨rfl, os, n, rfl⟩))
  have g' : Grew w1 ((more w1 os).drewN n) := ⟨os, n, rfl⟩
  generalize (more w1 os).drewN n = w2 at *
  replace hb0 := hb0.later g'
  replace hb1 := hb1.later g'
  replace hb2 := hb2.later g'
  replace g := g.trans g'
  clear g' Ng
  clear c0 c1 c2 c3 c4 c5 l0 l1 l2
  obtain ⟨c0, c1⟩ := id hb0
  have l0 := hb0.lt
  obtain ⟨c2, c3⟩ := id hb1
  have l1 := hb1.lt
  obtain ⟨c4, c5⟩ := id hb2
  have l2 := hb2.lt
  go_upto_region 6 with fail
  go_cut [7, 8, 9] from 13 (fun s0 s1 s2 wx => ∃ p1 : Nat, ∃ p2 : Nat, s0 = .pointer (some ⟨p1, 0, none⟩) ∧ s1 = .pointer (some ⟨p2, 0, none⟩) ∧ s2 = .int .i64 0 ∧ Two wx p1 a b ∧ Two wx p2 0 0 ∧ Grew w2 wx)
  case first => as_aux_lemma =>
    clear K Nm Nz D2 Ob
    go_region_held2 (fun W => W.cell? ⟨w.heap.size, 0, none⟩ = some (.int .i64 x) ∧ W.cell? ⟨w.heap.size, 1, none⟩ = some (.int .i64 y) ∧ W.cell? ⟨(w.heap.size + 1), 0, none⟩ = some (.int .i64 u) ∧ W.cell? ⟨(w.heap.size + 1), 1, none⟩ = some (.int .i64 v) ∧ W.cell? ⟨pg, 0, none⟩ = some (.int .i64 gx) ∧ W.cell? ⟨pg, 1, none⟩ = some (.int .i64 gy)) (simp (maxDischargeDepth := 12) [go_sem, c0, c1, c2, c3, c4, c5, l0, l1, l2])
      ((first
        | (go_at_call_of 9 (Value.int IntKind.i64 x); refine (Oa _ (by repeat (first | assumption | exact Grew.refl _ | apply Grew.drew | apply Grew.drewN | apply Grew.alloc | apply Grew.more))).mono ?_; rintro e w' ⟨rfl, os, n, rfl⟩)
        | (go_at_call 20; refine (D1 _ (by repeat (first | assumption | exact Grew.refl _ | apply Grew.drew | apply Grew.drewN | apply Grew.alloc | apply Grew.more))).mono ?_; rintro e w' ⟨rfl, os, n, rfl⟩)))
    all_goals go_wp2_with fail
    all_goals go_meet
    all_goals exact ⟨_, _, rfl, rfl, rfl, ⟨by simp (maxDischargeDepth := 12) [go_sem], by simp (maxDischargeDepth := 12) [go_sem]⟩, ⟨by simp (maxDischargeDepth := 12) [go_sem], by simp (maxDischargeDepth := 12) [go_sem]⟩, by repeat (first | assumption | exact Grew.refl _ | apply Grew.drew | apply Grew.drewN | apply Grew.alloc | apply Grew.more)⟩
  rename World => w3
  obtain ⟨p1, p2, rfl, rfl, rfl, hb3, hb4, g'⟩ := hcut
  replace hb0 := hb0.later g'
  replace hb1 := hb1.later g'
  replace hb2 := hb2.later g'
  replace g := g.trans g'
  clear g'
  clear c0 c1 c2 c3 c4 c5 l0 l1 l2
  obtain ⟨c0, c1⟩ := id hb0
  have l0 := hb0.lt
  obtain ⟨c2, c3⟩ := id hb1
  have l1 := hb1.lt
  obtain ⟨c4, c5⟩ := id hb2
  have l2 := hb2.lt
  obtain ⟨c6, c7⟩ := id hb3
  have l3 := hb3.lt
  obtain ⟨c8, c9⟩ := id hb4
  have l4 := hb4.lt
  go_upto_region 7 with fail
  go_cut [10, 11, 12] from 13 (fun s0 s1 s2 wx => ∃ p3 : Nat, ∃ p4 : Nat, s0 = .pointer (some ⟨p3, 0, none⟩) ∧ s1 = .pointer (some ⟨p4, 0, none⟩) ∧ s2 = .int .i64 0 ∧ Two wx p3 c d ∧ Two wx p4 0 0 ∧ Grew w3 wx)
  case first => as_aux_lemma =>
    clear K Nm Nz D1 Oa
    go_region_held2 (fun W => W.cell? ⟨w.heap.size, 0, none⟩ = some (.int .i64 x) ∧ W.cell? ⟨w.heap.size, 1, none⟩ = some (.int .i64 y) ∧ W.cell? ⟨(w.heap.size + 1), 0, none⟩ = some (.int .i64 u) ∧ W.cell? ⟨(w.heap.size + 1), 1, none⟩ = some (.int .i64 v) ∧ W.cell? ⟨pg, 0, none⟩ = some (.int .i64 gx) ∧ W.cell? ⟨pg, 1, none⟩ = some (.int .i64 gy) ∧ W.cell? ⟨p1, 0, none⟩ = some (.int .i64 a) ∧ W.cell? ⟨p1, 1, none⟩ = some (.int .i64 b) ∧ W.cell? ⟨p2, 0, none⟩ = some (.int .i64 0) ∧ W.cell? ⟨p2, 1, none⟩ = some (.int .i64 0)) (simp (maxDischargeDepth := 12) [go_sem, c0, c1, c2, c3, c4, c5, c6, c7, c8, c9, l0, l1, l2, l3, l4])
      ((first
        | (go_at_call_of 9 (Value.int IntKind.i64 u); refine (Ob _ (by repeat (first | assumption | exact Grew.refl _ | apply Grew.drew | apply Grew.drewN | apply Grew.alloc | apply Grew.more))).mono ?_; rintro e w' ⟨rfl, os, n, rfl⟩)
        | (go_at_call 20; refine (D2 _ (by repeat (first | assumption | exact Grew.refl _ | apply Grew.drew | apply Grew.drewN | apply Grew.alloc | apply Grew.more))).mono ?_; rintro e w' ⟨rfl, os, n, rfl⟩)))
    all_goals go_wp2_with fail
    all_goals go_meet
    all_goals exact ⟨_, _, rfl, rfl, rfl, ⟨by simp (maxDischargeDepth := 12) [go_sem], by simp (maxDischargeDepth := 12) [go_sem]⟩, ⟨by simp (maxDischargeDepth := 12) [go_sem], by simp (maxDischargeDepth := 12) [go_sem]⟩, by repeat (first | assumption | exact Grew.refl _ | apply Grew.drew | apply Grew.drewN | apply Grew.alloc | apply Grew.more)⟩
  rename World => w4
  obtain ⟨p3, p4, rfl, rfl, rfl, hb5, hb6, g'⟩ := hcut
  replace hb0 := hb0.later g'
  replace hb1 := hb1.later g'
  replace hb2 := hb2.later g'
  replace hb3 := hb3.later g'
  replace hb4 := hb4.later g'
  replace g := g.trans g'
  clear g'
  clear c0 c1 c2 c3 c4 c5 c6 c7 c8 c9 l0 l1 l2 l3 l4
  obtain ⟨c0, c1⟩ := id hb0
  have l0 := hb0.lt
  obtain ⟨c2, c3⟩ := id hb1
  have l1 := hb1.lt
  obtain ⟨c4, c5⟩ := id hb2
  have l2 := hb2.lt
  obtain ⟨c6, c7⟩ := id hb3
  have l3 := hb3.lt
  obtain ⟨c8, c9⟩ := id hb4
  have l4 := hb4.lt
  obtain ⟨c10, c11⟩ := id hb5
  have l5 := hb5.lt
  obtain ⟨c12, c13⟩ := id hb6
  have l6 := hb6.lt
  clear D1 D2 Oa Ob
  go_upto_region 8 with fail
  go_region_held2 (fun W => W.cell? ⟨w.heap.size, 0, none⟩ = some (.int .i64 x) ∧ W.cell? ⟨w.heap.size, 1, none⟩ = some (.int .i64 y) ∧ W.cell? ⟨(w.heap.size + 1), 0, none⟩ = some (.int .i64 u) ∧ W.cell? ⟨(w.heap.size + 1), 1, none⟩ = some (.int .i64 v) ∧ W.cell? ⟨pg, 0, none⟩ = some (.int .i64 gx) ∧ W.cell? ⟨pg, 1, none⟩ = some (.int .i64 gy) ∧ W.cell? ⟨p1, 0, none⟩ = some (.int .i64 a) ∧ W.cell? ⟨p1, 1, none⟩ = some (.int .i64 b) ∧ W.cell? ⟨p2, 0, none⟩ = some (.int .i64 0) ∧ W.cell? ⟨p2, 1, none⟩ = some (.int .i64 0) ∧ W.cell? ⟨p3, 0, none⟩ = some (.int .i64 c) ∧ W.cell? ⟨p3, 1, none⟩ = some (.int .i64 d) ∧ W.cell? ⟨p4, 0, none⟩ = some (.int .i64 0) ∧ W.cell? ⟨p4, 1, none⟩ = some (.int .i64 0)) (simp (maxDischargeDepth := 12) [go_sem, c0, c1, c2, c3, c4, c5, c6, c7, c8, c9, c10, c11, c12, c13, l0, l1, l2, l3, l4, l5, l6])
    ((first
      | (go_at_call 18; refine (Nm _ _).mono ?_; rintro e w' ⟨rfl, rfl⟩)
      | (go_at_call 26; refine (Nz _ (by repeat (first | assumption | exact Grew.refl _ | apply Grew.drew | apply Grew.drewN | apply Grew.alloc | apply Grew.more))).mono ?_; rintro e w' ⟨rfl, os, n, rfl⟩)
      | (go_at_call 19; refine (K _ (by repeat (first | assumption | exact Grew.refl _ | apply Grew.drew | apply Grew.drewN | apply Grew.alloc | apply Grew.more))).mono ?_; rintro e w' ⟨rfl, os, n, rfl⟩)))
  all_goals go_wp2_with fail
  all_goals go_ret
  all_goals exact ⟨rfl, by repeat (first | assumption | exact Grew.refl _ | apply Grew.drew | apply Grew.drewN | apply Grew.alloc | apply Grew.more)⟩
end Go.Proofs.Ytidknbdckdinlaa
