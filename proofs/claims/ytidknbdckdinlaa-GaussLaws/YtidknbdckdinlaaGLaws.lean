/-
  The walk of GaussLaws over what its callees give.
-/
import Derived.Test.YtidknbdckdinlaaGBase
namespace Go.Proofs.Ytidknbdckdinlaa
attribute [local go_sem] cell?_more frozen?_more setCell_more more_lt more_more more_drew more_drewN setCell_drewN alloc_drewN
attribute [local go_sem high] cellMA frozenMA setMA cellMAM frozenMAM setMAM cellMAA frozenMAA setMAA cellMAAM frozenMAAM setMAAM cellMAMA frozenMAMA setMAMA cellMAMAM frozenMAMAM setMAMAM cellMAMAMA frozenMAMAMA setMAMAMA cellMAMAMAM frozenMAMAMAM setMAMAMAM size_blank

set_option maxRecDepth 10000 in
set_option maxHeartbeats 8000000 in
theorem laws_core (x y u v mx my me qx qy r1 r2 de na np nq nr : Int) (w : World)
    (Oa : Gives 9 #[pv x y] w (pv x y)) (Ob : Gives 9 #[pv u v] w (pv u v)) (K : Gives 19 #[] w (.bool true)) (Nm : ∀ (n : Int) (W : World), Calls Try.prog 18 #[.int .i64 n] W fun e w' => e = .returned (.int .i64 n) ∧ W = w')
    (M1 : Gives 13 #[pv x y, pv u v] w (.tuple #[pv mx my, .int .i64 me])) (M2 : Gives 13 #[pv u v, pv x y] w (.tuple #[pv mx my, .int .i64 me]))
    (D : Gives 20 #[pv x y, pv u v] w (.tuple #[pv qx qy, pv r1 r2, .int .i64 de]))
    (Na : Gives 26 #[pv mx my] w (.int .i64 na)) (Np : Gives 26 #[pv x y] w (.int .i64 np)) (Nq : Gives 26 #[pv u v] w (.int .i64 nq)) (Nr : Gives 26 #[pv r1 r2] w (.int .i64 nr))
    (E0 : me = 0 → IntKind.i64.wrap (np * nq) = na)
    (E1 : de = 0 → ∃ A1 A2 A3 B1 B2 B3 n2 : Int, IntKind.i64.wrap (u * qx) = A1 ∧ IntKind.i64.wrap (v * qy) = A2 ∧ IntKind.i64.wrap (A1 - A2) = A3 ∧ IntKind.i64.wrap (A3 + r1) = x ∧
      IntKind.i64.wrap (u * qy) = B1 ∧ IntKind.i64.wrap (v * qx) = B2 ∧ IntKind.i64.wrap (B1 + B2) = B3 ∧ IntKind.i64.wrap (B3 + r2) = y ∧ IntKind.i64.wrap (2 * nr) = n2 ∧ n2 ≤ nq)
    (E2 : de = 33 → nq = 0) :
    Calls Try.prog 5 #[pv x y, pv u v] w fun e w' => e = .returned (.bool true) ∧ Grew w w' := by
  go_enter Try.func5, Try.ntmps5
  go_upto_region 1 with fail
  have hb0 : Two ((w.alloc (Obj.cells #[Value.int IntKind.i64 x, Value.int IntKind.i64 y] 23)).alloc (Obj.cells #[Value.int IntKind.i64 u, Value.int IntKind.i64 v] 23)) w.heap.size x y := ⟨by simp [go_sem], by simp [go_sem]⟩
  have hb1 : Two ((w.alloc (Obj.cells #[Value.int IntKind.i64 x, Value.int IntKind.i64 y] 23)).alloc (Obj.cells #[Value.int IntKind.i64 u, Value.int IntKind.i64 v] 23)) (w.heap.size + 1) u v := ⟨by simp [go_sem], by simp [go_sem]⟩
  have g : Grew w ((w.alloc (Obj.cells #[Value.int IntKind.i64 x, Value.int IntKind.i64 y] 23)).alloc (Obj.cells #[Value.int IntKind.i64 u, Value.int IntKind.i64 v] 23)) := ((Grew.refl w).alloc _).alloc _
  generalize (w.alloc (Obj.cells #[Value.int IntKind.i64 x, Value.int IntKind.i64 y] 23)).alloc (Obj.cells #[Value.int IntKind.i64 u, Value.int IntKind.i64 v] 23) = w0 at *
  obtain ⟨c0, c1⟩ := id hb0
  have l0 := hb0.lt
  obtain ⟨c2, c3⟩ := id hb1
  have l1 := hb1.lt
  go_upto_region 1 with fail
  go_cut [5, 6] from 12 (fun s0 s1 wx => ∃ pa : Nat, s0 = .pointer (some ⟨pa, 0, none⟩) ∧ s1 = .int .i64 me ∧ Two wx pa mx my ∧ Grew w0 wx)
  case first => as_aux_lemma =>
    clear K Nm M2 D Na Np Nq Nr E0 E1 E2
    go_region_held2 (fun W => W.cell? ⟨w.heap.size, 0, none⟩ = some (.int .i64 x) ∧ W.cell? ⟨w.heap.size, 1, none⟩ = some (.int .i64 y) ∧ W.cell? ⟨(w.heap.size + 1), 0, none⟩ = some (.int .i64 u) ∧ W.cell? ⟨(w.heap.size + 1), 1, none⟩ = some (.int .i64 v)) (simp (maxDischargeDepth := 12) [go_sem, c0, c1, c2, c3, l0, l1])
      ((first
        | (go_at_call_of 9 (Value.int IntKind.i64 x); refine (Oa _ (by repeat (first | assumption | exact Grew.refl _ | apply Grew.drew | apply Grew.drewN | apply Grew.alloc | apply Grew.more))).mono ?_; rintro e w' ⟨rfl, os, n, rfl⟩)
        | (go_at_call_of 9 (Value.int IntKind.i64 u); refine (Ob _ (by repeat (first | assumption | exact Grew.refl _ | apply Grew.drew | apply Grew.drewN | apply Grew.alloc | apply Grew.more))).mono ?_; rintro e w' ⟨rfl, os, n, rfl⟩)
        | (go_at_call 13; refine (M1 _ (by repeat (first | assumption | exact Grew.refl _ | apply Grew.drew | apply Grew.drewN | apply Grew.alloc | apply Grew.more))).mono ?_; rintro e w' ⟨rfl, os, n, rfl⟩)))
    all_goals go_wp2_with fail
    all_goals go_meet
    all_goals exact ⟨_, rfl, rfl, ⟨by simp (maxDischargeDepth := 12) [go_sem], by simp (maxDischargeDepth := 12) [go_sem]⟩, by repeat (first | assumption | exact Grew.refl _ | apply Grew.drew | apply Grew.drewN | apply Grew.alloc | apply Grew.more)⟩
  rename World => w1
  obtain ⟨pa, rfl, rfl, hb2, g'⟩ := hcut
  replace hb0 := hb0.later g'
  replace hb1 := hb1.later g'
  replace g := g.trans g'
  clear g'
  clear c0 c1 c2 c3 l0 l1
  obtain ⟨c0, c1⟩ := id hb0
  have l0 := hb0.lt
  obtain ⟨c2, c3⟩ := id hb1
  have l1 := hb1.lt
  obtain ⟨c4, c5⟩ := id hb2
  have l2 := hb2.lt
  go_upto_region 2 with fail
  go_cut [7, 8] from 12 (fun s0 s1 wx => ∃ pb : Nat, s0 = .pointer (some ⟨pb, 0, none⟩) ∧ s1 = .int .i64 me ∧ Two wx pb mx my ∧ Grew w1 wx)
  case first => as_aux_lemma =>
    clear K Nm M1 D Na Np Nq Nr E0 E1 E2
    go_region_held2 (fun W => W.cell? ⟨w.heap.size, 0, none⟩ = some (.int .i64 x) ∧ W.cell? ⟨w.heap.size, 1, none⟩ = some (.int .i64 y) ∧ W.cell? ⟨(w.heap.size + 1), 0, none⟩ = some (.int .i64 u) ∧ W.cell? ⟨(w.heap.size + 1), 1, none⟩ = some (.int .i64 v) ∧ W.cell? ⟨pa, 0, none⟩ = some (.int .i64 mx) ∧ W.cell? ⟨pa, 1, none⟩ = some (.int .i64 my)) (simp (maxDischargeDepth := 12) [go_sem, c0, c1, c2, c3, c4, c5, l0, l1, l2])
      ((first
        | (go_at_call_of 9 (Value.int IntKind.i64 x); refine (Oa _ (by repeat (first | assumption | exact Grew.refl _ | apply Grew.drew | apply Grew.drewN | apply Grew.alloc | apply Grew.more))).mono ?_; rintro e w' ⟨rfl, os, n, rfl⟩)
        | (go_at_call_of 9 (Value.int IntKind.i64 u); refine (Ob _ (by repeat (first | assumption | exact Grew.refl _ | apply Grew.drew | apply Grew.drewN | apply Grew.alloc | apply Grew.more))).mono ?_; rintro e w' ⟨rfl, os, n, rfl⟩)
        | (go_at_call 13; refine (M2 _ (by repeat (first | assumption | exact Grew.refl _ | apply Grew.drew | apply Grew.drewN | apply Grew.alloc | apply Grew.more))).mono ?_; rintro e w' ⟨rfl, os, n, rfl⟩)))
    all_goals go_wp2_with fail
    all_goals go_meet
    all_goals exact ⟨_, rfl, rfl, ⟨by simp (maxDischargeDepth := 12) [go_sem], by simp (maxDischargeDepth := 12) [go_sem]⟩, by repeat (first | assumption | exact Grew.refl _ | apply Grew.drew | apply Grew.drewN | apply Grew.alloc | apply Grew.more)⟩
  rename World => w2
  obtain ⟨pb, rfl, rfl, hb3, g'⟩ := hcut
  replace hb0 := hb0.later g'
  replace hb1 := hb1.later g'
  replace hb2 := hb2.later g'
  replace g := g.trans g'
  clear g'
  clear c0 c1 c2 c3 c4 c5 l0 l1 l2
  obtain ⟨c0, c1⟩ := id hb0
  have l0 := hb0.lt
  obtain ⟨c2, c3⟩ := id hb1
  have l1 := hb1.lt
  obtain ⟨c4, c5⟩ := id hb2
  have l2 := hb2.lt
  obtain ⟨c6, c7⟩ := id hb3
  have l3 := hb3.lt
  clear M1 M2
  go_upto_region 3 with fail
  go_upto_region 5 with (go_at_call 19; refine (K _ (by repeat (first | assumption | exact Grew.refl _ | apply Grew.drew | apply Grew.drewN | apply Grew.alloc | apply Grew.more))).mono ?_; rintro e w' ⟨rfl, os, n, rfl⟩)
  go_cut [54] from 12 (fun s0 wx => s0 = .bool false ∧ Grew w2 wx)
  case first => as_aux_lemma =>
    clear D K E1 E2 Nr
    by_cases hme : me = 0
    · subst hme
      have e0 := E0 rfl
      clear E0
      go_region_held2 (fun W => W.cell? ⟨w.heap.size, 0, none⟩ = some (.int .i64 x) ∧ W.cell? ⟨w.heap.size, 1, none⟩ = some (.int .i64 y) ∧ W.cell? ⟨(w.heap.size + 1), 0, none⟩ = some (.int .i64 u) ∧ W.cell? ⟨(w.heap.size + 1), 1, none⟩ = some (.int .i64 v) ∧ W.cell? ⟨pa, 0, none⟩ = some (.int .i64 mx) ∧ W.cell? ⟨pa, 1, none⟩ = some (.int .i64 my) ∧ W.cell? ⟨pb, 0, none⟩ = some (.int .i64 mx) ∧ W.cell? ⟨pb, 1, none⟩ = some (.int .i64 my)) (simp (maxDischargeDepth := 12) [go_sem, c0, c1, c2, c3, c4, c5, c6, c7, l0, l1, l2, l3])
        ((first
          | (go_at_call_of 9 (Value.int IntKind.i64 x); refine (Oa _ (by repeat (first | assumption | exact Grew.refl _ | apply Grew.drew | apply Grew.drewN | apply Grew.alloc | apply Grew.more))).mono ?_; rintro e w' ⟨rfl, os, n, rfl⟩)
          | (go_at_call_of 9 (Value.int IntKind.i64 u); refine (Ob _ (by repeat (first | assumption | exact Grew.refl _ | apply Grew.drew | apply Grew.drewN | apply Grew.alloc | apply Grew.more))).mono ?_; rintro e w' ⟨rfl, os, n, rfl⟩)
          | (go_at_call 18; refine (Nm _ _).mono ?_; rintro e w' ⟨rfl, rfl⟩)
          | (go_at_call_of 26 (Value.int IntKind.i64 mx); refine (Na _ (by repeat (first | assumption | exact Grew.refl _ | apply Grew.drew | apply Grew.drewN | apply Grew.alloc | apply Grew.more))).mono ?_; rintro e w' ⟨rfl, os, n, rfl⟩)
          | (go_at_call_of 26 (pv x y); refine (Np _ (by repeat (first | assumption | exact Grew.refl _ | apply Grew.drew | apply Grew.drewN | apply Grew.alloc | apply Grew.more))).mono ?_; rintro e w' ⟨rfl, os, n, rfl⟩)
          | (go_at_call_of 26 (pv u v); refine (Nq _ (by repeat (first | assumption | exact Grew.refl _ | apply Grew.drew | apply Grew.drewN | apply Grew.alloc | apply Grew.more))).mono ?_; rintro e w' ⟨rfl, os, n, rfl⟩)))
      all_goals go_wp2_with fail
      all_goals go_meet
      all_goals exact ⟨rfl, by repeat (first | assumption | exact Grew.refl _ | apply Grew.drew | apply Grew.drewN | apply Grew.alloc | apply Grew.more)⟩
    · clear E0 Oa Ob Na Np Nq
      go_region_with (go_at_call 18; refine (Nm _ _).mono ?_; rintro e w' ⟨rfl, rfl⟩)
      all_goals go_wp2_with fail
      all_goals go_meet
      all_goals exact ⟨rfl, by repeat (first | assumption | exact Grew.refl _ | apply Grew.drew | apply Grew.drewN | apply Grew.alloc | apply Grew.more)⟩
  rename World => w3
  obtain ⟨rfl, g'⟩ := hcut
  replace hb0 := hb0.later g'
  replace hb1 := hb1.later g'
  replace hb2 := hb2.later g'
  replace hb3 := hb3.later g'
  replace g := g.trans g'
  clear g'
  clear c0 c1 c2 c3 c4 c5 c6 c7 l0 l1 l2 l3
  obtain ⟨c0, c1⟩ := id hb0
  have l0 := hb0.lt
  obtain ⟨c2, c3⟩ := id hb1
  have l1 := hb1.lt
  obtain ⟨c4, c5⟩ := id hb2
  have l2 := hb2.lt
  obtain ⟨c6, c7⟩ := id hb3
  have l3 := hb3.lt
  go_upto_region 7 with fail
  go_cut [9, 10, 11] from 12 (fun s0 s1 s2 wx => ∃ pc : Nat, ∃ pr : Nat, s0 = .pointer (some ⟨pc, 0, none⟩) ∧ s1 = .pointer (some ⟨pr, 0, none⟩) ∧ s2 = .int .i64 de ∧ Two wx pc qx qy ∧ Two wx pr r1 r2 ∧ Grew w3 wx)
  case first => as_aux_lemma =>
    clear K Nm Na Np Nq Nr E0 E1 E2
    go_region_held2 (fun W => W.cell? ⟨w.heap.size, 0, none⟩ = some (.int .i64 x) ∧ W.cell? ⟨w.heap.size, 1, none⟩ = some (.int .i64 y) ∧ W.cell? ⟨(w.heap.size + 1), 0, none⟩ = some (.int .i64 u) ∧ W.cell? ⟨(w.heap.size + 1), 1, none⟩ = some (.int .i64 v) ∧ W.cell? ⟨pa, 0, none⟩ = some (.int .i64 mx) ∧ W.cell? ⟨pa, 1, none⟩ = some (.int .i64 my) ∧ W.cell? ⟨pb, 0, none⟩ = some (.int .i64 mx) ∧ W.cell? ⟨pb, 1, none⟩ = some (.int .i64 my)) (simp (maxDischargeDepth := 12) [go_sem, c0, c1, c2, c3, c4, c5, c6, c7, l0, l1, l2, l3])
      ((first
        | (go_at_call_of 9 (Value.int IntKind.i64 x); refine (Oa _ (by repeat (first | assumption | exact Grew.refl _ | apply Grew.drew | apply Grew.drewN | apply Grew.alloc | apply Grew.more))).mono ?_; rintro e w' ⟨rfl, os, n, rfl⟩)
        | (go_at_call_of 9 (Value.int IntKind.i64 u); refine (Ob _ (by repeat (first | assumption | exact Grew.refl _ | apply Grew.drew | apply Grew.drewN | apply Grew.alloc | apply Grew.more))).mono ?_; rintro e w' ⟨rfl, os, n, rfl⟩)
        | (go_at_call 20; refine (D _ (by repeat (first | assumption | exact Grew.refl _ | apply Grew.drew | apply Grew.drewN | apply Grew.alloc | apply Grew.more))).mono ?_; rintro e w' ⟨rfl, os, n, rfl⟩)))
    all_goals go_wp2_with fail
    all_goals go_meet
    all_goals exact ⟨_, _, rfl, rfl, rfl, ⟨by simp (maxDischargeDepth := 12) [go_sem], by simp (maxDischargeDepth := 12) [go_sem]⟩, ⟨by simp (maxDischargeDepth := 12) [go_sem], by simp (maxDischargeDepth := 12) [go_sem]⟩, by repeat (first | assumption | exact Grew.refl _ | apply Grew.drew | apply Grew.drewN | apply Grew.alloc | apply Grew.more)⟩
  rename World => w4
  obtain ⟨pc, pr, rfl, rfl, rfl, hb4, hb5, g'⟩ := hcut
  replace hb0 := hb0.later g'
  replace hb1 := hb1.later g'
  replace hb2 := hb2.later g'
  replace hb3 := hb3.later g'
  replace g := g.trans g'
  clear g'
  clear c0 c1 c2 c3 c4 c5 c6 c7 l0 l1 l2 l3
  obtain ⟨c0, c1⟩ := id hb0
  have l0 := hb0.lt
  obtain ⟨c2, c3⟩ := id hb1
  have l1 := hb1.lt
  obtain ⟨c4, c5⟩ := id hb2
  have l2 := hb2.lt
  obtain ⟨c6, c7⟩ := id hb3
  have l3 := hb3.lt
  obtain ⟨c8, c9⟩ := id hb4
  have l4 := hb4.lt
  obtain ⟨c10, c11⟩ := id hb5
  have l5 := hb5.lt
  clear D K E0 Na Np
  by_cases hde : de = 0
  · as_aux_lemma =>
    subst hde
    obtain ⟨A1, A2, A3, B1, B2, B3, n2, e1, e2, e3, e4, e5, e6, e7, e8, e9, e10⟩ := E1 rfl
    clear E1 E2 Oa
    go_upto_region 10 with (go_at_call 18; refine (Nm _ _).mono ?_; rintro e w' ⟨rfl, rfl⟩)
    go_region_held2 (fun W => W.cell? ⟨w.heap.size, 0, none⟩ = some (.int .i64 x) ∧ W.cell? ⟨w.heap.size, 1, none⟩ = some (.int .i64 y) ∧ W.cell? ⟨(w.heap.size + 1), 0, none⟩ = some (.int .i64 u) ∧ W.cell? ⟨(w.heap.size + 1), 1, none⟩ = some (.int .i64 v) ∧ W.cell? ⟨pa, 0, none⟩ = some (.int .i64 mx) ∧ W.cell? ⟨pa, 1, none⟩ = some (.int .i64 my) ∧ W.cell? ⟨pb, 0, none⟩ = some (.int .i64 mx) ∧ W.cell? ⟨pb, 1, none⟩ = some (.int .i64 my) ∧ W.cell? ⟨pc, 0, none⟩ = some (.int .i64 qx) ∧ W.cell? ⟨pc, 1, none⟩ = some (.int .i64 qy) ∧ W.cell? ⟨pr, 0, none⟩ = some (.int .i64 r1) ∧ W.cell? ⟨pr, 1, none⟩ = some (.int .i64 r2)) (simp (maxDischargeDepth := 12) [go_sem, c0, c1, c2, c3, c4, c5, c6, c7, c8, c9, c10, c11, l0, l1, l2, l3, l4, l5])
      ((first
        | (go_at_call_of 9 (Value.int IntKind.i64 u); refine (Ob _ (by repeat (first | assumption | exact Grew.refl _ | apply Grew.drew | apply Grew.drewN | apply Grew.alloc | apply Grew.more))).mono ?_; rintro e w' ⟨rfl, os, n, rfl⟩)
        | (go_at_call_of 26 (Value.int IntKind.i64 r1); refine (Nr _ (by repeat (first | assumption | exact Grew.refl _ | apply Grew.drew | apply Grew.drewN | apply Grew.alloc | apply Grew.more))).mono ?_; rintro e w' ⟨rfl, os, n, rfl⟩)
        | (go_at_call_of 26 (pv u v); refine (Nq _ (by repeat (first | assumption | exact Grew.refl _ | apply Grew.drew | apply Grew.drewN | apply Grew.alloc | apply Grew.more))).mono ?_; rintro e w' ⟨rfl, os, n, rfl⟩)))
    all_goals go_wp2_with fail
    all_goals go_ret
    all_goals exact ⟨rfl, by repeat (first | assumption | exact Grew.refl _ | apply Grew.drew | apply Grew.drewN | apply Grew.alloc | apply Grew.more)⟩
  · as_aux_lemma =>
    clear E1 Nr Oa
    by_cases h33 : de = 33
    · subst h33
      have e0 := E2 rfl
      clear E2
      subst e0
      go_wp2_with (first
        | (go_at_call 18; refine (Nm _ _).mono ?_; rintro e w' ⟨rfl, rfl⟩)
        | (go_at_call 9; refine (Ob _ (by repeat (first | assumption | exact Grew.refl _ | apply Grew.drew | apply Grew.drewN | apply Grew.alloc | apply Grew.more))).mono ?_; rintro e w' ⟨rfl, os, n, rfl⟩)
        | (go_at_call 26; refine (Nq _ (by repeat (first | assumption | exact Grew.refl _ | apply Grew.drew | apply Grew.drewN | apply Grew.alloc | apply Grew.more))).mono ?_; rintro e w' ⟨rfl, os, n, rfl⟩))
      all_goals go_ret
      all_goals exact ⟨rfl, by repeat (first | assumption | exact Grew.refl _ | apply Grew.drew | apply Grew.drewN | apply Grew.alloc | apply Grew.more)⟩
    · clear E2
      go_wp2_with (go_at_call 18; refine (Nm _ _).mono ?_; rintro e w' ⟨rfl, rfl⟩)
      all_goals go_ret
      all_goals exact ⟨rfl, by repeat (first | assumption | exact Grew.refl _ | apply Grew.drew | apply Grew.drewN | apply Grew.alloc | apply Grew.more)⟩
end Go.Proofs.Ytidknbdckdinlaa
