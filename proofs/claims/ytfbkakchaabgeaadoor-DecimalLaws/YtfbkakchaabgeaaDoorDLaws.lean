/-
  The walk of DecimalLaws over what its callees give.
-/
import Derived.Test.YtfbkakchaabgeaaDoorDGives
import Derived.Deep.Cut
import Derived.Deep.RegionHeld
import Derived.Deep.RegionWith
namespace Go.Proofs.YtfbkakchaabgeaaDoor
attribute [local go_sem] cell?_more frozen?_more setCell_more more_lt more_more more_drew more_drewN setCell_drewN alloc_drewN

set_option maxRecDepth 5000 in
set_option maxHeartbeats 4000000 in
theorem laws_core (ua sa ub sb pu ps pe du ds ie ru rs re : Int) (w : World)
    (Oa : Gives 10 #[dv ua sa] w (dv ua sa)) (Ob : Gives 10 #[dv ub sb] w (dv ub sb))
    (Nm : ∀ (n : Int) (W : World), Calls Tryd.prog 36 #[.int .i64 n] W fun e w' => e = .returned (.int .i64 n) ∧ W = w')
    (K : Gives 21 #[] w (.bool true))
    (A : Gives 9 #[dv ua sa, dv ub sb] w (.tuple #[dv pu ps, .int .i64 pe])) (A2 : Gives 9 #[dv ub sb, dv ua sa] w (.tuple #[dv pu ps, .int .i64 pe]))
    (S : pe = 0 → Gives 12 #[dv pu ps, dv ub sb] w (.tuple #[dv du ds, .int .i64 ie])) (C : pe = 0 → ie = 0 → Gives 17 #[dv du ds, dv ua sa] w (.int .i64 0))
    (M : Gives 22 #[dv ua sa, dv ub sb] w (.tuple #[dv ru rs, .int .i64 re])) (M2 : Gives 22 #[dv ub sb, dv ua sa] w (.tuple #[dv ru rs, .int .i64 re]))
    (hw : re = 0 → IntKind.i64.wrap (sa + sb) = sa + sb)
    (D : re = 0 → ¬ ub = 0 → sa + sb ≤ 6 → Gives 24 #[dv ru rs, dv ub sb, .int .i64 sa] w (.tuple #[dv ua sa, .int .i64 0])) :
    Calls Tryd.prog 7 #[dv ua sa, dv ub sb] w fun e w' => e = .returned (.bool true) ∧ Grew w w' := by
  go_enter Tryd.func7, Tryd.ntmps7
  go_upto_region 1 with fail
  have ha : Two ((w.alloc (Obj.cells #[Value.int IntKind.i64 ua, Value.int IntKind.i64 sa] 23)).alloc (Obj.cells #[Value.int IntKind.i64 ub, Value.int IntKind.i64 sb] 23)) w.heap.size ua sa := ⟨by simp [go_sem], by simp [go_sem]⟩
  have hb : Two ((w.alloc (Obj.cells #[Value.int IntKind.i64 ua, Value.int IntKind.i64 sa] 23)).alloc (Obj.cells #[Value.int IntKind.i64 ub, Value.int IntKind.i64 sb] 23)) (w.heap.size + 1) ub sb := ⟨by simp [go_sem], by simp [go_sem]⟩
  have g : Grew w ((w.alloc (Obj.cells #[Value.int IntKind.i64 ua, Value.int IntKind.i64 sa] 23)).alloc (Obj.cells #[Value.int IntKind.i64 ub, Value.int IntKind.i64 sb] 23)) := ((Grew.refl w).alloc _).alloc _
  generalize (w.alloc (Obj.cells #[Value.int IntKind.i64 ua, Value.int IntKind.i64 sa] 23)).alloc (Obj.cells #[Value.int IntKind.i64 ub, Value.int IntKind.i64 sb] 23) = w0 at *
  obtain ⟨c1, c2⟩ := id ha
  obtain ⟨c3, c4⟩ := id hb
  have l1 := ha.lt
  have l2 := hb.lt
  go_upto_region 1 with fail
  go_cut [5, 6] from 17 (fun sx sy wx => ∃ p : Nat, sx = .pointer (some ⟨p, 0, none⟩) ∧ sy = .int .i64 pe ∧ Two wx p pu ps ∧ Grew w0 wx)
  case first =>
    clear Nm K A2 S C M M2 D hw
    go_region_held (fun W => W.cell? ⟨w.heap.size, 0, none⟩ = some (.int .i64 ua) ∧ W.cell? ⟨w.heap.size, 1, none⟩ = some (.int .i64 sa) ∧ W.cell? ⟨w.heap.size + 1, 0, none⟩ = some (.int .i64 ub) ∧ W.cell? ⟨w.heap.size + 1, 1, none⟩ = some (.int .i64 sb)) (simp (maxDischargeDepth := 12) [go_sem, c1, c2, c3, c4, l1, l2])
      ((first
        | (go_at_call_of 10 (Value.int IntKind.i64 ua); refine (Oa _ (by repeat (first | assumption | exact Grew.refl _ | apply Grew.drew | apply Grew.drewN | apply Grew.alloc | apply Grew.more))).mono ?_; rintro e w' ⟨rfl, os, n, rfl⟩)
        | (go_at_call 10; refine (Ob _ (by repeat (first | assumption | exact Grew.refl _ | apply Grew.drew | apply Grew.drewN | apply Grew.alloc | apply Grew.more))).mono ?_; rintro e w' ⟨rfl, os, n, rfl⟩)
        | (go_at_call 9; refine (A _ (by repeat (first | assumption | exact Grew.refl _ | apply Grew.drew | apply Grew.drewN | apply Grew.alloc | apply Grew.more))).mono ?_; rintro e w' ⟨rfl, os, n, rfl⟩)))
    all_goals go_wp2_with fail
    all_goals go_meet
    all_goals exact ⟨_, rfl, rfl, ⟨by simp (maxDischargeDepth := 12) [go_sem], by simp (maxDischargeDepth := 12) [go_sem]⟩, by repeat (first | assumption | exact Grew.refl _ | apply Grew.drew | apply Grew.drewN | apply Grew.alloc | apply Grew.more)⟩
  rename World => w1
  obtain ⟨p, rfl, rfl, hp, g'⟩ := hcut
  replace ha := ha.later g'
  replace hb := hb.later g'

  replace g := g.trans g'
  clear g' c1 c2 c3 c4 l1 l2
  obtain ⟨c1, c2⟩ := id ha
  obtain ⟨c3, c4⟩ := id hb
  have l1 := ha.lt
  have l2 := hb.lt
  go_upto_region 2 with fail
  go_cut [7, 8] from 17 (fun sx sy wx => ∃ p : Nat, sx = .pointer (some ⟨p, 0, none⟩) ∧ sy = .int .i64 pe ∧ Two wx p pu ps ∧ Grew w1 wx)
  case first =>
    clear Nm K A S C M M2 D hw
    go_region_held (fun W => W.cell? ⟨w.heap.size, 0, none⟩ = some (.int .i64 ua) ∧ W.cell? ⟨w.heap.size, 1, none⟩ = some (.int .i64 sa) ∧ W.cell? ⟨w.heap.size + 1, 0, none⟩ = some (.int .i64 ub) ∧ W.cell? ⟨w.heap.size + 1, 1, none⟩ = some (.int .i64 sb)) (simp (maxDischargeDepth := 12) [go_sem, c1, c2, c3, c4, l1, l2])
      ((first
        | (go_at_call_of 10 (Value.int IntKind.i64 ua); refine (Oa _ (by repeat (first | assumption | exact Grew.refl _ | apply Grew.drew | apply Grew.drewN | apply Grew.alloc | apply Grew.more))).mono ?_; rintro e w' ⟨rfl, os, n, rfl⟩)
        | (go_at_call 10; refine (Ob _ (by repeat (first | assumption | exact Grew.refl _ | apply Grew.drew | apply Grew.drewN | apply Grew.alloc | apply Grew.more))).mono ?_; rintro e w' ⟨rfl, os, n, rfl⟩)
        | (go_at_call 9; refine (A2 _ (by repeat (first | assumption | exact Grew.refl _ | apply Grew.drew | apply Grew.drewN | apply Grew.alloc | apply Grew.more))).mono ?_; rintro e w' ⟨rfl, os, n, rfl⟩)))
    all_goals go_wp2_with fail
    all_goals go_meet
    all_goals exact ⟨_, rfl, rfl, ⟨by simp (maxDischargeDepth := 12) [go_sem], by simp (maxDischargeDepth := 12) [go_sem]⟩, by repeat (first | assumption | exact Grew.refl _ | apply Grew.drew | apply Grew.drewN | apply Grew.alloc | apply Grew.more)⟩
  rename World => w2
  obtain ⟨q, rfl, rfl, hq, g'⟩ := hcut
  replace ha := ha.later g'
  replace hb := hb.later g'
  replace hp := hp.later g'
  replace g := g.trans g'
  clear g' c1 c2 c3 c4 l1 l2
  obtain ⟨c1, c2⟩ := id ha
  obtain ⟨c3, c4⟩ := id hb
  have l1 := ha.lt
  have l2 := hb.lt
  go_upto_region 3 with fail
  go_cut [9, 10] from 17 (fun sx sy wx => ∃ p : Nat, sx = .pointer (some ⟨p, 0, none⟩) ∧ sy = .int .i64 re ∧ Two wx p ru rs ∧ Grew w2 wx)
  case first =>
    clear Nm K A A2 S C M2 D hw
    go_region_held (fun W => W.cell? ⟨w.heap.size, 0, none⟩ = some (.int .i64 ua) ∧ W.cell? ⟨w.heap.size, 1, none⟩ = some (.int .i64 sa) ∧ W.cell? ⟨w.heap.size + 1, 0, none⟩ = some (.int .i64 ub) ∧ W.cell? ⟨w.heap.size + 1, 1, none⟩ = some (.int .i64 sb)) (simp (maxDischargeDepth := 12) [go_sem, c1, c2, c3, c4, l1, l2])
      ((first
        | (go_at_call_of 10 (Value.int IntKind.i64 ua); refine (Oa _ (by repeat (first | assumption | exact Grew.refl _ | apply Grew.drew | apply Grew.drewN | apply Grew.alloc | apply Grew.more))).mono ?_; rintro e w' ⟨rfl, os, n, rfl⟩)
        | (go_at_call 10; refine (Ob _ (by repeat (first | assumption | exact Grew.refl _ | apply Grew.drew | apply Grew.drewN | apply Grew.alloc | apply Grew.more))).mono ?_; rintro e w' ⟨rfl, os, n, rfl⟩)
        | (go_at_call 22; refine (M _ (by repeat (first | assumption | exact Grew.refl _ | apply Grew.drew | apply Grew.drewN | apply Grew.alloc | apply Grew.more))).mono ?_; rintro e w' ⟨rfl, os, n, rfl⟩)))
    all_goals go_wp2_with fail
    all_goals go_meet
    all_goals exact ⟨_, rfl, rfl, ⟨by simp (maxDischargeDepth := 12) [go_sem], by simp (maxDischargeDepth := 12) [go_sem]⟩, by repeat (first | assumption | exact Grew.refl _ | apply Grew.drew | apply Grew.drewN | apply Grew.alloc | apply Grew.more)⟩
  rename World => w3
  obtain ⟨r, rfl, rfl, hr, g'⟩ := hcut
  replace ha := ha.later g'
  replace hb := hb.later g'
  replace hp := hp.later g'
  replace hq := hq.later g'
  replace g := g.trans g'
  clear g' c1 c2 c3 c4 l1 l2
  obtain ⟨c1, c2⟩ := id ha
  obtain ⟨c3, c4⟩ := id hb
  have l1 := ha.lt
  have l2 := hb.lt
  go_upto_region 4 with fail
  go_cut [11, 12] from 17 (fun sx sy wx => ∃ p : Nat, sx = .pointer (some ⟨p, 0, none⟩) ∧ sy = .int .i64 re ∧ Two wx p ru rs ∧ Grew w3 wx)
  case first =>
    clear Nm K A A2 S C M D hw
    go_region_held (fun W => W.cell? ⟨w.heap.size, 0, none⟩ = some (.int .i64 ua) ∧ W.cell? ⟨w.heap.size, 1, none⟩ = some (.int .i64 sa) ∧ W.cell? ⟨w.heap.size + 1, 0, none⟩ = some (.int .i64 ub) ∧ W.cell? ⟨w.heap.size + 1, 1, none⟩ = some (.int .i64 sb)) (simp (maxDischargeDepth := 12) [go_sem, c1, c2, c3, c4, l1, l2])
      ((first
        | (go_at_call_of 10 (Value.int IntKind.i64 ua); refine (Oa _ (by repeat (first | assumption | exact Grew.refl _ | apply Grew.drew | apply Grew.drewN | apply Grew.alloc | apply Grew.more))).mono ?_; rintro e w' ⟨rfl, os, n, rfl⟩)
        | (go_at_call 10; refine (Ob _ (by repeat (first | assumption | exact Grew.refl _ | apply Grew.drew | apply Grew.drewN | apply Grew.alloc | apply Grew.more))).mono ?_; rintro e w' ⟨rfl, os, n, rfl⟩)
        | (go_at_call 22; refine (M2 _ (by repeat (first | assumption | exact Grew.refl _ | apply Grew.drew | apply Grew.drewN | apply Grew.alloc | apply Grew.more))).mono ?_; rintro e w' ⟨rfl, os, n, rfl⟩)))
    all_goals go_wp2_with fail
    all_goals go_meet
    all_goals exact ⟨_, rfl, rfl, ⟨by simp (maxDischargeDepth := 12) [go_sem], by simp (maxDischargeDepth := 12) [go_sem]⟩, by repeat (first | assumption | exact Grew.refl _ | apply Grew.drew | apply Grew.drewN | apply Grew.alloc | apply Grew.more)⟩
  rename World => w4
  obtain ⟨s, rfl, rfl, hs, g'⟩ := hcut
  replace ha := ha.later g'
  replace hb := hb.later g'
  replace hp := hp.later g'
  replace hq := hq.later g'
  replace hr := hr.later g'
  replace g := g.trans g'
  clear g' c1 c2 c3 c4 l1 l2
  obtain ⟨c1, c2⟩ := id ha
  obtain ⟨c3, c4⟩ := id hb
  have l1 := ha.lt
  have l2 := hb.lt
  obtain ⟨d1, d2⟩ := id hp
  obtain ⟨d3, d4⟩ := id hq
  obtain ⟨d5, d6⟩ := id hr
  obtain ⟨d7, d8⟩ := id hs
  go_upto_region 7 with ((go_at_call 21; refine (K _ (by repeat (first | assumption | exact Grew.refl _ | apply Grew.drew | apply Grew.drewN | apply Grew.alloc | apply Grew.more))).mono ?_; rintro e w' ⟨rfl, os, n, rfl⟩))
  have g' : Grew w4 ((more w4 os).drewN n) := ⟨os, n, rfl⟩
  generalize (more w4 os).drewN n = w5 at *
  replace ha := ha.later g'
  replace hb := hb.later g'
  replace hp := hp.later g'
  replace hr := hr.later g'
  replace g := g.trans g'
  clear g' c1 c2 c3 c4 l1 l2 d1 d2 d3 d4 d5 d6 d7 d8 hq hs A A2 M M2 K
  go_upto_if 73 with (go_at_call 36; refine (Nm _ _).mono ?_; rintro e w' ⟨rfl, rfl⟩)
  go_cut [6, 8] from 17 (fun _ _ wx => Grew w5 wx)
  case first =>
    clear D hw hr
    by_cases hpe : pe = 0
    · subst hpe
      replace S := S rfl
      replace C := C rfl
      obtain ⟨c3, c4⟩ := id hb
      obtain ⟨d1, d2⟩ := id hp
      have l1 := ha.lt
      have l2 := hb.lt
      have l3 := hp.lt
      go_upto_region 8 with fail
      go_cut [13, 14] from 17 (fun sx sy wx => ∃ p : Nat, sx = .pointer (some ⟨p, 0, none⟩) ∧ sy = .int .i64 ie ∧ Two wx p du ds ∧ Grew w5 wx)
      case first =>
        clear C
        go_region_held (fun W => W.cell? ⟨w.heap.size + 1, 0, none⟩ = some (.int .i64 ub) ∧ W.cell? ⟨w.heap.size + 1, 1, none⟩ = some (.int .i64 sb) ∧ W.cell? ⟨p, 0, none⟩ = some (.int .i64 pu) ∧ W.cell? ⟨p, 1, none⟩ = some (.int .i64 ps)) (simp (maxDischargeDepth := 12) [go_sem, c3, c4, d1, d2, l1, l2, l3])
          ((first
            | (go_at_call 10; refine (Ob _ (by repeat (first | assumption | exact Grew.refl _ | apply Grew.drew | apply Grew.drewN | apply Grew.alloc | apply Grew.more))).mono ?_; rintro e w' ⟨rfl, os, n, rfl⟩)
            | (go_at_call 12; refine (S _ (by repeat (first | assumption | exact Grew.refl _ | apply Grew.drew | apply Grew.drewN | apply Grew.alloc | apply Grew.more))).mono ?_; rintro e w' ⟨rfl, os, n, rfl⟩)))
        all_goals go_wp2_with fail
        all_goals go_meet
        all_goals exact ⟨_, rfl, rfl, ⟨by simp (maxDischargeDepth := 12) [go_sem], by simp (maxDischargeDepth := 12) [go_sem]⟩, by repeat (first | assumption | exact Grew.refl _ | apply Grew.drew | apply Grew.drewN | apply Grew.alloc | apply Grew.more)⟩
      rename World => w6
      obtain ⟨d, rfl, rfl, hd, g'⟩ := hcut
      replace ha := ha.later g'
      replace g := g.trans g'
      clear S c3 c4 d1 d2 l1 l2 l3 hp hb Ob
      obtain ⟨c1, c2⟩ := id ha
      obtain ⟨d1, d2⟩ := id hd
      have l1 := ha.lt
      have l3 := hd.lt
      by_cases hie : ie = 0
      · subst hie
        replace C := C rfl
        go_upto_region 9 with fail
        go_region_held (fun W => W.cell? ⟨w.heap.size, 0, none⟩ = some (.int .i64 ua) ∧ W.cell? ⟨w.heap.size, 1, none⟩ = some (.int .i64 sa) ∧ W.cell? ⟨d, 0, none⟩ = some (.int .i64 du) ∧ W.cell? ⟨d, 1, none⟩ = some (.int .i64 ds)) (simp (maxDischargeDepth := 12) [go_sem, c1, c2, d1, d2, l1, l3])
          ((first
            | (go_at_call 10; refine (Oa _ (by repeat (first | assumption | exact Grew.refl _ | apply Grew.drew | apply Grew.drewN | apply Grew.alloc | apply Grew.more))).mono ?_; rintro e w' ⟨rfl, os, n, rfl⟩)
            | (go_at_call 36; refine (Nm _ _).mono ?_; rintro e w' ⟨rfl, rfl⟩)
            | (go_at_call 17; refine (C _ (by repeat (first | assumption | exact Grew.refl _ | apply Grew.drew | apply Grew.drewN | apply Grew.alloc | apply Grew.more))).mono ?_; rintro e w' ⟨rfl, os, n, rfl⟩)))
        all_goals go_wp2_with fail
        all_goals go_meet
        all_goals exact g'.trans (by repeat (first | assumption | exact Grew.refl _ | apply Grew.drew | apply Grew.drewN | apply Grew.alloc | apply Grew.more))
      · have hib : (ie == 0) = false := by simp [hie]
        go_upto_region 9 with fail
        go_region_with ((go_at_call 36; refine (Nm _ _).mono ?_; rintro e w' ⟨rfl, rfl⟩))
        all_goals go_wp2_with fail
        all_goals go_meet
        all_goals exact g'.trans (by repeat (first | assumption | exact Grew.refl _ | apply Grew.drew | apply Grew.drewN | apply Grew.alloc | apply Grew.more))
    · have hpb : (pe == 0) = false := by simp [hpe]
      go_wp2_with fail
      go_meet
      exact Grew.refl _
  rename World => w6
  replace g := g.trans hcut
  replace ha := ha.later hcut
  replace hb := hb.later hcut
  replace hr := hr.later hcut
  clear hcut hp S C
  obtain ⟨c1, c2⟩ := id ha
  obtain ⟨c3, c4⟩ := id hb
  obtain ⟨d1, d2⟩ := id hr
  have l1 := ha.lt
  have l2 := hb.lt
  have l3 := hr.lt
  by_cases hre : re = 0
  · subst hre
    replace hw := hw rfl
    by_cases hub : ub = 0
    · have hbb : (ub == 0) = true := by simp [hub]
      clear D
      go_wp2_with (go_at_call 36; refine (Nm _ _).mono ?_; rintro e w' ⟨rfl, rfl⟩)
      all_goals go_ret
      all_goals exact ⟨rfl, by repeat (first | assumption | exact Grew.refl _ | apply Grew.drew | apply Grew.drewN | apply Grew.alloc | apply Grew.more)⟩
    · have hbb : (ub == 0) = false := by simp [hub]
      by_cases hss : sa + sb ≤ 6
      · replace D := D rfl hub hss
        go_upto_region 12 with (go_at_call 36; refine (Nm _ _).mono ?_; rintro e w' ⟨rfl, rfl⟩)
        go_cut [15, 16] from 17 (fun sx sy wx => ∃ p : Nat, sx = .pointer (some ⟨p, 0, none⟩) ∧ sy = .int .i64 0 ∧ Two wx p ua sa ∧ Grew w6 wx)
        case first =>
          go_region_held (fun W => W.cell? ⟨w.heap.size, 0, none⟩ = some (.int .i64 ua) ∧ W.cell? ⟨w.heap.size, 1, none⟩ = some (.int .i64 sa) ∧ W.cell? ⟨w.heap.size + 1, 0, none⟩ = some (.int .i64 ub) ∧ W.cell? ⟨w.heap.size + 1, 1, none⟩ = some (.int .i64 sb) ∧ W.cell? ⟨r, 0, none⟩ = some (.int .i64 ru) ∧ W.cell? ⟨r, 1, none⟩ = some (.int .i64 rs)) (simp (maxDischargeDepth := 12) [go_sem, c1, c2, c3, c4, d1, d2, l1, l2, l3])
            ((first
              | (go_at_call 10; refine (Ob _ (by repeat (first | assumption | exact Grew.refl _ | apply Grew.drew | apply Grew.drewN | apply Grew.alloc | apply Grew.more))).mono ?_; rintro e w' ⟨rfl, os, n, rfl⟩)
              | (go_at_call 24; refine (D _ (by repeat (first | assumption | exact Grew.refl _ | apply Grew.drew | apply Grew.drewN | apply Grew.alloc | apply Grew.more))).mono ?_; rintro e w' ⟨rfl, os, n, rfl⟩)))
          all_goals go_wp2_with fail
          all_goals go_meet
          all_goals exact ⟨_, rfl, rfl, ⟨by simp (maxDischargeDepth := 12) [go_sem], by simp (maxDischargeDepth := 12) [go_sem]⟩, by repeat (first | assumption | exact Grew.refl _ | apply Grew.drew | apply Grew.drewN | apply Grew.alloc | apply Grew.more)⟩
        rename World => w7
        obtain ⟨d, rfl, rfl, hd, g'⟩ := hcut
        replace ha := ha.later g'
        replace g := g.trans g'
        clear D hr hb c1 c2 c3 c4 d1 d2 l1 l2 l3 g' Ob
        obtain ⟨c1, c2⟩ := id ha
        obtain ⟨d1, d2⟩ := id hd
        have l1 := ha.lt
        have l3 := hd.lt
        go_upto_region 13 with fail
        go_region_held (fun W => W.cell? ⟨w.heap.size, 0, none⟩ = some (.int .i64 ua) ∧ W.cell? ⟨w.heap.size, 1, none⟩ = some (.int .i64 sa) ∧ W.cell? ⟨d, 0, none⟩ = some (.int .i64 ua) ∧ W.cell? ⟨d, 1, none⟩ = some (.int .i64 sa)) (simp (maxDischargeDepth := 12) [go_sem, c1, c2, d1, d2, l1, l3])
          ((first
            | (go_at_call 10; refine (Oa _ (by repeat (first | assumption | exact Grew.refl _ | apply Grew.drew | apply Grew.drewN | apply Grew.alloc | apply Grew.more))).mono ?_; rintro e w' ⟨rfl, os, n, rfl⟩)
            | (go_at_call 36; refine (Nm _ _).mono ?_; rintro e w' ⟨rfl, rfl⟩)))
        all_goals go_wp2_with fail
        all_goals go_ret
        all_goals exact ⟨rfl, by repeat (first | assumption | exact Grew.refl _ | apply Grew.drew | apply Grew.drewN | apply Grew.alloc | apply Grew.more)⟩
      · clear D
        go_wp2_with (go_at_call 36; refine (Nm _ _).mono ?_; rintro e w' ⟨rfl, rfl⟩)
        all_goals go_ret
        all_goals exact ⟨rfl, by repeat (first | assumption | exact Grew.refl _ | apply Grew.drew | apply Grew.drewN | apply Grew.alloc | apply Grew.more)⟩
  · have hrb : (re == 0) = false := by simp [hre]
    clear D hw
    go_wp2_with (go_at_call 36; refine (Nm _ _).mono ?_; rintro e w' ⟨rfl, rfl⟩)
    all_goals go_ret
    all_goals exact ⟨rfl, by repeat (first | assumption | exact Grew.refl _ | apply Grew.drew | apply Grew.drewN | apply Grew.alloc | apply Grew.more)⟩
end Go.Proofs.YtfbkakchaabgeaaDoor
