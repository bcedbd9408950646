/-
  The walk of DecimalSums over what its callees give.
-/
import Derived.Test.YtfbkakchaabgeaaDoorDGives
import Derived.Deep.Cut
import Derived.Deep.RegionHeld2
namespace Go.Proofs.YtfbkakchaabgeaaDoor
attribute [local go_sem] cell?_more frozen?_more setCell_more more_lt more_more more_drew more_drewN setCell_drewN alloc_drewN

set_option maxRecDepth 10000 in
set_option maxHeartbeats 8000000 in
theorem sums_core (ua sa ub sb pu ps pe du ds de nu ns ne cc : Int) (xx : Bool) (w : World)
    (Oa : Gives 10 #[dv ua sa] w (dv ua sa)) (Ob : Gives 10 #[dv ub sb] w (dv ub sb))
    (K : Gives 21 #[] w (.bool true))
    (Ag : ∀ (u s e : Int) (W : World), Calls Tryd.prog 16 #[dv u s, .int .i64 e, dv u s, .int .i64 e] W fun x w' => x = .returned (.bool true) ∧ Grew W w')
    (A1 : Gives 9 #[dv ua sa, dv ub sb] w (.tuple #[dv pu ps, .int .i64 pe])) (A2 : Gives 11 #[dv ua sa, dv ub sb] w (.tuple #[dv pu ps, .int .i64 pe]))
    (S1 : Gives 12 #[dv ua sa, dv ub sb] w (.tuple #[dv du ds, .int .i64 de])) (S2 : Gives 13 #[dv ua sa, dv ub sb] w (.tuple #[dv du ds, .int .i64 de]))
    (N1 : Gives 14 #[dv ua sa] w (.tuple #[dv nu ns, .int .i64 ne])) (N2 : Gives 15 #[dv ua sa] w (.tuple #[dv nu ns, .int .i64 ne]))
    (C1 : Gives 17 #[dv ua sa, dv ub sb] w (.int .i64 cc)) (C2 : Gives 18 #[dv ua sa, dv ub sb] w (.int .i64 cc))
    (R1 : Gives 19 #[dv ua sa] w (.bool xx)) (R2 : Gives 20 #[dv ua sa] w (.bool xx)) :
    Calls Tryd.prog 3 #[dv ua sa, dv ub sb] w fun e w' => e = .returned (.bool true) ∧ Grew w w' := by
  go_enter Tryd.func3, Tryd.ntmps3
  go_upto_region 1 with fail
  have ha : Two ((w.alloc (Obj.cells #[Value.int IntKind.i64 ua, Value.int IntKind.i64 sa] 23)).alloc (Obj.cells #[Value.int IntKind.i64 ub, Value.int IntKind.i64 sb] 23)) w.heap.size ua sa := ⟨by simp [go_sem], by simp [go_sem]⟩
  have hb : Two ((w.alloc (Obj.cells #[Value.int IntKind.i64 ua, Value.int IntKind.i64 sa] 23)).alloc (Obj.cells #[Value.int IntKind.i64 ub, Value.int IntKind.i64 sb] 23)) (w.heap.size + 1) ub sb := ⟨by simp [go_sem], by simp [go_sem]⟩
  have g : Grew w ((w.alloc (Obj.cells #[Value.int IntKind.i64 ua, Value.int IntKind.i64 sa] 23)).alloc (Obj.cells #[Value.int IntKind.i64 ub, Value.int IntKind.i64 sb] 23)) := ((Grew.refl w).alloc _).alloc _
  generalize (w.alloc (Obj.cells #[Value.int IntKind.i64 ua, Value.int IntKind.i64 sa] 23)).alloc (Obj.cells #[Value.int IntKind.i64 ub, Value.int IntKind.i64 sb] 23) = w0 at *
  obtain ⟨c1, c2⟩ := id ha
  obtain ⟨c3, c4⟩ := id hb
  have l1 := ha.lt
  have l2 := hb.lt
  go_upto_region 1 with fail
  go_cut [5, 6] from 17 (fun sx sy wx => ∃ p : Nat, sx = .pointer (some ⟨p, 0, none⟩) ∧ sy = .int .i64 pe ∧ Two wx p pu ps ∧ Grew w0 wx)
  case first =>
    clear K A2 S1 S2 N1 N2 C1 C2 R1 R2 Ag
    go_region_held2 (fun W => W.cell? ⟨w.heap.size, 0, none⟩ = some (.int .i64 ua) ∧ W.cell? ⟨w.heap.size, 1, none⟩ = some (.int .i64 sa) ∧ W.cell? ⟨w.heap.size + 1, 0, none⟩ = some (.int .i64 ub) ∧ W.cell? ⟨w.heap.size + 1, 1, none⟩ = some (.int .i64 sb)) (simp (maxDischargeDepth := 12) [go_sem, c1, c2, c3, c4, l1, l2])
      ((first
        | (go_at_call_of 10 (Value.int IntKind.i64 ua); refine (Oa _ (by repeat (first | assumption | exact Grew.refl _ | apply Grew.drew | apply Grew.drewN | apply Grew.alloc | apply Grew.more))).mono ?_; rintro e w' ⟨rfl, os, n, rfl⟩)
        | (go_at_call_of 10 (Value.int IntKind.i64 ub); refine (Ob _ (by repeat (first | assumption | exact Grew.refl _ | apply Grew.drew | apply Grew.drewN | apply Grew.alloc | apply Grew.more))).mono ?_; rintro e w' ⟨rfl, os, n, rfl⟩)
        | (go_at_call 9; refine (A1 _ (by repeat (first | assumption | exact Grew.refl _ | apply Grew.drew | apply Grew.drewN | apply Grew.alloc | apply Grew.more))).mono ?_; rintro e w' ⟨rfl, os, n, rfl⟩)))
    all_goals go_wp2_with fail
    all_goals go_meet
    all_goals exact ⟨_, rfl, rfl, ⟨by simp (maxDischargeDepth := 12) [go_sem], by simp (maxDischargeDepth := 12) [go_sem]⟩, by repeat (first | assumption | exact Grew.refl _ | apply Grew.drew | apply Grew.drewN | apply Grew.alloc | apply Grew.more)⟩
  rename World => w1
  obtain ⟨p, rfl, rfl, hp, g'⟩ := hcut
  replace ha := ha.later g'
  replace hb := hb.later g'
  replace g := g.trans g'
  clear g' c1 c2 c3 c4 l1 l2
  obtain ⟨c1, c2⟩ := id ha
  obtain ⟨c3, c4⟩ := id hb
  have l1 := ha.lt
  have l2 := hb.lt
  go_upto_region 2 with fail
  go_cut [7, 8] from 17 (fun sx sy wx => ∃ p : Nat, sx = .pointer (some ⟨p, 0, none⟩) ∧ sy = .int .i64 pe ∧ Two wx p pu ps ∧ Grew w1 wx)
  case first =>
    clear K A1 S1 S2 N1 N2 C1 C2 R1 R2 Ag Oa Ob
    go_wp2_with (first
        | (go_at_call 11; refine (A2 _ (by repeat (first | assumption | exact Grew.refl _ | apply Grew.drew | apply Grew.drewN | apply Grew.alloc | apply Grew.more))).mono ?_; rintro e w' ⟨rfl, os, n, rfl⟩))
    all_goals go_meet
    all_goals exact ⟨_, rfl, rfl, ⟨by simp (maxDischargeDepth := 12) [go_sem], by simp (maxDischargeDepth := 12) [go_sem]⟩, by repeat (first | assumption | exact Grew.refl _ | apply Grew.drew | apply Grew.drewN | apply Grew.alloc | apply Grew.more)⟩
  rename World => w2
  obtain ⟨q, rfl, rfl, hq, g'⟩ := hcut
  replace ha := ha.later g'
  replace hb := hb.later g'
  replace hp := hp.later g'
  replace g := g.trans g'
  clear g' c1 c2 c3 c4 l1 l2
  obtain ⟨c1, c2⟩ := id ha
  obtain ⟨c3, c4⟩ := id hb
  have l1 := ha.lt
  have l2 := hb.lt
  go_upto_region 3 with fail
  go_cut [9, 10] from 17 (fun sx sy wx => ∃ p : Nat, sx = .pointer (some ⟨p, 0, none⟩) ∧ sy = .int .i64 de ∧ Two wx p du ds ∧ Grew w2 wx)
  case first =>
    clear K A1 A2 S2 N1 N2 C1 C2 R1 R2 Ag
    go_region_held2 (fun W => W.cell? ⟨w.heap.size, 0, none⟩ = some (.int .i64 ua) ∧ W.cell? ⟨w.heap.size, 1, none⟩ = some (.int .i64 sa) ∧ W.cell? ⟨w.heap.size + 1, 0, none⟩ = some (.int .i64 ub) ∧ W.cell? ⟨w.heap.size + 1, 1, none⟩ = some (.int .i64 sb)) (simp (maxDischargeDepth := 12) [go_sem, c1, c2, c3, c4, l1, l2])
      ((first
        | (go_at_call_of 10 (Value.int IntKind.i64 ua); refine (Oa _ (by repeat (first | assumption | exact Grew.refl _ | apply Grew.drew | apply Grew.drewN | apply Grew.alloc | apply Grew.more))).mono ?_; rintro e w' ⟨rfl, os, n, rfl⟩)
        | (go_at_call_of 10 (Value.int IntKind.i64 ub); refine (Ob _ (by repeat (first | assumption | exact Grew.refl _ | apply Grew.drew | apply Grew.drewN | apply Grew.alloc | apply Grew.more))).mono ?_; rintro e w' ⟨rfl, os, n, rfl⟩)
        | (go_at_call 12; refine (S1 _ (by repeat (first | assumption | exact Grew.refl _ | apply Grew.drew | apply Grew.drewN | apply Grew.alloc | apply Grew.more))).mono ?_; rintro e w' ⟨rfl, os, n, rfl⟩)))
    all_goals go_wp2_with fail
    all_goals go_meet
    all_goals exact ⟨_, rfl, rfl, ⟨by simp (maxDischargeDepth := 12) [go_sem], by simp (maxDischargeDepth := 12) [go_sem]⟩, by repeat (first | assumption | exact Grew.refl _ | apply Grew.drew | apply Grew.drewN | apply Grew.alloc | apply Grew.more)⟩
  rename World => w3
  obtain ⟨r, rfl, rfl, hr, g'⟩ := hcut
  replace ha := ha.later g'
  replace hb := hb.later g'
  replace hp := hp.later g'
  replace hq := hq.later g'
  replace g := g.trans g'
  clear g' c1 c2 c3 c4 l1 l2
  obtain ⟨c1, c2⟩ := id ha
  obtain ⟨c3, c4⟩ := id hb
  have l1 := ha.lt
  have l2 := hb.lt
  go_upto_region 4 with fail
  go_cut [11, 12] from 17 (fun sx sy wx => ∃ p : Nat, sx = .pointer (some ⟨p, 0, none⟩) ∧ sy = .int .i64 de ∧ Two wx p du ds ∧ Grew w3 wx)
  case first =>
    clear K A1 A2 S1 N1 N2 C1 C2 R1 R2 Ag Oa Ob
    go_wp2_with (first
        | (go_at_call 13; refine (S2 _ (by repeat (first | assumption | exact Grew.refl _ | apply Grew.drew | apply Grew.drewN | apply Grew.alloc | apply Grew.more))).mono ?_; rintro e w' ⟨rfl, os, n, rfl⟩))
    all_goals go_meet
    all_goals exact ⟨_, rfl, rfl, ⟨by simp (maxDischargeDepth := 12) [go_sem], by simp (maxDischargeDepth := 12) [go_sem]⟩, by repeat (first | assumption | exact Grew.refl _ | apply Grew.drew | apply Grew.drewN | apply Grew.alloc | apply Grew.more)⟩
  rename World => w4
  obtain ⟨s, rfl, rfl, hs, g'⟩ := hcut
  replace ha := ha.later g'
  replace hb := hb.later g'
  replace hp := hp.later g'
  replace hq := hq.later g'
  replace hr := hr.later g'
  replace g := g.trans g'
  clear g' c1 c2 c3 c4 l1 l2
  obtain ⟨c1, c2⟩ := id ha
  obtain ⟨c3, c4⟩ := id hb
  have l1 := ha.lt
  have l2 := hb.lt
  go_upto_region 5 with fail
  go_cut [13, 14] from 17 (fun sx sy wx => ∃ p : Nat, sx = .pointer (some ⟨p, 0, none⟩) ∧ sy = .int .i64 ne ∧ Two wx p nu ns ∧ Grew w4 wx)
  case first =>
    clear K A1 A2 S1 S2 N2 C1 C2 R1 R2 Ag Ob
    go_wp2_with (first
        | (go_at_call_of 10 (Value.int IntKind.i64 ua); refine (Oa _ (by repeat (first | assumption | exact Grew.refl _ | apply Grew.drew | apply Grew.drewN | apply Grew.alloc | apply Grew.more))).mono ?_; rintro e w' ⟨rfl, os, n, rfl⟩)
        | (go_at_call 14; refine (N1 _ (by repeat (first | assumption | exact Grew.refl _ | apply Grew.drew | apply Grew.drewN | apply Grew.alloc | apply Grew.more))).mono ?_; rintro e w' ⟨rfl, os, n, rfl⟩))
    all_goals go_meet
    all_goals exact ⟨_, rfl, rfl, ⟨by simp (maxDischargeDepth := 12) [go_sem], by simp (maxDischargeDepth := 12) [go_sem]⟩, by repeat (first | assumption | exact Grew.refl _ | apply Grew.drew | apply Grew.drewN | apply Grew.alloc | apply Grew.more)⟩
  rename World => w5
  obtain ⟨t, rfl, rfl, ht, g'⟩ := hcut
  replace ha := ha.later g'
  replace hb := hb.later g'
  replace hp := hp.later g'
  replace hq := hq.later g'
  replace hr := hr.later g'
  replace hs := hs.later g'
  replace g := g.trans g'
  clear g' c1 c2 c3 c4 l1 l2
  obtain ⟨c1, c2⟩ := id ha
  obtain ⟨c3, c4⟩ := id hb
  have l1 := ha.lt
  have l2 := hb.lt
  go_upto_region 6 with fail
  go_cut [15, 16] from 17 (fun sx sy wx => ∃ p : Nat, sx = .pointer (some ⟨p, 0, none⟩) ∧ sy = .int .i64 ne ∧ Two wx p nu ns ∧ Grew w5 wx)
  case first =>
    clear K A1 A2 S1 S2 N1 C1 C2 R1 R2 Ag Oa Ob
    go_wp2_with (first
        | (go_at_call 15; refine (N2 _ (by repeat (first | assumption | exact Grew.refl _ | apply Grew.drew | apply Grew.drewN | apply Grew.alloc | apply Grew.more))).mono ?_; rintro e w' ⟨rfl, os, n, rfl⟩))
    all_goals go_meet
    all_goals exact ⟨_, rfl, rfl, ⟨by simp (maxDischargeDepth := 12) [go_sem], by simp (maxDischargeDepth := 12) [go_sem]⟩, by repeat (first | assumption | exact Grew.refl _ | apply Grew.drew | apply Grew.drewN | apply Grew.alloc | apply Grew.more)⟩
  rename World => w6
  obtain ⟨v, rfl, rfl, hv, g'⟩ := hcut
  replace ha := ha.later g'
  replace hb := hb.later g'
  replace hp := hp.later g'
  replace hq := hq.later g'
  replace hr := hr.later g'
  replace hs := hs.later g'
  replace ht := ht.later g'
  replace g := g.trans g'
  clear g' c1 c2 c3 c4 l1 l2
  obtain ⟨c1, c2⟩ := id ha
  obtain ⟨c3, c4⟩ := id hb
  have l1 := ha.lt
  have l2 := hb.lt
  clear A1 A2 S1 S2 N1 N2
  obtain ⟨d1, d2⟩ := id hp
  have k1 := hp.lt
  obtain ⟨d3, d4⟩ := id hq
  have k2 := hq.lt
  obtain ⟨d5, d6⟩ := id hr
  have k3 := hr.lt
  obtain ⟨d7, d8⟩ := id hs
  have k4 := hs.lt
  obtain ⟨d9, d10⟩ := id ht
  have k5 := ht.lt
  obtain ⟨d11, d12⟩ := id hv
  have k6 := hv.lt
  go_upto_region 7 with fail
  go_region_held2 (fun W => W.cell? ⟨w.heap.size, 0, none⟩ = some (.int .i64 ua) ∧ W.cell? ⟨w.heap.size, 1, none⟩ = some (.int .i64 sa) ∧ W.cell? ⟨w.heap.size + 1, 0, none⟩ = some (.int .i64 ub) ∧ W.cell? ⟨w.heap.size + 1, 1, none⟩ = some (.int .i64 sb) ∧ W.cell? ⟨p, 0, none⟩ = some (.int .i64 pu) ∧ W.cell? ⟨p, 1, none⟩ = some (.int .i64 ps) ∧ W.cell? ⟨q, 0, none⟩ = some (.int .i64 pu) ∧ W.cell? ⟨q, 1, none⟩ = some (.int .i64 ps) ∧ W.cell? ⟨r, 0, none⟩ = some (.int .i64 du) ∧ W.cell? ⟨r, 1, none⟩ = some (.int .i64 ds) ∧ W.cell? ⟨s, 0, none⟩ = some (.int .i64 du) ∧ W.cell? ⟨s, 1, none⟩ = some (.int .i64 ds) ∧ W.cell? ⟨t, 0, none⟩ = some (.int .i64 nu) ∧ W.cell? ⟨t, 1, none⟩ = some (.int .i64 ns) ∧ W.cell? ⟨v, 0, none⟩ = some (.int .i64 nu) ∧ W.cell? ⟨v, 1, none⟩ = some (.int .i64 ns)) (simp (maxDischargeDepth := 12) [go_sem, c1, c2, c3, c4, l1, l2, d1, d2, d3, d4, d5, d6, d7, d8, d9, d10, d11, d12, k1, k2, k3, k4, k5, k6])
      ((first
        | (go_at_call_of 10 (Value.int IntKind.i64 ua); refine (Oa _ (by repeat (first | assumption | exact Grew.refl _ | apply Grew.drew | apply Grew.drewN | apply Grew.alloc | apply Grew.more))).mono ?_; rintro e w' ⟨rfl, os, n, rfl⟩)
        | (go_at_call_of 10 (Value.int IntKind.i64 ub); refine (Ob _ (by repeat (first | assumption | exact Grew.refl _ | apply Grew.drew | apply Grew.drewN | apply Grew.alloc | apply Grew.more))).mono ?_; rintro e w' ⟨rfl, os, n, rfl⟩)
        | (go_at_call 16; refine (Ag _ _ _ _).mono ?_; rintro e w' ⟨rfl, os, n, rfl⟩)
        | (go_at_call 17; refine (C1 _ (by repeat (first | assumption | exact Grew.refl _ | apply Grew.drew | apply Grew.drewN | apply Grew.alloc | apply Grew.more))).mono ?_; rintro e w' ⟨rfl, os, n, rfl⟩)
        | (go_at_call 18; refine (C2 _ (by repeat (first | assumption | exact Grew.refl _ | apply Grew.drew | apply Grew.drewN | apply Grew.alloc | apply Grew.more))).mono ?_; rintro e w' ⟨rfl, os, n, rfl⟩)
        | (go_at_call 19; refine (R1 _ (by repeat (first | assumption | exact Grew.refl _ | apply Grew.drew | apply Grew.drewN | apply Grew.alloc | apply Grew.more))).mono ?_; rintro e w' ⟨rfl, os, n, rfl⟩)
        | (go_at_call 20; refine (R2 _ (by repeat (first | assumption | exact Grew.refl _ | apply Grew.drew | apply Grew.drewN | apply Grew.alloc | apply Grew.more))).mono ?_; rintro e w' ⟨rfl, os, n, rfl⟩)
        | (go_at_call 21; refine (K _ (by repeat (first | assumption | exact Grew.refl _ | apply Grew.drew | apply Grew.drewN | apply Grew.alloc | apply Grew.more))).mono ?_; rintro e w' ⟨rfl, os, n, rfl⟩)))
  all_goals go_wp2_with fail
  all_goals go_ret
  all_goals exact ⟨rfl, by repeat (first | assumption | exact Grew.refl _ | apply Grew.drew | apply Grew.drewN | apply Grew.alloc | apply Grew.more)⟩

set_option maxHeartbeats 1000000 in
theorem agree_any (Nm : ∀ (n : Int) (W : World), Calls Tryd.prog 36 #[.int .i64 n] W fun e w' => e = .returned (.int .i64 n) ∧ W = w') (u s e : Int) (w : World) :
    Calls Tryd.prog 16 #[dv u s, .int .i64 e, dv u s, .int .i64 e] w fun x w' => x = .returned (.bool true) ∧ Grew w w' := by
  go_enter Tryd.func16, Tryd.ntmps16
  go_wp2_with (go_at_call 36; refine (Nm _ _).mono ?_; rintro e w' ⟨rfl, rfl⟩)
  go_ret
  exact ⟨rfl, by repeat (first | assumption | exact Grew.refl _ | apply Grew.drew | apply Grew.drewN | apply Grew.alloc | apply Grew.more)⟩
end Go.Proofs.YtfbkakchaabgeaaDoor
