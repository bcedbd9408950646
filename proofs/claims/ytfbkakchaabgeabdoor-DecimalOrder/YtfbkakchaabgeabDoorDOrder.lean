/-
  The walk of DecimalOrder over what its callees give.
-/
import Derived.Test.YtfbkakchaabgeabDoorDGives
import Derived.Deep.Cut
import Derived.Deep.RegionHeld2
namespace Go.Proofs.YtfbkakchaabgeabDoor
attribute [local go_sem] cell?_more frozen?_more setCell_more more_lt more_more more_drew more_drewN setCell_drewN alloc_drewN

theorem eqDec (a b c d : Int) (w : World) : (Op.equalIn 10000 23 (.agg #[.int .i64 a, .int .i64 b]) (.agg #[.int .i64 c, .int .i64 d])).run Tryd.prog w = .ok (a == c && b == d) w := by
  have u3 := Tryd.underlying3
  have a3 := Tryd.isAgg3
  have z3 := Tryd.sizeOf3
  have hS : Tryd.prog.underlying 23 = some (.struct (Tryd.prog.fieldsOf 23)) := by kernel_rfl
  have hp : Tryd.prog.stoodInHeld 23 = false := by kernel_rfl
  rw [show (10000 : Nat) = 9999 + 1 from rfl, run_equalIn_agg w 9999 23 _ _ hS hp]
  simp only [Program.fieldsOf, Tryd.underlying23]
  go_simp
  by_cases h1 : a = c <;> by_cases h2 : b = d <;> simp [h1, h2]
attribute [local go_sem high] eqDec

set_option maxRecDepth 30000 in
set_option maxHeartbeats 4000000 in
theorem order_bad (ua sa ub sb uc sc scl : Int) (xa xb xc : Bool) (w : World) (hx : (xa && xb && xc) = false)
    (K : Gives 7 #[] w (.bool true))
    (Ra : Gives 6 #[dv ua sa] w (.bool xa)) (Rb : Gives 6 #[dv ub sb] w (.bool xb)) (Rc : Gives 6 #[dv uc sc] w (.bool xc)) :
    Calls Tryd.prog 3 #[dv ua sa, dv ub sb, dv uc sc, .int .i64 scl] w fun e w' => e = .returned (.bool true) ∧ Grew w w' := by
  go_enter Tryd.func3, Tryd.ntmps3
  go_upto_region 1 with fail
  have ha : Two (((w.alloc (Obj.cells #[Value.int IntKind.i64 ua, Value.int IntKind.i64 sa] 23)).alloc (Obj.cells #[Value.int IntKind.i64 ub, Value.int IntKind.i64 sb] 23)).alloc (Obj.cells #[Value.int IntKind.i64 uc, Value.int IntKind.i64 sc] 23)) (w.heap.size) ua sa := ⟨by simp [go_sem], by simp [go_sem]⟩
  have hb : Two (((w.alloc (Obj.cells #[Value.int IntKind.i64 ua, Value.int IntKind.i64 sa] 23)).alloc (Obj.cells #[Value.int IntKind.i64 ub, Value.int IntKind.i64 sb] 23)).alloc (Obj.cells #[Value.int IntKind.i64 uc, Value.int IntKind.i64 sc] 23)) (w.heap.size + 1) ub sb := ⟨by simp [go_sem], by simp [go_sem]⟩
  have hc : Two (((w.alloc (Obj.cells #[Value.int IntKind.i64 ua, Value.int IntKind.i64 sa] 23)).alloc (Obj.cells #[Value.int IntKind.i64 ub, Value.int IntKind.i64 sb] 23)).alloc (Obj.cells #[Value.int IntKind.i64 uc, Value.int IntKind.i64 sc] 23)) (w.heap.size + 1 + 1) uc sc := ⟨by simp [go_sem], by simp [go_sem]⟩
  have g : Grew w (((w.alloc (Obj.cells #[Value.int IntKind.i64 ua, Value.int IntKind.i64 sa] 23)).alloc (Obj.cells #[Value.int IntKind.i64 ub, Value.int IntKind.i64 sb] 23)).alloc (Obj.cells #[Value.int IntKind.i64 uc, Value.int IntKind.i64 sc] 23)) := (((Grew.refl w).alloc _).alloc _).alloc _
  generalize ((w.alloc (Obj.cells #[Value.int IntKind.i64 ua, Value.int IntKind.i64 sa] 23)).alloc (Obj.cells #[Value.int IntKind.i64 ub, Value.int IntKind.i64 sb] 23)).alloc (Obj.cells #[Value.int IntKind.i64 uc, Value.int IntKind.i64 sc] 23) = w0 at *
  obtain ⟨c1, c2⟩ := id ha
  have l1 := ha.lt
  obtain ⟨c3, c4⟩ := id hb
  have l2 := hb.lt
  obtain ⟨c5, c6⟩ := id hc
  have l3 := hc.lt
  cases xa
  · go_wp2_with (first | (first | (go_at_call_of 6 (Value.int IntKind.i64 ua); refine (Ra _ (by repeat (first | assumption | exact Grew.refl _ | apply Grew.drew | apply Grew.drewN | apply Grew.alloc | apply Grew.more))).mono ?_; rintro e w' ⟨rfl, os, n, rfl⟩) | (go_at_call_of 6 (Value.int IntKind.i64 ub); refine (Rb _ (by repeat (first | assumption | exact Grew.refl _ | apply Grew.drew | apply Grew.drewN | apply Grew.alloc | apply Grew.more))).mono ?_; rintro e w' ⟨rfl, os, n, rfl⟩) | (go_at_call_of 6 (Value.int IntKind.i64 uc); refine (Rc _ (by repeat (first | assumption | exact Grew.refl _ | apply Grew.drew | apply Grew.drewN | apply Grew.alloc | apply Grew.more))).mono ?_; rintro e w' ⟨rfl, os, n, rfl⟩)) | (go_at_call 7; refine (K _ (by repeat (first | assumption | exact Grew.refl _ | apply Grew.drew | apply Grew.drewN | apply Grew.alloc | apply Grew.more))).mono ?_; rintro e w' ⟨rfl, os, n, rfl⟩))
    all_goals go_ret
    all_goals exact ⟨rfl, by repeat (first | assumption | exact Grew.refl _ | apply Grew.drew | apply Grew.drewN | apply Grew.alloc | apply Grew.more)⟩
  · cases xb
    · go_wp2_with (first | (first | (go_at_call_of 6 (Value.int IntKind.i64 ua); refine (Ra _ (by repeat (first | assumption | exact Grew.refl _ | apply Grew.drew | apply Grew.drewN | apply Grew.alloc | apply Grew.more))).mono ?_; rintro e w' ⟨rfl, os, n, rfl⟩) | (go_at_call_of 6 (Value.int IntKind.i64 ub); refine (Rb _ (by repeat (first | assumption | exact Grew.refl _ | apply Grew.drew | apply Grew.drewN | apply Grew.alloc | apply Grew.more))).mono ?_; rintro e w' ⟨rfl, os, n, rfl⟩) | (go_at_call_of 6 (Value.int IntKind.i64 uc); refine (Rc _ (by repeat (first | assumption | exact Grew.refl _ | apply Grew.drew | apply Grew.drewN | apply Grew.alloc | apply Grew.more))).mono ?_; rintro e w' ⟨rfl, os, n, rfl⟩)) | (go_at_call 7; refine (K _ (by repeat (first | assumption | exact Grew.refl _ | apply Grew.drew | apply Grew.drewN | apply Grew.alloc | apply Grew.more))).mono ?_; rintro e w' ⟨rfl, os, n, rfl⟩))
      all_goals go_ret
      all_goals exact ⟨rfl, by repeat (first | assumption | exact Grew.refl _ | apply Grew.drew | apply Grew.drewN | apply Grew.alloc | apply Grew.more)⟩
    · cases xc
      · go_wp2_with (first | (first | (go_at_call_of 6 (Value.int IntKind.i64 ua); refine (Ra _ (by repeat (first | assumption | exact Grew.refl _ | apply Grew.drew | apply Grew.drewN | apply Grew.alloc | apply Grew.more))).mono ?_; rintro e w' ⟨rfl, os, n, rfl⟩) | (go_at_call_of 6 (Value.int IntKind.i64 ub); refine (Rb _ (by repeat (first | assumption | exact Grew.refl _ | apply Grew.drew | apply Grew.drewN | apply Grew.alloc | apply Grew.more))).mono ?_; rintro e w' ⟨rfl, os, n, rfl⟩) | (go_at_call_of 6 (Value.int IntKind.i64 uc); refine (Rc _ (by repeat (first | assumption | exact Grew.refl _ | apply Grew.drew | apply Grew.drewN | apply Grew.alloc | apply Grew.more))).mono ?_; rintro e w' ⟨rfl, os, n, rfl⟩)) | (go_at_call 7; refine (K _ (by repeat (first | assumption | exact Grew.refl _ | apply Grew.drew | apply Grew.drewN | apply Grew.alloc | apply Grew.more))).mono ?_; rintro e w' ⟨rfl, os, n, rfl⟩))
        all_goals go_ret
        all_goals exact ⟨rfl, by repeat (first | assumption | exact Grew.refl _ | apply Grew.drew | apply Grew.drewN | apply Grew.alloc | apply Grew.more)⟩
      · exact absurd hx (by decide)

set_option maxRecDepth 30000 in
set_option maxHeartbeats 8000000 in
theorem order_core (ua sa ub sb uc sc scl ab bc ac du ds ee : Int) (w : World)
    (Oa : Gives 9 #[dv ua sa] w (dv ua sa)) (Ob : Gives 9 #[dv ub sb] w (dv ub sb)) (Oc : Gives 9 #[dv uc sc] w (dv uc sc))
    (Nm : ∀ (n : Int) (W : World), Calls Tryd.prog 11 #[.int .i64 n] W fun e w' => e = .returned (.int .i64 n) ∧ W = w')
    (K : Gives 7 #[] w (.bool true))
    (Ra : Gives 6 #[dv ua sa] w (.bool true)) (Rb : Gives 6 #[dv ub sb] w (.bool true)) (Rc : Gives 6 #[dv uc sc] w (.bool true))
    (AB : Gives 8 #[dv ua sa, dv ub sb] w (.int .i64 ab)) (BC : Gives 8 #[dv ub sb, dv uc sc] w (.int .i64 bc)) (AC : Gives 8 #[dv ua sa, dv uc sc] w (.int .i64 ac)) (BA : Gives 8 #[dv ub sb, dv ua sa] w (.int .i64 (-ab)))
    (q1 : ab = -1 ∨ ab = 0 ∨ ab = 1) (q2 : bc = -1 ∨ bc = 0 ∨ bc = 1) (q3 : ab ≤ 0 → bc ≤ 0 → ac ≤ 0) (q4 : 0 ≤ ab → 0 ≤ bc → 0 ≤ ac) (q5 : ua = ub → sa = sb → ab = 0)
    (Rs : Gives 10 #[dv ua sa, .int .i64 scl] w (.tuple #[dv du ds, .int .i64 ee]))
    (C1 : ee = 0 → sa ≤ scl → Gives 8 #[dv du ds, dv ua sa] w (.int .i64 0)) (C2 : ee = 0 → sa ≤ scl → Gives 8 #[dv du ds, dv ub sb] w (.int .i64 ab)) :
    Calls Tryd.prog 3 #[dv ua sa, dv ub sb, dv uc sc, .int .i64 scl] w fun e w' => e = .returned (.bool true) ∧ Grew w w' := by
  go_enter Tryd.func3, Tryd.ntmps3
  go_upto_region 1 with fail
  have ha : Two (((w.alloc (Obj.cells #[Value.int IntKind.i64 ua, Value.int IntKind.i64 sa] 23)).alloc (Obj.cells #[Value.int IntKind.i64 ub, Value.int IntKind.i64 sb] 23)).alloc (Obj.cells #[Value.int IntKind.i64 uc, Value.int IntKind.i64 sc] 23)) (w.heap.size) ua sa := ⟨by simp [go_sem], by simp [go_sem]⟩
  have hb : Two (((w.alloc (Obj.cells #[Value.int IntKind.i64 ua, Value.int IntKind.i64 sa] 23)).alloc (Obj.cells #[Value.int IntKind.i64 ub, Value.int IntKind.i64 sb] 23)).alloc (Obj.cells #[Value.int IntKind.i64 uc, Value.int IntKind.i64 sc] 23)) (w.heap.size + 1) ub sb := ⟨by simp [go_sem], by simp [go_sem]⟩
  have hc : Two (((w.alloc (Obj.cells #[Value.int IntKind.i64 ua, Value.int IntKind.i64 sa] 23)).alloc (Obj.cells #[Value.int IntKind.i64 ub, Value.int IntKind.i64 sb] 23)).alloc (Obj.cells #[Value.int IntKind.i64 uc, Value.int IntKind.i64 sc] 23)) (w.heap.size + 1 + 1) uc sc := ⟨by simp [go_sem], by simp [go_sem]⟩
  have g : Grew w (((w.alloc (Obj.cells #[Value.int IntKind.i64 ua, Value.int IntKind.i64 sa] 23)).alloc (Obj.cells #[Value.int IntKind.i64 ub, Value.int IntKind.i64 sb] 23)).alloc (Obj.cells #[Value.int IntKind.i64 uc, Value.int IntKind.i64 sc] 23)) := (((Grew.refl w).alloc _).alloc _).alloc _
  generalize ((w.alloc (Obj.cells #[Value.int IntKind.i64 ua, Value.int IntKind.i64 sa] 23)).alloc (Obj.cells #[Value.int IntKind.i64 ub, Value.int IntKind.i64 sb] 23)).alloc (Obj.cells #[Value.int IntKind.i64 uc, Value.int IntKind.i64 sc] 23) = w0 at *
  obtain ⟨c1, c2⟩ := id ha
  have l1 := ha.lt
  obtain ⟨c3, c4⟩ := id hb
  have l2 := hb.lt
  obtain ⟨c5, c6⟩ := id hc
  have l3 := hc.lt
  go_cut [26] from 14 (fun s wx => s = .bool false ∧ Grew w0 wx)
  case first =>
    clear Nm K AB BC AC BA Rs C1 C2 Oa Ob Oc q1 q2 q3 q4 q5
    go_wp2_with (first | (go_at_call_of 6 (Value.int IntKind.i64 ua); refine (Ra _ (by repeat (first | assumption | exact Grew.refl _ | apply Grew.drew | apply Grew.drewN | apply Grew.alloc | apply Grew.more))).mono ?_; rintro e w' ⟨rfl, os, n, rfl⟩) | (go_at_call_of 6 (Value.int IntKind.i64 ub); refine (Rb _ (by repeat (first | assumption | exact Grew.refl _ | apply Grew.drew | apply Grew.drewN | apply Grew.alloc | apply Grew.more))).mono ?_; rintro e w' ⟨rfl, os, n, rfl⟩) | (go_at_call_of 6 (Value.int IntKind.i64 uc); refine (Rc _ (by repeat (first | assumption | exact Grew.refl _ | apply Grew.drew | apply Grew.drewN | apply Grew.alloc | apply Grew.more))).mono ?_; rintro e w' ⟨rfl, os, n, rfl⟩))
    all_goals go_meet
    all_goals exact ⟨rfl, by repeat (first | assumption | exact Grew.refl _ | apply Grew.drew | apply Grew.drewN | apply Grew.alloc | apply Grew.more)⟩
  rename World => w1
  obtain ⟨rfl, g'⟩ := hcut
  replace ha := ha.later g'
  replace hb := hb.later g'
  replace hc := hc.later g'
  replace g := g.trans g'
  clear g' c1 c2 c3 c4 c5 c6 l1 l2 l3
  obtain ⟨c1, c2⟩ := id ha
  have l1 := ha.lt
  obtain ⟨c3, c4⟩ := id hb
  have l2 := hb.lt
  obtain ⟨c5, c6⟩ := id hc
  have l3 := hc.lt
  clear Ra Rb Rc
  go_upto_region 3 with fail
  go_cut [9] from 14 (fun s wx => s = .int .i64 ab ∧ Grew w1 wx)
  case first =>
    clear Nm K BC AC BA Rs C1 C2 Oc q1 q2 q3 q4 q5
    go_region_held2 (fun W => W.cell? ⟨w.heap.size, 0, none⟩ = some (.int .i64 ua) ∧ W.cell? ⟨w.heap.size, 1, none⟩ = some (.int .i64 sa) ∧ W.cell? ⟨w.heap.size + 1, 0, none⟩ = some (.int .i64 ub) ∧ W.cell? ⟨w.heap.size + 1, 1, none⟩ = some (.int .i64 sb) ∧ W.cell? ⟨w.heap.size + 1 + 1, 0, none⟩ = some (.int .i64 uc) ∧ W.cell? ⟨w.heap.size + 1 + 1, 1, none⟩ = some (.int .i64 sc)) (simp (maxDischargeDepth := 12) [go_sem, c1, c2, c3, c4, c5, c6, l1, l2, l3])
      ((first
        | (go_at_call_of 9 (Value.int IntKind.i64 ua); refine (Oa _ (by repeat (first | assumption | exact Grew.refl _ | apply Grew.drew | apply Grew.drewN | apply Grew.alloc | apply Grew.more))).mono ?_; rintro e w' ⟨rfl, os, n, rfl⟩)
        | (go_at_call_of 9 (Value.int IntKind.i64 ub); refine (Ob _ (by repeat (first | assumption | exact Grew.refl _ | apply Grew.drew | apply Grew.drewN | apply Grew.alloc | apply Grew.more))).mono ?_; rintro e w' ⟨rfl, os, n, rfl⟩)
        | (go_at_call 8; refine (AB _ (by repeat (first | assumption | exact Grew.refl _ | apply Grew.drew | apply Grew.drewN | apply Grew.alloc | apply Grew.more))).mono ?_; rintro e w' ⟨rfl, os, n, rfl⟩)))
    all_goals go_wp2_with fail
    all_goals go_meet
    all_goals exact ⟨rfl, by repeat (first | assumption | exact Grew.refl _ | apply Grew.drew | apply Grew.drewN | apply Grew.alloc | apply Grew.more)⟩
  rename World => w2
  obtain ⟨rfl, g'⟩ := hcut
  replace ha := ha.later g'
  replace hb := hb.later g'
  replace hc := hc.later g'
  replace g := g.trans g'
  clear g' c1 c2 c3 c4 c5 c6 l1 l2 l3
  obtain ⟨c1, c2⟩ := id ha
  have l1 := ha.lt
  obtain ⟨c3, c4⟩ := id hb
  have l2 := hb.lt
  obtain ⟨c5, c6⟩ := id hc
  have l3 := hc.lt
  go_upto_region 4 with fail
  go_cut [10] from 14 (fun s wx => s = .int .i64 bc ∧ Grew w2 wx)
  case first =>
    clear Nm K AB AC BA Rs C1 C2 Oa q1 q2 q3 q4 q5
    go_region_held2 (fun W => W.cell? ⟨w.heap.size, 0, none⟩ = some (.int .i64 ua) ∧ W.cell? ⟨w.heap.size, 1, none⟩ = some (.int .i64 sa) ∧ W.cell? ⟨w.heap.size + 1, 0, none⟩ = some (.int .i64 ub) ∧ W.cell? ⟨w.heap.size + 1, 1, none⟩ = some (.int .i64 sb) ∧ W.cell? ⟨w.heap.size + 1 + 1, 0, none⟩ = some (.int .i64 uc) ∧ W.cell? ⟨w.heap.size + 1 + 1, 1, none⟩ = some (.int .i64 sc)) (simp (maxDischargeDepth := 12) [go_sem, c1, c2, c3, c4, c5, c6, l1, l2, l3])
      ((first
        | (go_at_call_of 9 (Value.int IntKind.i64 ub); refine (Ob _ (by repeat (first | assumption | exact Grew.refl _ | apply Grew.drew | apply Grew.drewN | apply Grew.alloc | apply Grew.more))).mono ?_; rintro e w' ⟨rfl, os, n, rfl⟩)
        | (go_at_call_of 9 (Value.int IntKind.i64 uc); refine (Oc _ (by repeat (first | assumption | exact Grew.refl _ | apply Grew.drew | apply Grew.drewN | apply Grew.alloc | apply Grew.more))).mono ?_; rintro e w' ⟨rfl, os, n, rfl⟩)
        | (go_at_call 8; refine (BC _ (by repeat (first | assumption | exact Grew.refl _ | apply Grew.drew | apply Grew.drewN | apply Grew.alloc | apply Grew.more))).mono ?_; rintro e w' ⟨rfl, os, n, rfl⟩)))
    all_goals go_wp2_with fail
    all_goals go_meet
    all_goals exact ⟨rfl, by repeat (first | assumption | exact Grew.refl _ | apply Grew.drew | apply Grew.drewN | apply Grew.alloc | apply Grew.more)⟩
  rename World => w3
  obtain ⟨rfl, g'⟩ := hcut
  replace ha := ha.later g'
  replace hb := hb.later g'
  replace hc := hc.later g'
  replace g := g.trans g'
  clear g' c1 c2 c3 c4 c5 c6 l1 l2 l3
  obtain ⟨c1, c2⟩ := id ha
  have l1 := ha.lt
  obtain ⟨c3, c4⟩ := id hb
  have l2 := hb.lt
  obtain ⟨c5, c6⟩ := id hc
  have l3 := hc.lt
  go_upto_region 5 with fail
  go_cut [11] from 14 (fun s wx => s = .int .i64 ac ∧ Grew w3 wx)
  case first =>
    clear Nm K AB BC BA Rs C1 C2 Ob q1 q2 q3 q4 q5
    go_region_held2 (fun W => W.cell? ⟨w.heap.size, 0, none⟩ = some (.int .i64 ua) ∧ W.cell? ⟨w.heap.size, 1, none⟩ = some (.int .i64 sa) ∧ W.cell? ⟨w.heap.size + 1, 0, none⟩ = some (.int .i64 ub) ∧ W.cell? ⟨w.heap.size + 1, 1, none⟩ = some (.int .i64 sb) ∧ W.cell? ⟨w.heap.size + 1 + 1, 0, none⟩ = some (.int .i64 uc) ∧ W.cell? ⟨w.heap.size + 1 + 1, 1, none⟩ = some (.int .i64 sc)) (simp (maxDischargeDepth := 12) [go_sem, c1, c2, c3, c4, c5, c6, l1, l2, l3])
      ((first
        | (go_at_call_of 9 (Value.int IntKind.i64 ua); refine (Oa _ (by repeat (first | assumption | exact Grew.refl _ | apply Grew.drew | apply Grew.drewN | apply Grew.alloc | apply Grew.more))).mono ?_; rintro e w' ⟨rfl, os, n, rfl⟩)
        | (go_at_call_of 9 (Value.int IntKind.i64 uc); refine (Oc _ (by repeat (first | assumption | exact Grew.refl _ | apply Grew.drew | apply Grew.drewN | apply Grew.alloc | apply Grew.more))).mono ?_; rintro e w' ⟨rfl, os, n, rfl⟩)
        | (go_at_call 8; refine (AC _ (by repeat (first | assumption | exact Grew.refl _ | apply Grew.drew | apply Grew.drewN | apply Grew.alloc | apply Grew.more))).mono ?_; rintro e w' ⟨rfl, os, n, rfl⟩)))
    all_goals go_wp2_with fail
    all_goals go_meet
    all_goals exact ⟨rfl, by repeat (first | assumption | exact Grew.refl _ | apply Grew.drew | apply Grew.drewN | apply Grew.alloc | apply Grew.more)⟩
  rename World => w4
  obtain ⟨rfl, g'⟩ := hcut
  replace ha := ha.later g'
  replace hb := hb.later g'
  replace hc := hc.later g'
  replace g := g.trans g'
  clear g' c1 c2 c3 c4 c5 c6 l1 l2 l3
  obtain ⟨c1, c2⟩ := id ha
  have l1 := ha.lt
  obtain ⟨c3, c4⟩ := id hb
  have l2 := hb.lt
  obtain ⟨c5, c6⟩ := id hc
  have l3 := hc.lt
  go_upto_region 6 with fail
  go_cut [83] from 14 (fun s wx => s = .bool false ∧ Grew w4 wx)
  case first =>
    clear Nm K AB BC AC Rs C1 C2 Oc c5 c6 l3 hc
    rcases q1 with rfl | rfl | rfl
    · skip
      have hE : ¬ (ua = ub ∧ sa = sb) := fun h => absurd (q5 h.1 h.2) (by decide)
      have hEb : (ua == ub && sa == sb) = false := by simpa using fun h => fun h2 => hE ⟨h, h2⟩
      by_cases h2 : bc ≤ 0
      · have d2 : decide (bc ≤ 0) = true := by simp [h2]
        have d3 : decide (0 < ac) = false := by have := q3 (by decide) h2; simp; omega
        clear q2 q3 q4 q5 hE h2
        first
        | (go_region_held (fun W => W.cell? ⟨w.heap.size, 0, none⟩ = some (.int .i64 ua) ∧ W.cell? ⟨w.heap.size, 1, none⟩ = some (.int .i64 sa) ∧ W.cell? ⟨w.heap.size + 1, 0, none⟩ = some (.int .i64 ub) ∧ W.cell? ⟨w.heap.size + 1, 1, none⟩ = some (.int .i64 sb)) (simp (maxDischargeDepth := 12) [go_sem, c1, c2, c3, c4, l1, l2])
          ((first
                | (go_at_call_of 9 (Value.int IntKind.i64 ua); refine (Oa _ (by repeat (first | assumption | exact Grew.refl _ | apply Grew.drew | apply Grew.drewN | apply Grew.alloc | apply Grew.more))).mono ?_; rintro e w' ⟨rfl, os, n, rfl⟩)
                | (go_at_call_of 9 (Value.int IntKind.i64 ub); refine (Ob _ (by repeat (first | assumption | exact Grew.refl _ | apply Grew.drew | apply Grew.drewN | apply Grew.alloc | apply Grew.more))).mono ?_; rintro e w' ⟨rfl, os, n, rfl⟩)
                | (go_at_call 8; refine (BA _ (by repeat (first | assumption | exact Grew.refl _ | apply Grew.drew | apply Grew.drewN | apply Grew.alloc | apply Grew.more))).mono ?_; rintro e w' ⟨rfl, os, n, rfl⟩))))
        | skip
        all_goals go_wp2_with fail
        all_goals go_meet
        all_goals exact ⟨rfl, by repeat (first | assumption | exact Grew.refl _ | apply Grew.drew | apply Grew.drewN | apply Grew.alloc | apply Grew.more)⟩
      · have d2 : decide (bc ≤ 0) = false := by simp; omega
        clear q2 q3 q4 q5 hE h2
        first
        | (go_region_held (fun W => W.cell? ⟨w.heap.size, 0, none⟩ = some (.int .i64 ua) ∧ W.cell? ⟨w.heap.size, 1, none⟩ = some (.int .i64 sa) ∧ W.cell? ⟨w.heap.size + 1, 0, none⟩ = some (.int .i64 ub) ∧ W.cell? ⟨w.heap.size + 1, 1, none⟩ = some (.int .i64 sb)) (simp (maxDischargeDepth := 12) [go_sem, c1, c2, c3, c4, l1, l2])
          ((first
                | (go_at_call_of 9 (Value.int IntKind.i64 ua); refine (Oa _ (by repeat (first | assumption | exact Grew.refl _ | apply Grew.drew | apply Grew.drewN | apply Grew.alloc | apply Grew.more))).mono ?_; rintro e w' ⟨rfl, os, n, rfl⟩)
                | (go_at_call_of 9 (Value.int IntKind.i64 ub); refine (Ob _ (by repeat (first | assumption | exact Grew.refl _ | apply Grew.drew | apply Grew.drewN | apply Grew.alloc | apply Grew.more))).mono ?_; rintro e w' ⟨rfl, os, n, rfl⟩)
                | (go_at_call 8; refine (BA _ (by repeat (first | assumption | exact Grew.refl _ | apply Grew.drew | apply Grew.drewN | apply Grew.alloc | apply Grew.more))).mono ?_; rintro e w' ⟨rfl, os, n, rfl⟩))))
        | skip
        all_goals go_wp2_with fail
        all_goals go_meet
        all_goals exact ⟨rfl, by repeat (first | assumption | exact Grew.refl _ | apply Grew.drew | apply Grew.drewN | apply Grew.alloc | apply Grew.more)⟩
    · skip
      by_cases hE : ua = ub ∧ sa = sb
      · obtain ⟨rfl, rfl⟩ := hE
        rcases q2 with rfl | rfl | rfl
        · have d3 : decide (0 < ac) = false := by have := q3 (by decide) (by decide); simp; omega
          clear q3 q4 q5
          first
          | (go_region_held (fun W => W.cell? ⟨w.heap.size, 0, none⟩ = some (.int .i64 ua) ∧ W.cell? ⟨w.heap.size, 1, none⟩ = some (.int .i64 sa) ∧ W.cell? ⟨w.heap.size + 1, 0, none⟩ = some (.int .i64 ua) ∧ W.cell? ⟨w.heap.size + 1, 1, none⟩ = some (.int .i64 sa)) (simp (maxDischargeDepth := 12) [go_sem, c1, c2, c3, c4, l1, l2])
            ((first
                  | (go_at_call_of 9 (Value.int IntKind.i64 ua); refine (Oa _ (by repeat (first | assumption | exact Grew.refl _ | apply Grew.drew | apply Grew.drewN | apply Grew.alloc | apply Grew.more))).mono ?_; rintro e w' ⟨rfl, os, n, rfl⟩)
                  | (go_at_call 8; refine (BA _ (by repeat (first | assumption | exact Grew.refl _ | apply Grew.drew | apply Grew.drewN | apply Grew.alloc | apply Grew.more))).mono ?_; rintro e w' ⟨rfl, os, n, rfl⟩))))
          | skip
          all_goals go_wp2_with fail
          all_goals go_meet
          all_goals exact ⟨rfl, by repeat (first | assumption | exact Grew.refl _ | apply Grew.drew | apply Grew.drewN | apply Grew.alloc | apply Grew.more)⟩
        · have d3 : decide (0 < ac) = false := by have := q3 (by decide) (by decide); simp; omega
          have d4 : decide (ac < 0) = false := by have := q4 (by decide) (by decide); simp; omega
          clear q3 q4 q5
          first
          | (go_region_held (fun W => W.cell? ⟨w.heap.size, 0, none⟩ = some (.int .i64 ua) ∧ W.cell? ⟨w.heap.size, 1, none⟩ = some (.int .i64 sa) ∧ W.cell? ⟨w.heap.size + 1, 0, none⟩ = some (.int .i64 ua) ∧ W.cell? ⟨w.heap.size + 1, 1, none⟩ = some (.int .i64 sa)) (simp (maxDischargeDepth := 12) [go_sem, c1, c2, c3, c4, l1, l2])
            ((first
                  | (go_at_call_of 9 (Value.int IntKind.i64 ua); refine (Oa _ (by repeat (first | assumption | exact Grew.refl _ | apply Grew.drew | apply Grew.drewN | apply Grew.alloc | apply Grew.more))).mono ?_; rintro e w' ⟨rfl, os, n, rfl⟩)
                  | (go_at_call 8; refine (BA _ (by repeat (first | assumption | exact Grew.refl _ | apply Grew.drew | apply Grew.drewN | apply Grew.alloc | apply Grew.more))).mono ?_; rintro e w' ⟨rfl, os, n, rfl⟩))))
          | skip
          all_goals go_wp2_with fail
          all_goals go_meet
          all_goals exact ⟨rfl, by repeat (first | assumption | exact Grew.refl _ | apply Grew.drew | apply Grew.drewN | apply Grew.alloc | apply Grew.more)⟩
        · have d3 : decide (ac < 0) = false := by have := q4 (by decide) (by decide); simp; omega
          clear q3 q4 q5
          first
          | (go_region_held (fun W => W.cell? ⟨w.heap.size, 0, none⟩ = some (.int .i64 ua) ∧ W.cell? ⟨w.heap.size, 1, none⟩ = some (.int .i64 sa) ∧ W.cell? ⟨w.heap.size + 1, 0, none⟩ = some (.int .i64 ua) ∧ W.cell? ⟨w.heap.size + 1, 1, none⟩ = some (.int .i64 sa)) (simp (maxDischargeDepth := 12) [go_sem, c1, c2, c3, c4, l1, l2])
            ((first
                  | (go_at_call_of 9 (Value.int IntKind.i64 ua); refine (Oa _ (by repeat (first | assumption | exact Grew.refl _ | apply Grew.drew | apply Grew.drewN | apply Grew.alloc | apply Grew.more))).mono ?_; rintro e w' ⟨rfl, os, n, rfl⟩)
                  | (go_at_call 8; refine (BA _ (by repeat (first | assumption | exact Grew.refl _ | apply Grew.drew | apply Grew.drewN | apply Grew.alloc | apply Grew.more))).mono ?_; rintro e w' ⟨rfl, os, n, rfl⟩))))
          | skip
          all_goals go_wp2_with fail
          all_goals go_meet
          all_goals exact ⟨rfl, by repeat (first | assumption | exact Grew.refl _ | apply Grew.drew | apply Grew.drewN | apply Grew.alloc | apply Grew.more)⟩
      · have hEb : (ua == ub && sa == sb) = false := by simpa using fun h => fun h2 => hE ⟨h, h2⟩
        rcases q2 with rfl | rfl | rfl
        · have d3 : decide (0 < ac) = false := by have := q3 (by decide) (by decide); simp; omega
          clear q3 q4 q5 hE
          first
          | (go_region_held (fun W => W.cell? ⟨w.heap.size, 0, none⟩ = some (.int .i64 ua) ∧ W.cell? ⟨w.heap.size, 1, none⟩ = some (.int .i64 sa) ∧ W.cell? ⟨w.heap.size + 1, 0, none⟩ = some (.int .i64 ub) ∧ W.cell? ⟨w.heap.size + 1, 1, none⟩ = some (.int .i64 sb)) (simp (maxDischargeDepth := 12) [go_sem, c1, c2, c3, c4, l1, l2])
            ((first
                  | (go_at_call_of 9 (Value.int IntKind.i64 ua); refine (Oa _ (by repeat (first | assumption | exact Grew.refl _ | apply Grew.drew | apply Grew.drewN | apply Grew.alloc | apply Grew.more))).mono ?_; rintro e w' ⟨rfl, os, n, rfl⟩)
                  | (go_at_call_of 9 (Value.int IntKind.i64 ub); refine (Ob _ (by repeat (first | assumption | exact Grew.refl _ | apply Grew.drew | apply Grew.drewN | apply Grew.alloc | apply Grew.more))).mono ?_; rintro e w' ⟨rfl, os, n, rfl⟩)
                  | (go_at_call 8; refine (BA _ (by repeat (first | assumption | exact Grew.refl _ | apply Grew.drew | apply Grew.drewN | apply Grew.alloc | apply Grew.more))).mono ?_; rintro e w' ⟨rfl, os, n, rfl⟩))))
          | skip
          all_goals go_wp2_with fail
          all_goals go_meet
          all_goals exact ⟨rfl, by repeat (first | assumption | exact Grew.refl _ | apply Grew.drew | apply Grew.drewN | apply Grew.alloc | apply Grew.more)⟩
        · have d3 : decide (0 < ac) = false := by have := q3 (by decide) (by decide); simp; omega
          have d4 : decide (ac < 0) = false := by have := q4 (by decide) (by decide); simp; omega
          clear q3 q4 q5 hE
          first
          | (go_region_held (fun W => W.cell? ⟨w.heap.size, 0, none⟩ = some (.int .i64 ua) ∧ W.cell? ⟨w.heap.size, 1, none⟩ = some (.int .i64 sa) ∧ W.cell? ⟨w.heap.size + 1, 0, none⟩ = some (.int .i64 ub) ∧ W.cell? ⟨w.heap.size + 1, 1, none⟩ = some (.int .i64 sb)) (simp (maxDischargeDepth := 12) [go_sem, c1, c2, c3, c4, l1, l2])
            ((first
                  | (go_at_call_of 9 (Value.int IntKind.i64 ua); refine (Oa _ (by repeat (first | assumption | exact Grew.refl _ | apply Grew.drew | apply Grew.drewN | apply Grew.alloc | apply Grew.more))).mono ?_; rintro e w' ⟨rfl, os, n, rfl⟩)
                  | (go_at_call_of 9 (Value.int IntKind.i64 ub); refine (Ob _ (by repeat (first | assumption | exact Grew.refl _ | apply Grew.drew | apply Grew.drewN | apply Grew.alloc | apply Grew.more))).mono ?_; rintro e w' ⟨rfl, os, n, rfl⟩)
                  | (go_at_call 8; refine (BA _ (by repeat (first | assumption | exact Grew.refl _ | apply Grew.drew | apply Grew.drewN | apply Grew.alloc | apply Grew.more))).mono ?_; rintro e w' ⟨rfl, os, n, rfl⟩))))
          | skip
          all_goals go_wp2_with fail
          all_goals go_meet
          all_goals exact ⟨rfl, by repeat (first | assumption | exact Grew.refl _ | apply Grew.drew | apply Grew.drewN | apply Grew.alloc | apply Grew.more)⟩
        · have d3 : decide (ac < 0) = false := by have := q4 (by decide) (by decide); simp; omega
          clear q3 q4 q5 hE
          first
          | (go_region_held (fun W => W.cell? ⟨w.heap.size, 0, none⟩ = some (.int .i64 ua) ∧ W.cell? ⟨w.heap.size, 1, none⟩ = some (.int .i64 sa) ∧ W.cell? ⟨w.heap.size + 1, 0, none⟩ = some (.int .i64 ub) ∧ W.cell? ⟨w.heap.size + 1, 1, none⟩ = some (.int .i64 sb)) (simp (maxDischargeDepth := 12) [go_sem, c1, c2, c3, c4, l1, l2])
            ((first
                  | (go_at_call_of 9 (Value.int IntKind.i64 ua); refine (Oa _ (by repeat (first | assumption | exact Grew.refl _ | apply Grew.drew | apply Grew.drewN | apply Grew.alloc | apply Grew.more))).mono ?_; rintro e w' ⟨rfl, os, n, rfl⟩)
                  | (go_at_call_of 9 (Value.int IntKind.i64 ub); refine (Ob _ (by repeat (first | assumption | exact Grew.refl _ | apply Grew.drew | apply Grew.drewN | apply Grew.alloc | apply Grew.more))).mono ?_; rintro e w' ⟨rfl, os, n, rfl⟩)
                  | (go_at_call 8; refine (BA _ (by repeat (first | assumption | exact Grew.refl _ | apply Grew.drew | apply Grew.drewN | apply Grew.alloc | apply Grew.more))).mono ?_; rintro e w' ⟨rfl, os, n, rfl⟩))))
          | skip
          all_goals go_wp2_with fail
          all_goals go_meet
          all_goals exact ⟨rfl, by repeat (first | assumption | exact Grew.refl _ | apply Grew.drew | apply Grew.drewN | apply Grew.alloc | apply Grew.more)⟩
    · skip
      have hE : ¬ (ua = ub ∧ sa = sb) := fun h => absurd (q5 h.1 h.2) (by decide)
      have hEb : (ua == ub && sa == sb) = false := by simpa using fun h => fun h2 => hE ⟨h, h2⟩
      by_cases h2 : 0 ≤ bc
      · have d2 : decide (0 ≤ bc) = true := by simp [h2]
        have d3 : decide (ac < 0) = false := by have := q4 (by decide) h2; simp; omega
        clear q2 q3 q4 q5 hE h2
        first
        | (go_region_held (fun W => W.cell? ⟨w.heap.size, 0, none⟩ = some (.int .i64 ua) ∧ W.cell? ⟨w.heap.size, 1, none⟩ = some (.int .i64 sa) ∧ W.cell? ⟨w.heap.size + 1, 0, none⟩ = some (.int .i64 ub) ∧ W.cell? ⟨w.heap.size + 1, 1, none⟩ = some (.int .i64 sb)) (simp (maxDischargeDepth := 12) [go_sem, c1, c2, c3, c4, l1, l2])
          ((first
                | (go_at_call_of 9 (Value.int IntKind.i64 ua); refine (Oa _ (by repeat (first | assumption | exact Grew.refl _ | apply Grew.drew | apply Grew.drewN | apply Grew.alloc | apply Grew.more))).mono ?_; rintro e w' ⟨rfl, os, n, rfl⟩)
                | (go_at_call_of 9 (Value.int IntKind.i64 ub); refine (Ob _ (by repeat (first | assumption | exact Grew.refl _ | apply Grew.drew | apply Grew.drewN | apply Grew.alloc | apply Grew.more))).mono ?_; rintro e w' ⟨rfl, os, n, rfl⟩)
                | (go_at_call 8; refine (BA _ (by repeat (first | assumption | exact Grew.refl _ | apply Grew.drew | apply Grew.drewN | apply Grew.alloc | apply Grew.more))).mono ?_; rintro e w' ⟨rfl, os, n, rfl⟩))))
        | skip
        all_goals go_wp2_with fail
        all_goals go_meet
        all_goals exact ⟨rfl, by repeat (first | assumption | exact Grew.refl _ | apply Grew.drew | apply Grew.drewN | apply Grew.alloc | apply Grew.more)⟩
      · have d2 : decide (0 ≤ bc) = false := by simp; omega
        clear q2 q3 q4 q5 hE h2
        first
        | (go_region_held (fun W => W.cell? ⟨w.heap.size, 0, none⟩ = some (.int .i64 ua) ∧ W.cell? ⟨w.heap.size, 1, none⟩ = some (.int .i64 sa) ∧ W.cell? ⟨w.heap.size + 1, 0, none⟩ = some (.int .i64 ub) ∧ W.cell? ⟨w.heap.size + 1, 1, none⟩ = some (.int .i64 sb)) (simp (maxDischargeDepth := 12) [go_sem, c1, c2, c3, c4, l1, l2])
          ((first
                | (go_at_call_of 9 (Value.int IntKind.i64 ua); refine (Oa _ (by repeat (first | assumption | exact Grew.refl _ | apply Grew.drew | apply Grew.drewN | apply Grew.alloc | apply Grew.more))).mono ?_; rintro e w' ⟨rfl, os, n, rfl⟩)
                | (go_at_call_of 9 (Value.int IntKind.i64 ub); refine (Ob _ (by repeat (first | assumption | exact Grew.refl _ | apply Grew.drew | apply Grew.drewN | apply Grew.alloc | apply Grew.more))).mono ?_; rintro e w' ⟨rfl, os, n, rfl⟩)
                | (go_at_call 8; refine (BA _ (by repeat (first | assumption | exact Grew.refl _ | apply Grew.drew | apply Grew.drewN | apply Grew.alloc | apply Grew.more))).mono ?_; rintro e w' ⟨rfl, os, n, rfl⟩))))
        | skip
        all_goals go_wp2_with fail
        all_goals go_meet
        all_goals exact ⟨rfl, by repeat (first | assumption | exact Grew.refl _ | apply Grew.drew | apply Grew.drewN | apply Grew.alloc | apply Grew.more)⟩
  rename World => w5
  obtain ⟨rfl, g'⟩ := hcut
  replace ha := ha.later g'
  replace hb := hb.later g'
  replace hc := hc.later g'
  replace g := g.trans g'
  clear g' c1 c2 c3 c4 c5 c6 l1 l2 l3
  obtain ⟨c1, c2⟩ := id ha
  have l1 := ha.lt
  obtain ⟨c3, c4⟩ := id hb
  have l2 := hb.lt
  obtain ⟨c5, c6⟩ := id hc
  have l3 := hc.lt
  go_upto_region 8 with fail
  go_cut [12, 13] from 14 (fun sx sy wx => ∃ p : Nat, sx = .pointer (some ⟨p, 0, none⟩) ∧ sy = .int .i64 ee ∧ Two wx p du ds ∧ Grew w5 wx)
  case first =>
    clear Nm K AB BC AC BA C1 C2 Ob Oc q1 q2 q3 q4 q5
    go_wp2_with (first
        | (go_at_call_of 9 (Value.int IntKind.i64 ua); refine (Oa _ (by repeat (first | assumption | exact Grew.refl _ | apply Grew.drew | apply Grew.drewN | apply Grew.alloc | apply Grew.more))).mono ?_; rintro e w' ⟨rfl, os, n, rfl⟩)
        | (go_at_call 10; refine (Rs _ (by repeat (first | assumption | exact Grew.refl _ | apply Grew.drew | apply Grew.drewN | apply Grew.alloc | apply Grew.more))).mono ?_; rintro e w' ⟨rfl, os, n, rfl⟩))
    all_goals go_meet
    all_goals exact ⟨_, rfl, rfl, ⟨by simp (maxDischargeDepth := 12) [go_sem], by simp (maxDischargeDepth := 12) [go_sem]⟩, by repeat (first | assumption | exact Grew.refl _ | apply Grew.drew | apply Grew.drewN | apply Grew.alloc | apply Grew.more)⟩
  rename World => w6
  obtain ⟨d, rfl, rfl, hd, g'⟩ := hcut
  replace ha := ha.later g'
  replace hb := hb.later g'
  replace g := g.trans g'
  clear g' c1 c2 c3 c4 c5 c6 l1 l2 l3 hc Rs AB BC AC BA Oc q1 q2 q3 q4 q5
  obtain ⟨c1, c2⟩ := id ha
  have l1 := ha.lt
  obtain ⟨c3, c4⟩ := id hb
  have l2 := hb.lt
  obtain ⟨c5, c6⟩ := id hd
  have l3 := hd.lt
  by_cases hee : ee = 0
  · subst hee
    by_cases hsc : scl < sa
    · clear C1 C2
      go_wp2_with (first | (go_at_call 11; refine (Nm _ _).mono ?_; rintro e w' ⟨rfl, rfl⟩) | (go_at_call 7; refine (K _ (by repeat (first | assumption | exact Grew.refl _ | apply Grew.drew | apply Grew.drewN | apply Grew.alloc | apply Grew.more))).mono ?_; rintro e w' ⟨rfl, os, n, rfl⟩))
      all_goals go_ret
      all_goals exact ⟨rfl, by repeat (first | assumption | exact Grew.refl _ | apply Grew.drew | apply Grew.drewN | apply Grew.alloc | apply Grew.more)⟩
    · replace C1 := C1 rfl (by omega)
      replace C2 := C2 rfl (by omega)
      go_upto_region 11 with (go_at_call 11; refine (Nm _ _).mono ?_; rintro e w' ⟨rfl, rfl⟩)
      go_region_held2 (fun W => W.cell? ⟨w.heap.size, 0, none⟩ = some (.int .i64 ua) ∧ W.cell? ⟨w.heap.size, 1, none⟩ = some (.int .i64 sa) ∧ W.cell? ⟨w.heap.size + 1, 0, none⟩ = some (.int .i64 ub) ∧ W.cell? ⟨w.heap.size + 1, 1, none⟩ = some (.int .i64 sb) ∧ W.cell? ⟨d, 0, none⟩ = some (.int .i64 du) ∧ W.cell? ⟨d, 1, none⟩ = some (.int .i64 ds)) (simp (maxDischargeDepth := 12) [go_sem, c1, c2, c3, c4, c5, c6, l1, l2, l3])
      ((first
        | (go_at_call_of 9 (Value.int IntKind.i64 ua); refine (Oa _ (by repeat (first | assumption | exact Grew.refl _ | apply Grew.drew | apply Grew.drewN | apply Grew.alloc | apply Grew.more))).mono ?_; rintro e w' ⟨rfl, os, n, rfl⟩)
        | (go_at_call_of 9 (Value.int IntKind.i64 ub); refine (Ob _ (by repeat (first | assumption | exact Grew.refl _ | apply Grew.drew | apply Grew.drewN | apply Grew.alloc | apply Grew.more))).mono ?_; rintro e w' ⟨rfl, os, n, rfl⟩)
        | (go_at_call_of 8 (dv ua sa); refine (C1 _ (by repeat (first | assumption | exact Grew.refl _ | apply Grew.drew | apply Grew.drewN | apply Grew.alloc | apply Grew.more))).mono ?_; rintro e w' ⟨rfl, os, n, rfl⟩)
        | (go_at_call 8; refine (C2 _ (by repeat (first | assumption | exact Grew.refl _ | apply Grew.drew | apply Grew.drewN | apply Grew.alloc | apply Grew.more))).mono ?_; rintro e w' ⟨rfl, os, n, rfl⟩)
        | (go_at_call 7; refine (K _ (by repeat (first | assumption | exact Grew.refl _ | apply Grew.drew | apply Grew.drewN | apply Grew.alloc | apply Grew.more))).mono ?_; rintro e w' ⟨rfl, os, n, rfl⟩)))
      all_goals go_wp2_with fail
      all_goals go_ret
      all_goals exact ⟨rfl, by repeat (first | assumption | exact Grew.refl _ | apply Grew.drew | apply Grew.drewN | apply Grew.alloc | apply Grew.more)⟩
  · clear C1 C2
    have heb : (ee == 0) = false := by simp [hee]
    go_wp2_with (first | (go_at_call 11; refine (Nm _ _).mono ?_; rintro e w' ⟨rfl, rfl⟩) | (go_at_call 7; refine (K _ (by repeat (first | assumption | exact Grew.refl _ | apply Grew.drew | apply Grew.drewN | apply Grew.alloc | apply Grew.more))).mono ?_; rintro e w' ⟨rfl, os, n, rfl⟩))
    all_goals go_ret
    all_goals exact ⟨rfl, by repeat (first | assumption | exact Grew.refl _ | apply Grew.drew | apply Grew.drewN | apply Grew.alloc | apply Grew.more)⟩
end Go.Proofs.YtfbkakchaabgeabDoor
