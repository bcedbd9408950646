/-
  The walk of DecimalBack over what its callees give.
-/
import Derived.Test.YtfbkakchaabgeaaDoorDGives
import Derived.Deep.CutRange
import Derived.Deep.RegionHeld2
import Derived.Deep.RegionWith
namespace Go.Proofs.YtfbkakchaabgeaaDoor
attribute [local go_sem] cell?_more frozen?_more setCell_more more_lt more_more more_drew more_drewN setCell_drewN alloc_drewN
attribute [local go_sem] undef

set_option maxRecDepth 10000 in
set_option maxHeartbeats 4000000 in
theorem back_core (u s xu xs xe yu ys ye : Int) (Tx Ty : ByteArray) (r : Bool) (w : World)
    (Oa : Gives 10 #[dv u s] w (dv u s)) (K : Gives 21 #[] w (.bool true))
    (Nm : ∀ (n : Int) (W : World), Calls Tryd.prog 36 #[.int .i64 n] W fun e w' => e = .returned (.int .i64 n) ∧ W = w')
    (Pr : Gives 30 #[dv u s] w (.string Tx)) (P1 : Gives 28 #[.string Tx] w (.tuple #[dv xu xs, .int .i64 xe]))
    (P2 : Gives 28 #[.string Ty] w (.tuple #[dv yu ys, .int .i64 ye])) (Rt : Gives 20 #[dv u s] w (.bool r))
    (Py : ye = 0 → Gives 30 #[dv yu ys] w (.string Ty)) (hx : r = true → xe = 0 ∧ xu = u ∧ xs = s) :
    Calls Tryd.prog 8 #[dv u s, .string Ty] w fun e w' => e = .returned (.bool true) ∧ Grew w w' := by
  go_enter Tryd.func8, Tryd.ntmps8
  go_upto_region 1 with fail
  have ha : Two (w.alloc (Obj.cells #[Value.int IntKind.i64 u, Value.int IntKind.i64 s] 23)) w.heap.size u s := ⟨by simp [go_sem], by simp [go_sem]⟩
  have g : Grew w (w.alloc (Obj.cells #[Value.int IntKind.i64 u, Value.int IntKind.i64 s] 23)) := (Grew.refl w).alloc _
  generalize w.alloc (Obj.cells #[Value.int IntKind.i64 u, Value.int IntKind.i64 s] 23) = w0 at *
  obtain ⟨c1, c2⟩ := id ha
  have l1 := ha.lt
  go_cut [5, 6] from 9 to 15 (fun sx sy wx => ∃ p : Nat, sx = .pointer (some ⟨p, 0, none⟩) ∧ sy = .int .i64 xe ∧ Two wx p xu xs ∧ Grew w0 wx)
  case first =>
    clear K Nm P2 Rt Py hx
    go_wp2_with (first
      | (go_at_call 10; refine (Oa _ (by repeat (first | assumption | exact Grew.refl _ | apply Grew.drew | apply Grew.drewN | apply Grew.alloc | apply Grew.more))).mono ?_; rintro e w' ⟨rfl, os, n, rfl⟩)
      | (go_at_call 30; refine (Pr _ (by repeat (first | assumption | exact Grew.refl _ | apply Grew.drew | apply Grew.drewN | apply Grew.alloc | apply Grew.more))).mono ?_; rintro e w' ⟨rfl, os, n, rfl⟩)
      | (go_at_call 28; refine (P1 _ (by repeat (first | assumption | exact Grew.refl _ | apply Grew.drew | apply Grew.drewN | apply Grew.alloc | apply Grew.more))).mono ?_; rintro e w' ⟨rfl, os, n, rfl⟩))
    all_goals go_meet
    all_goals exact ⟨_, rfl, rfl, ⟨by simp (maxDischargeDepth := 12) [go_sem], by simp (maxDischargeDepth := 12) [go_sem]⟩, by repeat (first | assumption | exact Grew.refl _ | apply Grew.drew | apply Grew.drewN | apply Grew.alloc | apply Grew.more)⟩
  rename World => w1
  obtain ⟨p, rfl, rfl, hp, g'⟩ := hcut
  replace ha := ha.later g'
  replace g := g.trans g'
  clear g' c1 c2 l1 Pr P1
  obtain ⟨c1, c2⟩ := id ha
  have l1 := ha.lt
  obtain ⟨d1, d2⟩ := id hp
  have k1 := hp.lt
  go_upto_region 2 with fail
  go_cut [7, 8] from 16 to 20 (fun sx sy wx => ∃ p : Nat, sx = .pointer (some ⟨p, 0, none⟩) ∧ sy = .int .i64 ye ∧ Two wx p yu ys ∧ Grew w1 wx)
  case first =>
    clear K Nm Rt Py hx Oa
    go_wp2_with (go_at_call 28; refine (P2 _ (by repeat (first | assumption | exact Grew.refl _ | apply Grew.drew | apply Grew.drewN | apply Grew.alloc | apply Grew.more))).mono ?_; rintro e w' ⟨rfl, os, n, rfl⟩)
    all_goals go_meet
    all_goals exact ⟨_, rfl, rfl, ⟨by simp (maxDischargeDepth := 12) [go_sem], by simp (maxDischargeDepth := 12) [go_sem]⟩, by repeat (first | assumption | exact Grew.refl _ | apply Grew.drew | apply Grew.drewN | apply Grew.alloc | apply Grew.more)⟩
  rename World => w2
  obtain ⟨q, rfl, rfl, hq, g'⟩ := hcut
  replace ha := ha.later g'
  replace hp := hp.later g'
  replace g := g.trans g'
  clear g' c1 c2 l1 d1 d2 k1 P2
  obtain ⟨c1, c2⟩ := id ha
  have l1 := ha.lt
  obtain ⟨d1, d2⟩ := id hp
  have k1 := hp.lt
  obtain ⟨d3, d4⟩ := id hq
  have k2 := hq.lt
  go_upto_region 3 with fail
  go_cut [33] from 21 to 33 (fun sx wx => sx = .bool false ∧ Grew w2 wx)
  case first =>
    clear K Py
    cases r
    · clear hx Oa Nm
      first
      | (go_region_with (go_at_call 20; refine (Rt _ (by repeat (first | assumption | exact Grew.refl _ | apply Grew.drew | apply Grew.drewN | apply Grew.alloc | apply Grew.more))).mono ?_; rintro e w' ⟨rfl, os, n, rfl⟩))
      | skip
      all_goals go_wp2_with fail
      all_goals go_meet
      all_goals exact ⟨rfl, by repeat (first | assumption | exact Grew.refl _ | apply Grew.drew | apply Grew.drewN | apply Grew.alloc | apply Grew.more)⟩
    · obtain ⟨rfl, rfl, rfl⟩ := hx rfl
      clear hx
      go_region_held2 (fun W => W.cell? ⟨w.heap.size, 0, none⟩ = some (.int .i64 xu) ∧ W.cell? ⟨w.heap.size, 1, none⟩ = some (.int .i64 xs) ∧ W.cell? ⟨p, 0, none⟩ = some (.int .i64 xu) ∧ W.cell? ⟨p, 1, none⟩ = some (.int .i64 xs)) (simp (maxDischargeDepth := 12) [go_sem, c1, c2, l1, d1, d2, k1])
        ((first
          | (go_at_call 20; refine (Rt _ (by repeat (first | assumption | exact Grew.refl _ | apply Grew.drew | apply Grew.drewN | apply Grew.alloc | apply Grew.more))).mono ?_; rintro e w' ⟨rfl, os, n, rfl⟩)
          | (go_at_call 36; refine (Nm _ _).mono ?_; rintro e w' ⟨rfl, rfl⟩)
          | (go_at_call 10; refine (Oa _ (by repeat (first | assumption | exact Grew.refl _ | apply Grew.drew | apply Grew.drewN | apply Grew.alloc | apply Grew.more))).mono ?_; rintro e w' ⟨rfl, os, n, rfl⟩)))
      all_goals go_wp2_with fail
      all_goals go_meet
      all_goals exact ⟨rfl, by repeat (first | assumption | exact Grew.refl _ | apply Grew.drew | apply Grew.drewN | apply Grew.alloc | apply Grew.more)⟩
  rename World => w3
  obtain ⟨rfl, g'⟩ := hcut
  replace hq := hq.later g'
  replace g := g.trans g'
  clear g' c1 c2 l1 d1 d2 k1 d3 d4 k2 hx Oa Rt ha hp
  obtain ⟨d3, d4⟩ := id hq
  have k2 := hq.lt
  by_cases hy : ye = 0
  · replace Py := Py hy
    subst hy
    go_wp2_with (first
      | (go_at_call 36; refine (Nm _ _).mono ?_; rintro e w' ⟨rfl, rfl⟩)
      | (go_at_call 30; refine (Py _ (by repeat (first | assumption | exact Grew.refl _ | apply Grew.drew | apply Grew.drewN | apply Grew.alloc | apply Grew.more))).mono ?_; rintro e w' ⟨rfl, os, n, rfl⟩)
      | (go_at_call 21; refine (K _ (by repeat (first | assumption | exact Grew.refl _ | apply Grew.drew | apply Grew.drewN | apply Grew.alloc | apply Grew.more))).mono ?_; rintro e w' ⟨rfl, os, n, rfl⟩))
    all_goals go_ret
    all_goals exact ⟨rfl, by repeat (first | assumption | exact Grew.refl _ | apply Grew.drew | apply Grew.drewN | apply Grew.alloc | apply Grew.more)⟩
  · clear Py
    go_wp2_with (first
      | (go_at_call 36; refine (Nm _ _).mono ?_; rintro e w' ⟨rfl, rfl⟩)
      | (go_at_call 21; refine (K _ (by repeat (first | assumption | exact Grew.refl _ | apply Grew.drew | apply Grew.drewN | apply Grew.alloc | apply Grew.more))).mono ?_; rintro e w' ⟨rfl, os, n, rfl⟩))
    all_goals go_ret
    all_goals exact ⟨rfl, by repeat (first | assumption | exact Grew.refl _ | apply Grew.drew | apply Grew.drewN | apply Grew.alloc | apply Grew.more)⟩
end Go.Proofs.YtfbkakchaabgeaaDoor
