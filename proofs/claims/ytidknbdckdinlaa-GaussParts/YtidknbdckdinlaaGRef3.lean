/-
  The document's answers for points: Div and Turn: for every point.
-/
import Derived.Test.YtidknbdckdinlaaGRef2
import Derived.Test.YtidknbdckdinlaaGTurn
namespace Go.Proofs.Ytidknbdckdinlaa
open Go.RowKit
attribute [local go_sem] cell?_more frozen?_more setCell_more more_lt more_more more_drew more_drewN setCell_drewN alloc_drewN
attribute [local go_sem high] cellMA frozenMA setMA cellMAM frozenMAM setMAM cellMAA frozenMAA setMAA cellMAAM frozenMAAM setMAAM cellMAMA frozenMAMA setMAMA cellMAMAM frozenMAMAM setMAMAM cellMAMAMA frozenMAMAMA setMAMAMA cellMAMAMAM frozenMAMAMAM setMAMAMAM size_blank4

set_option maxHeartbeats 1000000 in
theorem rdiv_bad (x y u v : Int) (w : World) (hr : (ok2 x y && ok2 u v) = false) :
    Calls Try.prog 21 #[pv x y, pv u v] w fun e w' => e = .returned (.tuple #[pv 0 0, pv 0 0, .int .i64 1]) ∧ Grew w w' := by
  have Ra := fun W => rright_any x y W
  have Rb := fun W => rright_any u v W
  cases ha : ok2 x y
  · rw [ha] at Ra
    clear Rb hr ha
    go_enter Try.func21, Try.ntmps21
    go_wp2_with (go_at_call 16; refine (Ra _).mono ?_; rintro e w' ⟨rfl, os, n, rfl⟩)
    refine bodyPost_ret_by (v := .tuple #[pv 0 0, pv 0 0, .int .i64 1]) ?_ rfl ⟨rfl, ?_⟩
    · simp [results, Try.results21, go_sem]
    · repeat (first | exact Grew.refl _ | apply Grew.drew | apply Grew.drewN | apply Grew.alloc | apply Grew.more)
  · rw [ha] at Ra hr
    have hb : ok2 u v = false := by simpa using hr
    rw [hb] at Rb
    clear hb hr ha
    go_enter Try.func21, Try.ntmps21
    go_wp2_with fail
    refine (Ra _).mono ?_
    rintro e w' ⟨rfl, os, n, rfl⟩
    go_wp2_with fail
    refine (Rb _).mono ?_
    rintro e w' ⟨rfl, os', n', rfl⟩
    go_wp2
    refine bodyPost_ret_by (v := .tuple #[pv 0 0, pv 0 0, .int .i64 1]) ?_ rfl ⟨rfl, ?_⟩
    · simp [results, Try.results21, go_sem]
    · repeat (first | exact Grew.refl _ | apply Grew.drew | apply Grew.drewN | apply Grew.alloc | apply Grew.more)

set_option maxHeartbeats 1000000 in
theorem rdiv_zero (x y : Int) (w : World) (hr : ok2 x y = true) :
    Calls Try.prog 21 #[pv x y, pv 0 0] w fun e w' => e = .returned (.tuple #[pv 0 0, pv 0 0, .int .i64 33]) ∧ Grew w w' := by
  have Ra := fun W => rright_any x y W
  have Rb := fun W => rright_any 0 0 W
  have Nn : ∀ W, Calls Try.prog 27 #[pv 0 0] W fun e w' => e = .returned (.int .i64 0) ∧ Grew W w' := fun W => rnorm_any 0 0 W
  rw [hr] at Ra
  rw [show ok2 0 0 = true from rfl] at Rb
  clear hr
  go_enter Try.func21, Try.ntmps21
  go_wp2_with fail
  refine (Ra _).mono ?_
  rintro e w' ⟨rfl, os, n, rfl⟩
  go_wp2_with fail
  refine (Rb _).mono ?_
  rintro e w' ⟨rfl, os', n', rfl⟩
  go_wp2_with (go_at_call 27; refine (Nn _).mono ?_; rintro e w' ⟨rfl, os2, n2, rfl⟩)
  refine bodyPost_ret_by (v := .tuple #[pv 0 0, pv 0 0, .int .i64 33]) ?_ rfl ⟨rfl, ?_⟩
  · simp [results, Try.results21, go_sem]
  · repeat (first | exact Grew.refl _ | apply Grew.drew | apply Grew.drewN | apply Grew.alloc | apply Grew.more)

set_option maxHeartbeats 4000000 in
theorem rdiv_good (x y u v : Int) (w : World) (ha : ok2 x y = true) (hb : ok2 u v = true) (hn : 0 < u * u + v * v) :
    Calls Try.prog 21 #[pv x y, pv u v] w fun e w' => e = .returned (.tuple #[pv (qX x y u v) (qY x y u v), pv (rX x y u v) (rY x y u v), .int .i64 0]) ∧ Grew w w' := by
  have P := fun W => rparts_any x y u v W ha hb hn
  have Ra := fun W => rright_any x y W
  have Rb := fun W => rright_any u v W
  rw [ha] at Ra
  rw [hb] at Rb
  have Nn := fun W => rnorm_any u v W
  have hnn : ¬ nrm u v = 0 := by rw [show nrm u v = u * u + v * v by simp [nrm, hb]]; omega
  rw [ok2_iff] at ha hb
  have hq := quo_ok x y u v ⟨ha.1, ha.2.1⟩ ⟨ha.2.2.1, ha.2.2.2⟩ hn
  have hr := rest_ok x y u v ⟨hb.1, hb.2.1⟩ ⟨hb.2.2.1, hb.2.2.2⟩ hn
  have Rc := fun W => rright_any (qX x y u v) (qY x y u v) W
  have Rd := fun W => rright_any (rX x y u v) (rY x y u v) W
  rw [(ok2_iff _ _).2 ⟨hq.1.1, hq.1.2, hq.2.1, hq.2.2⟩] at Rc
  rw [(ok2_iff _ _).2 ⟨hr.1.1, hr.1.2, hr.2.1, hr.2.2⟩] at Rd
  generalize qX x y u v = c1 at *
  generalize qY x y u v = c2 at *
  generalize rX x y u v = r1 at *
  generalize rY x y u v = r2 at *
  generalize nrm u v = nn at *
  clear hq hr ha hb hn
  go_enter Try.func21, Try.ntmps21
  go_wp2_with fail
  refine (Ra _).mono ?_
  rintro e w' ⟨rfl, os, n, rfl⟩
  go_wp2_with fail
  refine (Rb _).mono ?_
  rintro e w' ⟨rfl, os', n', rfl⟩
  go_wp2_with (first
    | (go_at_call 27; refine (Nn _).mono ?_; rintro e w' ⟨rfl, os2, n2, rfl⟩)
    | (go_at_call 36; refine (P _).mono ?_; rintro e w' ⟨rfl, os3, n3, rfl⟩))
  refine (Rc _).mono ?_
  rintro e w' ⟨rfl, os4, n4, rfl⟩
  go_wp2_with fail
  refine (Rd _).mono ?_
  rintro e w' ⟨rfl, os5, n5, rfl⟩
  go_wp2_with fail
  go_region_held2 (fun W => W.cell? ⟨(more ((((w.alloc blank).alloc blank).alloc blank).alloc blank) (os ++ (os' ++ (os2 ++ os3)))).heap.size, 0, none⟩ = some (.int .i64 c1) ∧ W.cell? ⟨(more ((((w.alloc blank).alloc blank).alloc blank).alloc blank) (os ++ (os' ++ (os2 ++ os3)))).heap.size, 1, none⟩ = some (.int .i64 c2) ∧
    W.cell? ⟨(more ((((w.alloc blank).alloc blank).alloc blank).alloc blank) (os ++ (os' ++ (os2 ++ os3)))).heap.size + 1, 0, none⟩ = some (.int .i64 r1) ∧ W.cell? ⟨(more ((((w.alloc blank).alloc blank).alloc blank).alloc blank) (os ++ (os' ++ (os2 ++ os3)))).heap.size + 1, 1, none⟩ = some (.int .i64 r2)) (simp (maxDischargeDepth := 12) [go_sem]) (fail)
  all_goals go_wp2_with fail
  all_goals refine bodyPost_ret_by (v := .tuple #[pv c1 c2, pv r1 r2, .int .i64 0]) ?_ rfl ⟨rfl, ?_⟩
  all_goals first
    | (simp [results, Try.results21, go_sem]; done)
    | (repeat (first | exact Grew.refl _ | apply Grew.drew | apply Grew.drewN | apply Grew.alloc | apply Grew.more))
end Go.Proofs.Ytidknbdckdinlaa
