/-
  The document's Turn: for every point and every count.
-/
import Derived.Test.YtidknbdckdinlaaGRef1
import Derived.Test.YtidknbdckdinlaaGTurn
namespace Go.Proofs.Ytidknbdckdinlaa
open Go.RowKit
attribute [local go_sem] cell?_more frozen?_more setCell_more more_lt more_more more_drew more_drewN setCell_drewN alloc_drewN
attribute [local go_sem high] cellMA frozenMA setMA cellMAM frozenMAM setMAM cellMAA frozenMAA setMAA cellMAAM frozenMAAM setMAAM cellMAMA frozenMAMA setMAMA cellMAMAM frozenMAMAM setMAMAM cellMAMAMA frozenMAMAMA setMAMAMA cellMAMAMAM frozenMAMAMAM setMAMAMAM

theorem rturn_bad (x y n : Int) (w : World) (h : ok2 x y = false) : Calls Try.prog 29 #[pv x y, .int .i64 n] w fun e w' => e = .returned (pv 0 0) ∧ Grew w w' := by
  have R := fun W => rright_any x y W
  rw [h] at R
  clear h
  go_enter Try.func29, Try.ntmps29
  go_wp2_with (go_at_call 16; refine (R _).mono ?_; rintro e w' ⟨rfl, os, n, rfl⟩)
  refine bodyPost_ret_by (v := pv 0 0) ?_ rfl ⟨rfl, ?_⟩
  · simp [results, Try.results29, go_sem]
  · repeat (first | exact Grew.refl _ | apply Grew.drew | apply Grew.drewN | apply Grew.alloc | apply Grew.more)

theorem mod_four (n : Int) : ∃ t0 t1 : Int, n.tmod 4 = t0 ∧ IntKind.i64.wrap (t0 + 4) = t1 ∧ t1.tmod 4 = n % 4 := by
  refine ⟨_, n.tmod 4 + 4, rfl, ?_, ?_⟩
  · have h1 := Int.tmod_lt_of_pos n (b := 4) (by decide)
    have h2 := Int.lt_tmod_of_pos n (b := 4) (by decide)
    rw [IntKind.wrap_i64]; omega
  · have h1 := Int.tmod_lt_of_pos n (b := 4) (by decide)
    have h2 := Int.lt_tmod_of_pos n (b := 4) (by decide)
    have h3 := Int.mul_tdiv_add_tmod n 4
    rw [Int.tmod_eq_emod_of_nonneg (by omega)]
    omega

set_option maxHeartbeats 1000000 in
theorem rturn_good0 (x y n : Int) (w : World) (h : ok2 x y = true) (hk : n % 4 = 0) : Calls Try.prog 29 #[pv x y, .int .i64 n] w fun e w' => e = .returned (pv (x) (y)) ∧ Grew w w' := by
  have R := fun W => rright_any x y W
  rw [h] at R
  rw [ok2_iff] at h
  obtain ⟨t0, t1, f0, f1, f2⟩ := mod_four n
  rw [hk] at f2
  clear h hk
  go_enter Try.func29, Try.ntmps29
  go_wp2_with (go_at_call 16; refine (R _).mono ?_; rintro e w' ⟨rfl, os, n, rfl⟩)
  refine wp_loop_rounds 1 ?_
  rw [rounds_succ]
  go_wp2_with fail
  refine bodyPost_ret_by (v := pv (x) (y)) ?_ rfl ⟨rfl, ?_⟩
  · simp [results, Try.results29, go_sem]
  · repeat (first | exact Grew.refl _ | apply Grew.drew | apply Grew.drewN | apply Grew.alloc | apply Grew.more)

set_option maxHeartbeats 1000000 in
theorem rturn_good1 (x y n : Int) (w : World) (h : ok2 x y = true) (hk : n % 4 = 1) : Calls Try.prog 29 #[pv x y, .int .i64 n] w fun e w' => e = .returned (pv (-y) (x)) ∧ Grew w w' := by
  have R := fun W => rright_any x y W
  rw [h] at R
  rw [ok2_iff] at h
  obtain ⟨t0, t1, f0, f1, f2⟩ := mod_four n
  rw [hk] at f2
  have e0 : IntKind.i64.wrap (-y) = -y := by rw [IntKind.wrap_i64]; omega
  clear h hk
  go_enter Try.func29, Try.ntmps29
  go_wp2_with (go_at_call 16; refine (R _).mono ?_; rintro e w' ⟨rfl, os, n, rfl⟩)
  refine wp_loop_rounds 2 ?_
  rw [rounds_succ]
  go_wp2_with fail
  rw [rounds_succ]
  go_wp2_with fail
  refine bodyPost_ret_by (v := pv (-y) (x)) ?_ rfl ⟨rfl, ?_⟩
  · simp [results, Try.results29, go_sem]
  · repeat (first | exact Grew.refl _ | apply Grew.drew | apply Grew.drewN | apply Grew.alloc | apply Grew.more)

set_option maxHeartbeats 1000000 in
theorem rturn_good2 (x y n : Int) (w : World) (h : ok2 x y = true) (hk : n % 4 = 2) : Calls Try.prog 29 #[pv x y, .int .i64 n] w fun e w' => e = .returned (pv (-x) (-y)) ∧ Grew w w' := by
  have R := fun W => rright_any x y W
  rw [h] at R
  rw [ok2_iff] at h
  obtain ⟨t0, t1, f0, f1, f2⟩ := mod_four n
  rw [hk] at f2
  have e0 : IntKind.i64.wrap (-y) = -y := by rw [IntKind.wrap_i64]; omega
  have e1 : IntKind.i64.wrap (-x) = -x := by rw [IntKind.wrap_i64]; omega
  clear h hk
  go_enter Try.func29, Try.ntmps29
  go_wp2_with (go_at_call 16; refine (R _).mono ?_; rintro e w' ⟨rfl, os, n, rfl⟩)
  refine wp_loop_rounds 3 ?_
  rw [rounds_succ]
  go_wp2_with fail
  rw [rounds_succ]
  go_wp2_with fail
  rw [rounds_succ]
  go_wp2_with fail
  refine bodyPost_ret_by (v := pv (-x) (-y)) ?_ rfl ⟨rfl, ?_⟩
  · simp [results, Try.results29, go_sem]
  · repeat (first | exact Grew.refl _ | apply Grew.drew | apply Grew.drewN | apply Grew.alloc | apply Grew.more)

set_option maxHeartbeats 1000000 in
theorem rturn_good3 (x y n : Int) (w : World) (h : ok2 x y = true) (hk : n % 4 = 3) : Calls Try.prog 29 #[pv x y, .int .i64 n] w fun e w' => e = .returned (pv (y) (-x)) ∧ Grew w w' := by
  have R := fun W => rright_any x y W
  rw [h] at R
  rw [ok2_iff] at h
  obtain ⟨t0, t1, f0, f1, f2⟩ := mod_four n
  rw [hk] at f2
  have e0 : IntKind.i64.wrap (-y) = -y := by rw [IntKind.wrap_i64]; omega
  have e1 : IntKind.i64.wrap (-x) = -x := by rw [IntKind.wrap_i64]; omega
  have e2 : IntKind.i64.wrap (y) = y := by rw [IntKind.wrap_i64]; omega
  clear h hk
  go_enter Try.func29, Try.ntmps29
  go_wp2_with (go_at_call 16; refine (R _).mono ?_; rintro e w' ⟨rfl, os, n, rfl⟩)
  refine wp_loop_rounds 4 ?_
  rw [rounds_succ]
  go_wp2_with fail
  rw [rounds_succ]
  go_wp2_with fail
  rw [rounds_succ]
  go_wp2_with fail
  rw [rounds_succ]
  go_wp2_with fail
  refine bodyPost_ret_by (v := pv (y) (-x)) ?_ rfl ⟨rfl, ?_⟩
  · simp [results, Try.results29, go_sem]
  · repeat (first | exact Grew.refl _ | apply Grew.drew | apply Grew.drewN | apply Grew.alloc | apply Grew.more)

theorem rturn_good (x y n : Int) (w : World) (h : ok2 x y = true) : Calls Try.prog 29 #[pv x y, .int .i64 n] w fun e w' => e = .returned (pv (turnX x y n) (turnY x y n)) ∧ Grew w w' := by
  have hc : n % 4 = 0 ∨ n % 4 = 1 ∨ n % 4 = 2 ∨ n % 4 = 3 := by omega
  rcases hc with hk | hk | hk | hk
  · simpa [turnX, turnY, hk] using rturn_good0 x y n w h hk
  · simpa [turnX, turnY, hk] using rturn_good1 x y n w h hk
  · simpa [turnX, turnY, hk] using rturn_good2 x y n w h hk
  · simpa [turnX, turnY, hk] using rturn_good3 x y n w h hk
end Go.Proofs.Ytidknbdckdinlaa
