/-
  The document's answers for points: Right, answer, Add, Sub, Mul, Norm, Conj: for every point.
  The document's Turn: for every point and every count.
-/
import Derived.Test.YtnpdecbgakgbgaaGreatDoorMAHDiv2
import Derived.Test.YtnpdecbgakgbgaaGreatDoorMFQUn
namespace Go.Proofs.YtnpdecbgakgbgaaGreatDoor.Ga
open Go.RowKit
attribute [local go_sem] cell?_more frozen?_more setCell_more more_lt more_more more_drew more_drewN setCell_drewN alloc_drewN
attribute [local go_sem high] cellMA frozenMA setMA cellMAM frozenMAM setMAM cellMAA frozenMAA setMAA cellMAAM frozenMAAM setMAAM cellMAMA frozenMAMA setMAMA cellMAMAM frozenMAMAM setMAMAM cellMAMAMA frozenMAMAMA setMAMAMA cellMAMAMAM frozenMAMAMAM setMAMAMAM

theorem rright_any (x y : Int) (w : World) : Calls Tryz.prog 75 #[pv x y] w fun e w' => e = .returned (.bool (ok2 x y)) ∧ Grew w w' := by
  by_cases h1 : -1048576 ≤ x
  · by_cases h2 : x ≤ 1048576
    · by_cases h3 : -1048576 ≤ y
      · by_cases h4 : y ≤ 1048576
        · have hr : ok2 x y = true := by simp [ok2, h1, h2, h3, h4]
          rw [hr]
          go_enter Tryz.func75, Tryz.ntmps75
          go_wp2
          all_goals go_ret
          all_goals exact ⟨rfl, by repeat (first | exact Grew.refl _ | apply Grew.drew | apply Grew.drewN | apply Grew.alloc | apply Grew.more)⟩
        · have hr : ok2 x y = false := by simp [ok2, h4]
          rw [hr]
          go_enter Tryz.func75, Tryz.ntmps75
          go_wp2
          all_goals go_ret
          all_goals exact ⟨rfl, by repeat (first | exact Grew.refl _ | apply Grew.drew | apply Grew.drewN | apply Grew.alloc | apply Grew.more)⟩
      · have hr : ok2 x y = false := by simp [ok2, h3]
        rw [hr]
        go_enter Tryz.func75, Tryz.ntmps75
        go_wp2
        all_goals go_ret
        all_goals exact ⟨rfl, by repeat (first | exact Grew.refl _ | apply Grew.drew | apply Grew.drewN | apply Grew.alloc | apply Grew.more)⟩
    · have hr : ok2 x y = false := by simp [ok2, h2]
      rw [hr]
      go_enter Tryz.func75, Tryz.ntmps75
      go_wp2
      all_goals go_ret
      all_goals exact ⟨rfl, by repeat (first | exact Grew.refl _ | apply Grew.drew | apply Grew.drewN | apply Grew.alloc | apply Grew.more)⟩
  · have hr : ok2 x y = false := by simp [ok2, h1]
    rw [hr]
    go_enter Tryz.func75, Tryz.ntmps75
    go_wp2
    all_goals go_ret
    all_goals exact ⟨rfl, by repeat (first | exact Grew.refl _ | apply Grew.drew | apply Grew.drewN | apply Grew.alloc | apply Grew.more)⟩

theorem answer_any (x y : Int) (w : World) : Calls Tryz.prog 216 #[pv x y] w fun e w' => e = .returned (tv x y) ∧ Grew w w' := by
  have R := fun W => rright_any x y W
  by_cases h : ok2 x y = true
  · have e1 : tX x y = x := by simp [tX, h]
    have e2 : tY x y = y := by simp [tY, h]
    have e3 : tE x y = 0 := by simp [tE, h]
    unfold tv
    rw [e1, e2, e3]
    rw [h] at R
    clear e1 e2 e3 h
    go_enter Tryz.func216, Tryz.ntmps216
    go_wp2_with (go_at_call 75; refine (R _).mono ?_; rintro e w' ⟨rfl, os2, n2, rfl⟩)
    refine bodyPost_ret_by (v := .tuple #[pv x y, .int .i64 0]) ?_ rfl ⟨rfl, ?_⟩
    · simp [results, Tryz.results216, go_sem]
    · repeat (first | exact Grew.refl _ | apply Grew.drew | apply Grew.drewN | apply Grew.alloc | apply Grew.more)
  · have h' : ok2 x y = false := by simpa using h
    have e1 : tX x y = 0 := by simp [tX, h']
    have e2 : tY x y = 0 := by simp [tY, h']
    have e3 : tE x y = 32 := by simp [tE, h']
    unfold tv
    rw [e1, e2, e3]
    rw [h'] at R
    clear e1 e2 e3 h h'
    go_enter Tryz.func216, Tryz.ntmps216
    go_wp2_with (go_at_call 75; refine (R _).mono ?_; rintro e w' ⟨rfl, os2, n2, rfl⟩)
    refine bodyPost_ret_by (v := .tuple #[pv 0 0, .int .i64 32]) ?_ rfl ⟨rfl, ?_⟩
    · simp [results, Tryz.results216, go_sem]
    · repeat (first | exact Grew.refl _ | apply Grew.drew | apply Grew.drewN | apply Grew.alloc | apply Grew.more)

set_option maxHeartbeats 1000000 in
theorem radd_bad (x y u v : Int) (w : World) (hr : (ok2 x y && ok2 u v) = false) :
    Calls Tryz.prog 182 #[pv x y, pv u v] w fun e w' => e = .returned (.tuple #[pv 0 0, .int .i64 1]) ∧ Grew w w' := by
  have Ra := fun W => rright_any x y W
  have Rb := fun W => rright_any u v W
  cases ha : ok2 x y
  · rw [ha] at Ra
    clear Rb hr ha
    go_enter Tryz.func182, Tryz.ntmps182
    go_wp2_with (go_at_call 75; refine (Ra _).mono ?_; rintro e w' ⟨rfl, os, n, rfl⟩)
    refine bodyPost_ret_by (v := .tuple #[pv 0 0, .int .i64 1]) ?_ rfl ⟨rfl, ?_⟩
    · simp [results, Tryz.results182, go_sem]
    · repeat (first | exact Grew.refl _ | apply Grew.drew | apply Grew.drewN | apply Grew.alloc | apply Grew.more)
  · rw [ha] at Ra hr
    have hb : ok2 u v = false := by simpa using hr
    rw [hb] at Rb
    clear hb hr ha
    go_enter Tryz.func182, Tryz.ntmps182
    go_wp2_with fail
    refine (Ra _).mono ?_
    rintro e w' ⟨rfl, os, n, rfl⟩
    go_wp2_with fail
    refine (Rb _).mono ?_
    rintro e w' ⟨rfl, os', n', rfl⟩
    go_wp2
    refine bodyPost_ret_by (v := .tuple #[pv 0 0, .int .i64 1]) ?_ rfl ⟨rfl, ?_⟩
    · simp [results, Tryz.results182, go_sem]
    · repeat (first | exact Grew.refl _ | apply Grew.drew | apply Grew.drewN | apply Grew.alloc | apply Grew.more)

set_option maxHeartbeats 2000000 in
theorem radd_good (x y u v : Int) (w : World) (ha : ok2 x y = true) (hb : ok2 u v = true) :
    Calls Tryz.prog 182 #[pv x y, pv u v] w fun e w' => e = .returned (tv (x + u) (y + v)) ∧ Grew w w' := by
  have Ra := fun W => rright_any x y W
  have Rb := fun W => rright_any u v W
  rw [ha] at Ra
  rw [hb] at Rb
  rw [ok2_iff] at ha hb
  have m1 := mul_bd (A := 1048576) (B := 1048576) (by decide) ha.1 ha.2.1 hb.1 hb.2.1
  have m2 := mul_bd (A := 1048576) (B := 1048576) (by decide) ha.2.2.1 ha.2.2.2 hb.2.2.1 hb.2.2.2
  have m3 := mul_bd (A := 1048576) (B := 1048576) (by decide) ha.1 ha.2.1 hb.2.2.1 hb.2.2.2
  have m4 := mul_bd (A := 1048576) (B := 1048576) (by decide) ha.2.2.1 ha.2.2.2 hb.1 hb.2.1
  have T := fun W => answer_any (x + u) (y + v) W
  have e0 : IntKind.i64.wrap (x + u) = x + u := by rw [IntKind.wrap_i64]; omega
  have e1 : IntKind.i64.wrap (y + v) = y + v := by rw [IntKind.wrap_i64]; omega
  unfold tv at T ⊢
  generalize tX (x + u) (y + v) = X at *
  generalize tY (x + u) (y + v) = Y at *
  generalize tE (x + u) (y + v) = E at *
  clear m1 m2 m3 m4 ha hb
  go_enter Tryz.func182, Tryz.ntmps182
  go_wp2_with fail
  refine (Ra _).mono ?_
  rintro e w' ⟨rfl, os, n, rfl⟩
  go_wp2_with fail
  refine (Rb _).mono ?_
  rintro e w' ⟨rfl, os', n', rfl⟩
  go_wp2_with (go_at_call 216; refine (T _).mono ?_; rintro e w' ⟨rfl, os3, n3, rfl⟩)
  refine bodyPost_ret_by (v := .tuple #[pv X Y, .int .i64 E]) ?_ rfl ⟨rfl, ?_⟩
  · simp [results, Tryz.results182, go_sem]
  · repeat (first | exact Grew.refl _ | apply Grew.drew | apply Grew.drewN | apply Grew.alloc | apply Grew.more)

set_option maxHeartbeats 1000000 in
theorem rsub_bad (x y u v : Int) (w : World) (hr : (ok2 x y && ok2 u v) = false) :
    Calls Tryz.prog 183 #[pv x y, pv u v] w fun e w' => e = .returned (.tuple #[pv 0 0, .int .i64 1]) ∧ Grew w w' := by
  have Ra := fun W => rright_any x y W
  have Rb := fun W => rright_any u v W
  cases ha : ok2 x y
  · rw [ha] at Ra
    clear Rb hr ha
    go_enter Tryz.func183, Tryz.ntmps183
    go_wp2_with (go_at_call 75; refine (Ra _).mono ?_; rintro e w' ⟨rfl, os, n, rfl⟩)
    refine bodyPost_ret_by (v := .tuple #[pv 0 0, .int .i64 1]) ?_ rfl ⟨rfl, ?_⟩
    · simp [results, Tryz.results183, go_sem]
    · repeat (first | exact Grew.refl _ | apply Grew.drew | apply Grew.drewN | apply Grew.alloc | apply Grew.more)
  · rw [ha] at Ra hr
    have hb : ok2 u v = false := by simpa using hr
    rw [hb] at Rb
    clear hb hr ha
    go_enter Tryz.func183, Tryz.ntmps183
    go_wp2_with fail
    refine (Ra _).mono ?_
    rintro e w' ⟨rfl, os, n, rfl⟩
    go_wp2_with fail
    refine (Rb _).mono ?_
    rintro e w' ⟨rfl, os', n', rfl⟩
    go_wp2
    refine bodyPost_ret_by (v := .tuple #[pv 0 0, .int .i64 1]) ?_ rfl ⟨rfl, ?_⟩
    · simp [results, Tryz.results183, go_sem]
    · repeat (first | exact Grew.refl _ | apply Grew.drew | apply Grew.drewN | apply Grew.alloc | apply Grew.more)

set_option maxHeartbeats 2000000 in
theorem rsub_good (x y u v : Int) (w : World) (ha : ok2 x y = true) (hb : ok2 u v = true) :
    Calls Tryz.prog 183 #[pv x y, pv u v] w fun e w' => e = .returned (tv (x - u) (y - v)) ∧ Grew w w' := by
  have Ra := fun W => rright_any x y W
  have Rb := fun W => rright_any u v W
  rw [ha] at Ra
  rw [hb] at Rb
  rw [ok2_iff] at ha hb
  have m1 := mul_bd (A := 1048576) (B := 1048576) (by decide) ha.1 ha.2.1 hb.1 hb.2.1
  have m2 := mul_bd (A := 1048576) (B := 1048576) (by decide) ha.2.2.1 ha.2.2.2 hb.2.2.1 hb.2.2.2
  have m3 := mul_bd (A := 1048576) (B := 1048576) (by decide) ha.1 ha.2.1 hb.2.2.1 hb.2.2.2
  have m4 := mul_bd (A := 1048576) (B := 1048576) (by decide) ha.2.2.1 ha.2.2.2 hb.1 hb.2.1
  have T := fun W => answer_any (x - u) (y - v) W
  have e0 : IntKind.i64.wrap (x - u) = x - u := by rw [IntKind.wrap_i64]; omega
  have e1 : IntKind.i64.wrap (y - v) = y - v := by rw [IntKind.wrap_i64]; omega
  unfold tv at T ⊢
  generalize tX (x - u) (y - v) = X at *
  generalize tY (x - u) (y - v) = Y at *
  generalize tE (x - u) (y - v) = E at *
  clear m1 m2 m3 m4 ha hb
  go_enter Tryz.func183, Tryz.ntmps183
  go_wp2_with fail
  refine (Ra _).mono ?_
  rintro e w' ⟨rfl, os, n, rfl⟩
  go_wp2_with fail
  refine (Rb _).mono ?_
  rintro e w' ⟨rfl, os', n', rfl⟩
  go_wp2_with (go_at_call 216; refine (T _).mono ?_; rintro e w' ⟨rfl, os3, n3, rfl⟩)
  refine bodyPost_ret_by (v := .tuple #[pv X Y, .int .i64 E]) ?_ rfl ⟨rfl, ?_⟩
  · simp [results, Tryz.results183, go_sem]
  · repeat (first | exact Grew.refl _ | apply Grew.drew | apply Grew.drewN | apply Grew.alloc | apply Grew.more)

set_option maxHeartbeats 1000000 in
theorem rmul_bad (x y u v : Int) (w : World) (hr : (ok2 x y && ok2 u v) = false) :
    Calls Tryz.prog 181 #[pv x y, pv u v] w fun e w' => e = .returned (.tuple #[pv 0 0, .int .i64 1]) ∧ Grew w w' := by
  have Ra := fun W => rright_any x y W
  have Rb := fun W => rright_any u v W
  cases ha : ok2 x y
  · rw [ha] at Ra
    clear Rb hr ha
    go_enter Tryz.func181, Tryz.ntmps181
    go_wp2_with (go_at_call 75; refine (Ra _).mono ?_; rintro e w' ⟨rfl, os, n, rfl⟩)
    refine bodyPost_ret_by (v := .tuple #[pv 0 0, .int .i64 1]) ?_ rfl ⟨rfl, ?_⟩
    · simp [results, Tryz.results181, go_sem]
    · repeat (first | exact Grew.refl _ | apply Grew.drew | apply Grew.drewN | apply Grew.alloc | apply Grew.more)
  · rw [ha] at Ra hr
    have hb : ok2 u v = false := by simpa using hr
    rw [hb] at Rb
    clear hb hr ha
    go_enter Tryz.func181, Tryz.ntmps181
    go_wp2_with fail
    refine (Ra _).mono ?_
    rintro e w' ⟨rfl, os, n, rfl⟩
    go_wp2_with fail
    refine (Rb _).mono ?_
    rintro e w' ⟨rfl, os', n', rfl⟩
    go_wp2
    refine bodyPost_ret_by (v := .tuple #[pv 0 0, .int .i64 1]) ?_ rfl ⟨rfl, ?_⟩
    · simp [results, Tryz.results181, go_sem]
    · repeat (first | exact Grew.refl _ | apply Grew.drew | apply Grew.drewN | apply Grew.alloc | apply Grew.more)

set_option maxHeartbeats 2000000 in
theorem rmul_good (x y u v : Int) (w : World) (ha : ok2 x y = true) (hb : ok2 u v = true) :
    Calls Tryz.prog 181 #[pv x y, pv u v] w fun e w' => e = .returned (tv (x * u - y * v) (x * v + y * u)) ∧ Grew w w' := by
  have Ra := fun W => rright_any x y W
  have Rb := fun W => rright_any u v W
  rw [ha] at Ra
  rw [hb] at Rb
  rw [ok2_iff] at ha hb
  have m1 := mul_bd (A := 1048576) (B := 1048576) (by decide) ha.1 ha.2.1 hb.1 hb.2.1
  have m2 := mul_bd (A := 1048576) (B := 1048576) (by decide) ha.2.2.1 ha.2.2.2 hb.2.2.1 hb.2.2.2
  have m3 := mul_bd (A := 1048576) (B := 1048576) (by decide) ha.1 ha.2.1 hb.2.2.1 hb.2.2.2
  have m4 := mul_bd (A := 1048576) (B := 1048576) (by decide) ha.2.2.1 ha.2.2.2 hb.1 hb.2.1
  have T := fun W => answer_any (x * u - y * v) (x * v + y * u) W
  have e0 : IntKind.i64.wrap (x * u) = x * u := by rw [IntKind.wrap_i64]; omega
  have e1 : IntKind.i64.wrap (y * v) = y * v := by rw [IntKind.wrap_i64]; omega
  have e2 : IntKind.i64.wrap (x * v) = x * v := by rw [IntKind.wrap_i64]; omega
  have e3 : IntKind.i64.wrap (y * u) = y * u := by rw [IntKind.wrap_i64]; omega
  have e4 : IntKind.i64.wrap (x * u - y * v) = x * u - y * v := by rw [IntKind.wrap_i64]; omega
  have e5 : IntKind.i64.wrap (x * v + y * u) = x * v + y * u := by rw [IntKind.wrap_i64]; omega
  unfold tv at T ⊢
  generalize tX (x * u - y * v) (x * v + y * u) = X at *
  generalize tY (x * u - y * v) (x * v + y * u) = Y at *
  generalize tE (x * u - y * v) (x * v + y * u) = E at *
  clear m1 m2 m3 m4 ha hb
  go_enter Tryz.func181, Tryz.ntmps181
  go_wp2_with fail
  refine (Ra _).mono ?_
  rintro e w' ⟨rfl, os, n, rfl⟩
  go_wp2_with fail
  refine (Rb _).mono ?_
  rintro e w' ⟨rfl, os', n', rfl⟩
  go_wp2_with (go_at_call 216; refine (T _).mono ?_; rintro e w' ⟨rfl, os3, n3, rfl⟩)
  refine bodyPost_ret_by (v := .tuple #[pv X Y, .int .i64 E]) ?_ rfl ⟨rfl, ?_⟩
  · simp [results, Tryz.results181, go_sem]
  · repeat (first | exact Grew.refl _ | apply Grew.drew | apply Grew.drewN | apply Grew.alloc | apply Grew.more)

theorem rnorm_any (x y : Int) (w : World) : Calls Tryz.prog 74 #[pv x y] w fun e w' => e = .returned (.int .i64 (nrm x y)) ∧ Grew w w' := by
  have R := fun W => rright_any x y W
  by_cases h : ok2 x y = true
  · rw [h] at R
    have e1 : nrm x y = x * x + y * y := by simp [nrm, h]
    rw [e1]
    rw [ok2_iff] at h
    have m1 := mul_bd (A := 1048576) (B := 1048576) (by decide) h.1 h.2.1 h.1 h.2.1
    have m2 := mul_bd (A := 1048576) (B := 1048576) (by decide) h.2.2.1 h.2.2.2 h.2.2.1 h.2.2.2
    have e2 : IntKind.i64.wrap (x * x) = x * x := by rw [IntKind.wrap_i64]; omega
    have e3 : IntKind.i64.wrap (y * y) = y * y := by rw [IntKind.wrap_i64]; omega
    have e4 : IntKind.i64.wrap (x * x + y * y) = x * x + y * y := by rw [IntKind.wrap_i64]; omega
    clear m1 m2 h e1
    go_enter Tryz.func74, Tryz.ntmps74
    go_wp2_with (go_at_call 75; refine (R _).mono ?_; rintro e w' ⟨rfl, os, n, rfl⟩)
    all_goals go_ret
    all_goals exact ⟨rfl, by repeat (first | exact Grew.refl _ | apply Grew.drew | apply Grew.drewN | apply Grew.alloc | apply Grew.more)⟩
  · have h' : ok2 x y = false := by simpa using h
    have e1 : nrm x y = 0 := by simp [nrm, h']
    rw [e1]
    rw [h'] at R
    clear h h' e1
    go_enter Tryz.func74, Tryz.ntmps74
    go_wp2_with (go_at_call 75; refine (R _).mono ?_; rintro e w' ⟨rfl, os, n, rfl⟩)
    all_goals go_ret
    all_goals exact ⟨rfl, by repeat (first | exact Grew.refl _ | apply Grew.drew | apply Grew.drewN | apply Grew.alloc | apply Grew.more)⟩

end Go.Proofs.YtnpdecbgakgbgaaGreatDoor.Ga

namespace Go.Proofs.YtnpdecbgakgbgaaGreatDoor.Ga
open Go.RowKit
attribute [local go_sem] cell?_more frozen?_more setCell_more more_lt more_more more_drew more_drewN setCell_drewN alloc_drewN
attribute [local go_sem high] cellMA frozenMA setMA cellMAM frozenMAM setMAM cellMAA frozenMAA setMAA cellMAAM frozenMAAM setMAAM cellMAMA frozenMAMA setMAMA cellMAMAM frozenMAMAM setMAMAM cellMAMAMA frozenMAMAMA setMAMAMA cellMAMAMAM frozenMAMAMAM setMAMAMAM

theorem rturn_bad (x y n : Int) (w : World) (h : ok2 x y = false) : Calls Tryz.prog 48 #[pv x y, .int .i64 n] w fun e w' => e = .returned (pv 0 0) ∧ Grew w w' := by
  have R := fun W => rright_any x y W
  rw [h] at R
  clear h
  go_enter Tryz.func48, Tryz.ntmps48
  go_wp2_with (go_at_call 75; refine (R _).mono ?_; rintro e w' ⟨rfl, os, n, rfl⟩)
  refine bodyPost_ret_by (v := pv 0 0) ?_ rfl ⟨rfl, ?_⟩
  · simp [results, Tryz.results48, go_sem]
  · repeat (first | exact Grew.refl _ | apply Grew.drew | apply Grew.drewN | apply Grew.alloc | apply Grew.more)

theorem mod_four (n : Int) : ∃ t0 t1 : Int, n.tmod 4 = t0 ∧ IntKind.i64.wrap (t0 + 4) = t1 ∧ t1.tmod 4 = n % 4 := by
  refine ⟨_, n.tmod 4 + 4, rfl, ?_, ?_⟩
  · have h1 := Int.tmod_lt_of_pos n (b := 4) (by decide)
    have h2 := Int.lt_tmod_of_pos n (b := 4) (by decide)
    rw [IntKind.wrap_i64]; omega
  · have h1 := Int.tmod_lt_of_pos n (b := 4) (by decide)
    have h2 := Int.lt_tmod_of_pos n (b := 4) (by decide)
    have h3 := Int.mul_tdiv_add_tmod n 4
    rw [Int.tmod_eq_emod_of_nonneg (by omega)]
    omega

set_option maxHeartbeats 1000000 in
theorem rturn_good0 (x y n : Int) (w : World) (h : ok2 x y = true) (hk : n % 4 = 0) : Calls Tryz.prog 48 #[pv x y, .int .i64 n] w fun e w' => e = .returned (pv (x) (y)) ∧ Grew w w' := by
  have R := fun W => rright_any x y W
  rw [h] at R
  rw [ok2_iff] at h
  obtain ⟨t0, t1, f0, f1, f2⟩ := mod_four n
  rw [hk] at f2
  clear h hk
  go_enter Tryz.func48, Tryz.ntmps48
  go_wp2_with (go_at_call 75; refine (R _).mono ?_; rintro e w' ⟨rfl, os, n, rfl⟩)
  refine wp_loop_rounds 1 ?_
  rw [rounds_succ]
  go_wp2_with fail
  refine bodyPost_ret_by (v := pv (x) (y)) ?_ rfl ⟨rfl, ?_⟩
  · simp [results, Tryz.results48, go_sem]
  · repeat (first | exact Grew.refl _ | apply Grew.drew | apply Grew.drewN | apply Grew.alloc | apply Grew.more)

set_option maxHeartbeats 1000000 in
theorem rturn_good1 (x y n : Int) (w : World) (h : ok2 x y = true) (hk : n % 4 = 1) : Calls Tryz.prog 48 #[pv x y, .int .i64 n] w fun e w' => e = .returned (pv (-y) (x)) ∧ Grew w w' := by
  have R := fun W => rright_any x y W
  rw [h] at R
  rw [ok2_iff] at h
  obtain ⟨t0, t1, f0, f1, f2⟩ := mod_four n
  rw [hk] at f2
  have e0 : IntKind.i64.wrap (-y) = -y := by rw [IntKind.wrap_i64]; omega
  clear h hk
  go_enter Tryz.func48, Tryz.ntmps48
  go_wp2_with (go_at_call 75; refine (R _).mono ?_; rintro e w' ⟨rfl, os, n, rfl⟩)
  refine wp_loop_rounds 2 ?_
  rw [rounds_succ]
  go_wp2_with fail
  rw [rounds_succ]
  go_wp2_with fail
  refine bodyPost_ret_by (v := pv (-y) (x)) ?_ rfl ⟨rfl, ?_⟩
  · simp [results, Tryz.results48, go_sem]
  · repeat (first | exact Grew.refl _ | apply Grew.drew | apply Grew.drewN | apply Grew.alloc | apply Grew.more)

set_option maxHeartbeats 1000000 in
theorem rturn_good2 (x y n : Int) (w : World) (h : ok2 x y = true) (hk : n % 4 = 2) : Calls Tryz.prog 48 #[pv x y, .int .i64 n] w fun e w' => e = .returned (pv (-x) (-y)) ∧ Grew w w' := by
  have R := fun W => rright_any x y W
  rw [h] at R
  rw [ok2_iff] at h
  obtain ⟨t0, t1, f0, f1, f2⟩ := mod_four n
  rw [hk] at f2
  have e0 : IntKind.i64.wrap (-y) = -y := by rw [IntKind.wrap_i64]; omega
  have e1 : IntKind.i64.wrap (-x) = -x := by rw [IntKind.wrap_i64]; omega
  clear h hk
  go_enter Tryz.func48, Tryz.ntmps48
  go_wp2_with (go_at_call 75; refine (R _).mono ?_; rintro e w' ⟨rfl, os, n, rfl⟩)
  refine wp_loop_rounds 3 ?_
  rw [rounds_succ]
  go_wp2_with fail
  rw [rounds_succ]
  go_wp2_with fail
  rw [rounds_succ]
  go_wp2_with fail
  refine bodyPost_ret_by (v := pv (-x) (-y)) ?_ rfl ⟨rfl, ?_⟩
  · simp [results, Tryz.results48, go_sem]
  · repeat (first | exact Grew.refl _ | apply Grew.drew | apply Grew.drewN | apply Grew.alloc | apply Grew.more)

set_option maxHeartbeats 1000000 in
theorem rturn_good3 (x y n : Int) (w : World) (h : ok2 x y = true) (hk : n % 4 = 3) : Calls Tryz.prog 48 #[pv x y, .int .i64 n] w fun e w' => e = .returned (pv (y) (-x)) ∧ Grew w w' := by
  have R := fun W => rright_any x y W
  rw [h] at R
  rw [ok2_iff] at h
  obtain ⟨t0, t1, f0, f1, f2⟩ := mod_four n
  rw [hk] at f2
  have e0 : IntKind.i64.wrap (-y) = -y := by rw [IntKind.wrap_i64]; omega
  have e1 : IntKind.i64.wrap (-x) = -x := by rw [IntKind.wrap_i64]; omega
  have e2 : IntKind.i64.wrap (y) = y := by rw [IntKind.wrap_i64]; omega
  clear h hk
  go_enter Tryz.func48, Tryz.ntmps48
  go_wp2_with (go_at_call 75; refine (R _).mono ?_; rintro e w' ⟨rfl, os, n, rfl⟩)
  refine wp_loop_rounds 4 ?_
  rw [rounds_succ]
  go_wp2_with fail
  rw [rounds_succ]
  go_wp2_with fail
  rw [rounds_succ]
  go_wp2_with fail
  rw [rounds_succ]
  go_wp2_with fail
  refine bodyPost_ret_by (v := pv (y) (-x)) ?_ rfl ⟨rfl, ?_⟩
  · simp [results, Tryz.results48, go_sem]
  · repeat (first | exact Grew.refl _ | apply Grew.drew | apply Grew.drewN | apply Grew.alloc | apply Grew.more)

theorem rturn_good (x y n : Int) (w : World) (h : ok2 x y = true) : Calls Tryz.prog 48 #[pv x y, .int .i64 n] w fun e w' => e = .returned (pv (turnX x y n) (turnY x y n)) ∧ Grew w w' := by
  have hc : n % 4 = 0 ∨ n % 4 = 1 ∨ n % 4 = 2 ∨ n % 4 = 3 := by omega
  rcases hc with hk | hk | hk | hk
  · simpa [turnX, turnY, hk] using rturn_good0 x y n w h hk
  · simpa [turnX, turnY, hk] using rturn_good1 x y n w h hk
  · simpa [turnX, turnY, hk] using rturn_good2 x y n w h hk
  · simpa [turnX, turnY, hk] using rturn_good3 x y n w h hk
end Go.Proofs.YtnpdecbgakgbgaaGreatDoor.Ga
