/-
  The document's Gcd: for every two points.
-/
import Derived.Test.YtidknbdckdinlaaGRef2
import Derived.Test.YtidknbdckdinlaaGGcd2
namespace Go.Proofs.Ytidknbdckdinlaa
open Go.RowKit
attribute [local go_sem] cell?_more frozen?_more setCell_more more_lt more_more more_drew more_drewN setCell_drewN alloc_drewN
attribute [local go_sem high] cellMA frozenMA setMA cellMAM frozenMAM setMAM cellMAA frozenMAA setMAA cellMAAM frozenMAAM setMAAM cellMAMA frozenMAMA setMAMA cellMAMAM frozenMAMAM setMAMAM cellMAMAMA frozenMAMAMA setMAMAMA cellMAMAMAM frozenMAMAMAM setMAMAMAM size_blank3

set_option maxHeartbeats 1000000 in
theorem rgcd_bad (x y u v : Int) (w : World) (hr : (ok2 x y && ok2 u v) = false) :
    Calls Try.prog 23 #[pv x y, pv u v] w fun e w' => e = .returned (.tuple #[pv 0 0, .int .i64 1]) ∧ Grew w w' := by
  have Ra := fun W => rright_any x y W
  have Rb := fun W => rright_any u v W
  cases ha : ok2 x y
  · rw [ha] at Ra
    clear Rb hr ha
    go_enter Try.func23, Try.ntmps23
    go_wp2_with (go_at_call 16; refine (Ra _).mono ?_; rintro e w' ⟨rfl, os, n, rfl⟩)
    refine bodyPost_ret_by (v := .tuple #[pv 0 0, .int .i64 1]) ?_ rfl ⟨rfl, ?_⟩
    · simp [results, Try.results23, go_sem]
    · repeat (first | exact Grew.refl _ | apply Grew.drew | apply Grew.drewN | apply Grew.alloc | apply Grew.more)
  · rw [ha] at Ra hr
    have hb : ok2 u v = false := by simpa using hr
    rw [hb] at Rb
    clear hb hr ha
    go_enter Try.func23, Try.ntmps23
    go_wp2_with fail
    refine (Ra _).mono ?_
    rintro e w' ⟨rfl, os, n, rfl⟩
    go_wp2_with fail
    refine (Rb _).mono ?_
    rintro e w' ⟨rfl, os', n', rfl⟩
    go_wp2
    refine bodyPost_ret_by (v := .tuple #[pv 0 0, .int .i64 1]) ?_ rfl ⟨rfl, ?_⟩
    · simp [results, Try.results23, go_sem]
    · repeat (first | exact Grew.refl _ | apply Grew.drew | apply Grew.drewN | apply Grew.alloc | apply Grew.more)

/-- A norm that is halved again and again. -/
theorem halved (m n : Int) (k : Nat) (h : 2 * m ≤ n) (hk : n * ((2 ^ k : Nat) : Int) ≤ 2199023255552) : m * ((2 ^ (k + 1) : Nat) : Int) ≤ 2199023255552 := by
  have e : m * ((2 ^ (k + 1) : Nat) : Int) = 2 * m * ((2 ^ k : Nat) : Int) := by rw [Nat.pow_succ]; push_cast; grind
  have p : (0 : Int) ≤ ((2 ^ k : Nat) : Int) := Int.natCast_nonneg _
  have := Int.mul_le_mul_of_nonneg_right h p
  omega
theorem few (n : Int) (k : Nat) (hn : 0 < n) (hk : n * ((2 ^ k : Nat) : Int) ≤ 2199023255552) : k ≤ 41 := by
  rcases Nat.lt_or_ge 41 k with h | h
  · exfalso
    have h1 : 4398046511104 ≤ 2 ^ k := Nat.le_trans (by decide : 4398046511104 ≤ 2 ^ 42) (Nat.pow_le_pow_right (by decide) h)
    have h2 : ((4398046511104 : Nat) : Int) ≤ ((2 ^ k : Nat) : Int) := Int.ofNat_le.2 h1
    have p : (0 : Int) ≤ ((2 ^ k : Nat) : Int) := by omega
    have := Int.mul_le_mul_of_nonneg_right (show 1 ≤ n by omega) p
    omega
  · exact h

set_option maxHeartbeats 4000000 in
theorem rgcd_good (x y u v : Int) (w : World) (ha : ok2 x y = true) (hb : ok2 u v = true) :
    Calls Try.prog 23 #[pv x y, pv u v] w fun e w' => e = .returned (.tuple #[pv (fqX (gl x y u v).1 (gl x y u v).2) (fqY (gl x y u v).1 (gl x y u v).2), .int .i64 0]) ∧ Grew w w' := by
  have Ra := fun W => rright_any x y W
  have Rb := fun W => rright_any u v W
  rw [ha] at Ra
  rw [hb] at Rb
  rw [ok2_iff] at ha hb
  obtain ⟨gx, gy, hg⟩ : ∃ gx gy, gl x y u v = (gx, gy) := ⟨_, _, rfl⟩
  have HG : Hid (gl x y u v = (gx, gy)) := hg
  rw [hg]
  clear hg
  show Calls Try.prog 23 #[pv x y, pv u v] w fun e w' => e = .returned (.tuple #[pv (fqX gx gy) (fqY gx gy), .int .i64 0]) ∧ Grew w w'
  have HA : Hid (-1048576 ≤ x ∧ x ≤ 1048576 ∧ -1048576 ≤ y ∧ y ≤ 1048576) := ha
  have HB : Hid (-1048576 ≤ u ∧ u ≤ 1048576 ∧ -1048576 ≤ v ∧ v ≤ 1048576) := hb
  clear ha hb
  obtain ⟨X, hX⟩ : ∃ X, X = fqX gx gy := ⟨_, rfl⟩
  obtain ⟨Y, hY⟩ : ∃ Y, Y = fqY gx gy := ⟨_, rfl⟩
  rw [← hX, ← hY]
  have HX : Hid (X = fqX gx gy) := hX
  have HY : Hid (Y = fqY gx gy) := hY
  clear hX hY
  go_enter Try.func23, Try.ntmps23
  go_wp2_with fail
  refine (Ra _).mono ?_
  rintro e w' ⟨rfl, os, n, rfl⟩
  go_wp2_with fail
  refine (Rb _).mono ?_
  rintro e w' ⟨rfl, os', n', rfl⟩
  clear Ra Rb
  go_wp2_with fail
  go_loopw [6] (fun i wr => ∃ (x1 y1 u1 v1 : Int) (k : Nat), i = .int .i64 (k : Int) ∧
    Hid (-1048576 ≤ x1 ∧ x1 ≤ 1048576 ∧ -1048576 ≤ y1 ∧ y1 ≤ 1048576) ∧ Hid (-1048576 ≤ u1 ∧ u1 ≤ 1048576 ∧ -1048576 ≤ v1 ∧ v1 ≤ 1048576) ∧ Hid (gl x1 y1 u1 v1 = (gx, gy)) ∧ Hid ((u1 * u1 + v1 * v1) * ((2 ^ k : Nat) : Int) ≤ 2199023255552) ∧ Hid (k ≤ 42) ∧
    Grew (((w.alloc (Obj.cells #[Value.int IntKind.i64 x1, Value.int IntKind.i64 y1] 23)).alloc (Obj.cells #[Value.int IntKind.i64 u1, Value.int IntKind.i64 v1] 23)).alloc (Obj.cells #[Value.int IntKind.i64 0, Value.int IntKind.i64 0] 23)) wr) (fun i _ => 100 - (intOf i).toNat)
  case atStart =>
    refine ⟨x, y, u, v, 0, rfl, HA, HB, HG, ?_, (by decide : 0 ≤ 42), ⟨_, _, rfl⟩⟩
    have b := HB.out
    have m1 := mul_bd (A := 1048576) (B := 1048576) (by decide) b.1 b.2.1 b.1 b.2.1
    have m2 := mul_bd (A := 1048576) (B := 1048576) (by decide) b.2.2.1 b.2.2.2 b.2.2.1 b.2.2.2
    show (u * u + v * v) * 1 ≤ 2199023255552
    omega
  case round =>
    obtain ⟨x1, y1, u1, v1, k, rfl, B1, B2, G1, M1, K1, l, n, rfl⟩ := hrel
    have B := B1.out
    by_cases hz : u1 = 0 ∧ v1 = 0
    · obtain ⟨rfl, rfl⟩ := hz
      have Nn : ∀ W, Calls Try.prog 27 #[pv 0 0] W fun e w' => e = .returned (.int .i64 0) ∧ Grew W w' := fun W => rnorm_any 0 0 W
      have e := G1.out
      rw [gl_zero] at e
      obtain ⟨rfl, rfl⟩ := Prod.mk.inj e
      have hk1 : (k : Int) < 100 := by have := K1.out; omega
      clear e K1
      by_cases hq : x1 = 0 ∧ y1 = 0
      · obtain ⟨rfl, rfl⟩ := hq
        obtain rfl : X = 0 := by have h := HX.out; simpa [fqX] using h
        obtain rfl : Y = 0 := by have h := HY.out; simpa [fqY] using h
        clear HX HY HA HB HG B1 B2 G1 M1 B
        go_wp2_with (go_at_call 27; refine (Nn _).mono ?_; rintro e w' ⟨rfl, ol, nl, rfl⟩)
        refine wp_loop_rounds 5 ?_
        rw [rounds_succ]
        go_wp2_with fail
        rw [rounds_succ]
        go_wp2_with fail
        rw [rounds_succ]
        go_wp2_with fail
        rw [rounds_succ]
        go_wp2_with fail
        rw [rounds_succ]
        go_wp2_with fail
        refine bodyPost_ret_by (v := .tuple #[pv 0 0, .int .i64 0]) ?_ rfl ⟨rfl, ?_⟩
        · simp [results, Try.results23, go_sem]
        · repeat (first | exact Grew.refl _ | apply Grew.drew | apply Grew.drewN | apply Grew.alloc | apply Grew.more)
      · by_cases hq1 : 0 < x1 ∧ 0 ≤ y1
        · have k0 : ¬ x1 ≤ 0 := by omega
          have k1 : ¬ y1 < 0 := by omega
          obtain rfl : x1 = X := by have h := HX.out; simp [fqX] at h; omega
          obtain rfl : y1 = Y := by have h := HY.out; simp [fqY] at h; omega
          clear HX HY HA HB HG B1 B2 G1 M1 hq1 hq B
          go_wp2_with (go_at_call 27; refine (Nn _).mono ?_; rintro e w' ⟨rfl, ol, nl, rfl⟩)
          refine wp_loop_rounds 1 ?_
          rw [rounds_succ]
          go_wp2_with fail
          refine bodyPost_ret_by (v := .tuple #[pv x1 y1, .int .i64 0]) ?_ rfl ⟨rfl, ?_⟩
          · simp [results, Try.results23, go_sem]
          · repeat (first | exact Grew.refl _ | apply Grew.drew | apply Grew.drewN | apply Grew.alloc | apply Grew.more)
        · by_cases hq2 : x1 ≤ 0 ∧ 0 < y1
          · by_cases hs : x1 = 0
            · obtain ⟨n1, hn1⟩ : ∃ n1, n1 = -y1 := ⟨_, rfl⟩
              obtain ⟨n2, hn2⟩ : ∃ n2, n2 = -x1 := ⟨_, rfl⟩
              have e1 : IntKind.i64.wrap (-y1) = n1 := by rw [IntKind.wrap_i64]; omega
              have e2 : IntKind.i64.wrap (-x1) = n2 := by rw [IntKind.wrap_i64]; omega
              have e3 : IntKind.i64.wrap (-n1) = y1 := by rw [IntKind.wrap_i64]; omega
              have k0 : x1 ≤ 0 := by omega
              have k1 : n1 ≤ 0 := by omega
              have k2 : n2 ≤ 0 := by omega
              have k3 : ¬ y1 ≤ 0 := by omega
              have k4 : ¬ n2 < 0 := by omega
              obtain rfl : y1 = X := by have h := HX.out; simp [fqX] at h; omega
              obtain rfl : n2 = Y := by have h := HY.out; simp [fqY] at h; omega
              clear HX HY HA HB HG B1 B2 G1 M1 hn1 hn2 hq hq1 hq2 hs B
              go_wp2_with (go_at_call 27; refine (Nn _).mono ?_; rintro e w' ⟨rfl, ol, nl, rfl⟩)
              refine wp_loop_rounds 4 ?_
              rw [rounds_succ]
              go_wp2_with fail
              rw [rounds_succ]
              go_wp2_with fail
              rw [rounds_succ]
              go_wp2_with fail
              rw [rounds_succ]
              go_wp2_with fail
              refine bodyPost_ret_by (v := .tuple #[pv y1 n2, .int .i64 0]) ?_ rfl ⟨rfl, ?_⟩
              · simp [results, Try.results23, go_sem]
              · repeat (first | exact Grew.refl _ | apply Grew.drew | apply Grew.drewN | apply Grew.alloc | apply Grew.more)
            · obtain ⟨n1, hn1⟩ : ∃ n1, n1 = -y1 := ⟨_, rfl⟩
              obtain ⟨n2, hn2⟩ : ∃ n2, n2 = -x1 := ⟨_, rfl⟩
              have e1 : IntKind.i64.wrap (-y1) = n1 := by rw [IntKind.wrap_i64]; omega
              have e2 : IntKind.i64.wrap (-x1) = n2 := by rw [IntKind.wrap_i64]; omega
              have e3 : IntKind.i64.wrap (-n1) = y1 := by rw [IntKind.wrap_i64]; omega
              have k0 : x1 ≤ 0 := by omega
              have k1 : n1 ≤ 0 := by omega
              have k2 : ¬ n2 ≤ 0 := by omega
              have k3 : n1 < 0 := by omega
              have k4 : ¬ y1 ≤ 0 := by omega
              have k5 : ¬ n2 < 0 := by omega
              obtain rfl : y1 = X := by have h := HX.out; simp [fqX] at h; omega
              obtain rfl : n2 = Y := by have h := HY.out; simp [fqY] at h; omega
              clear HX HY HA HB HG B1 B2 G1 M1 hn1 hn2 hq hq1 hq2 hs B
              go_wp2_with (go_at_call 27; refine (Nn _).mono ?_; rintro e w' ⟨rfl, ol, nl, rfl⟩)
              refine wp_loop_rounds 4 ?_
              rw [rounds_succ]
              go_wp2_with fail
              rw [rounds_succ]
              go_wp2_with fail
              rw [rounds_succ]
              go_wp2_with fail
              rw [rounds_succ]
              go_wp2_with fail
              refine bodyPost_ret_by (v := .tuple #[pv y1 n2, .int .i64 0]) ?_ rfl ⟨rfl, ?_⟩
              · simp [results, Try.results23, go_sem]
              · repeat (first | exact Grew.refl _ | apply Grew.drew | apply Grew.drewN | apply Grew.alloc | apply Grew.more)
          · by_cases hq3 : x1 < 0 ∧ y1 ≤ 0
            · by_cases hs : y1 = 0
              · obtain ⟨n1, hn1⟩ : ∃ n1, n1 = -y1 := ⟨_, rfl⟩
                obtain ⟨n2, hn2⟩ : ∃ n2, n2 = -x1 := ⟨_, rfl⟩
                have e1 : IntKind.i64.wrap (-y1) = n1 := by rw [IntKind.wrap_i64]; omega
                have e2 : IntKind.i64.wrap (-x1) = n2 := by rw [IntKind.wrap_i64]; omega
                have e3 : IntKind.i64.wrap (-n1) = y1 := by rw [IntKind.wrap_i64]; omega
                have k0 : x1 ≤ 0 := by omega
                have k1 : n1 ≤ 0 := by omega
                have k2 : ¬ n2 ≤ 0 := by omega
                have k3 : ¬ n1 < 0 := by omega
                obtain rfl : n2 = X := by have h := HX.out; simp [fqX] at h; omega
                obtain rfl : n1 = Y := by have h := HY.out; simp [fqY] at h; omega
                clear HX HY HA HB HG B1 B2 G1 M1 hn1 hn2 hq hq1 hq2 hq3 hs B
                go_wp2_with (go_at_call 27; refine (Nn _).mono ?_; rintro e w' ⟨rfl, ol, nl, rfl⟩)
                refine wp_loop_rounds 3 ?_
                rw [rounds_succ]
                go_wp2_with fail
                rw [rounds_succ]
                go_wp2_with fail
                rw [rounds_succ]
                go_wp2_with fail
                refine bodyPost_ret_by (v := .tuple #[pv n2 n1, .int .i64 0]) ?_ rfl ⟨rfl, ?_⟩
                · simp [results, Try.results23, go_sem]
                · repeat (first | exact Grew.refl _ | apply Grew.drew | apply Grew.drewN | apply Grew.alloc | apply Grew.more)
              · obtain ⟨n1, hn1⟩ : ∃ n1, n1 = -y1 := ⟨_, rfl⟩
                obtain ⟨n2, hn2⟩ : ∃ n2, n2 = -x1 := ⟨_, rfl⟩
                have e1 : IntKind.i64.wrap (-y1) = n1 := by rw [IntKind.wrap_i64]; omega
                have e2 : IntKind.i64.wrap (-x1) = n2 := by rw [IntKind.wrap_i64]; omega
                have e3 : IntKind.i64.wrap (-n1) = y1 := by rw [IntKind.wrap_i64]; omega
                have k0 : x1 ≤ 0 := by omega
                have k1 : ¬ n1 ≤ 0 := by omega
                have k2 : x1 < 0 := by omega
                have k3 : ¬ n2 ≤ 0 := by omega
                have k4 : ¬ n1 < 0 := by omega
                obtain rfl : n2 = X := by have h := HX.out; simp [fqX] at h; omega
                obtain rfl : n1 = Y := by have h := HY.out; simp [fqY] at h; omega
                clear HX HY HA HB HG B1 B2 G1 M1 hn1 hn2 hq hq1 hq2 hq3 hs B
                go_wp2_with (go_at_call 27; refine (Nn _).mono ?_; rintro e w' ⟨rfl, ol, nl, rfl⟩)
                refine wp_loop_rounds 3 ?_
                rw [rounds_succ]
                go_wp2_with fail
                rw [rounds_succ]
                go_wp2_with fail
                rw [rounds_succ]
                go_wp2_with fail
                refine bodyPost_ret_by (v := .tuple #[pv n2 n1, .int .i64 0]) ?_ rfl ⟨rfl, ?_⟩
                · simp [results, Try.results23, go_sem]
                · repeat (first | exact Grew.refl _ | apply Grew.drew | apply Grew.drewN | apply Grew.alloc | apply Grew.more)
            · by_cases hs : x1 = 0
              · obtain ⟨n1, hn1⟩ : ∃ n1, n1 = -y1 := ⟨_, rfl⟩
                obtain ⟨n2, hn2⟩ : ∃ n2, n2 = -x1 := ⟨_, rfl⟩
                have e1 : IntKind.i64.wrap (-y1) = n1 := by rw [IntKind.wrap_i64]; omega
                have e2 : IntKind.i64.wrap (-x1) = n2 := by rw [IntKind.wrap_i64]; omega
                have e3 : IntKind.i64.wrap (-n1) = y1 := by rw [IntKind.wrap_i64]; omega
                have k0 : x1 ≤ 0 := by omega
                have k1 : ¬ n1 ≤ 0 := by omega
                have k2 : ¬ x1 < 0 := by omega
                obtain rfl : n1 = X := by have h := HX.out; simp [fqX] at h; omega
                obtain rfl : x1 = Y := by have h := HY.out; simp [fqY] at h; omega
                clear HX HY HA HB HG B1 B2 G1 M1 hn1 hn2 hq hq1 hq2 hq3 hs B
                go_wp2_with (go_at_call 27; refine (Nn _).mono ?_; rintro e w' ⟨rfl, ol, nl, rfl⟩)
                refine wp_loop_rounds 2 ?_
                rw [rounds_succ]
                go_wp2_with fail
                rw [rounds_succ]
                go_wp2_with fail
                refine bodyPost_ret_by (v := .tuple #[pv n1 x1, .int .i64 0]) ?_ rfl ⟨rfl, ?_⟩
                · simp [results, Try.results23, go_sem]
                · repeat (first | exact Grew.refl _ | apply Grew.drew | apply Grew.drewN | apply Grew.alloc | apply Grew.more)
              · obtain ⟨n1, hn1⟩ : ∃ n1, n1 = -y1 := ⟨_, rfl⟩
                obtain ⟨n2, hn2⟩ : ∃ n2, n2 = -x1 := ⟨_, rfl⟩
                have e1 : IntKind.i64.wrap (-y1) = n1 := by rw [IntKind.wrap_i64]; omega
                have e2 : IntKind.i64.wrap (-x1) = n2 := by rw [IntKind.wrap_i64]; omega
                have e3 : IntKind.i64.wrap (-n1) = y1 := by rw [IntKind.wrap_i64]; omega
                have k0 : ¬ x1 ≤ 0 := by omega
                have k1 : y1 < 0 := by omega
                have k2 : ¬ n1 ≤ 0 := by omega
                have k3 : ¬ x1 < 0 := by omega
                obtain rfl : n1 = X := by have h := HX.out; simp [fqX] at h; omega
                obtain rfl : x1 = Y := by have h := HY.out; simp [fqY] at h; omega
                clear HX HY HA HB HG B1 B2 G1 M1 hn1 hn2 hq hq1 hq2 hq3 hs B
                go_wp2_with (go_at_call 27; refine (Nn _).mono ?_; rintro e w' ⟨rfl, ol, nl, rfl⟩)
                refine wp_loop_rounds 2 ?_
                rw [rounds_succ]
                go_wp2_with fail
                rw [rounds_succ]
                go_wp2_with fail
                refine bodyPost_ret_by (v := .tuple #[pv n1 x1, .int .i64 0]) ?_ rfl ⟨rfl, ?_⟩
                · simp [results, Try.results23, go_sem]
                · repeat (first | exact Grew.refl _ | apply Grew.drew | apply Grew.drewN | apply Grew.alloc | apply Grew.more)
    · have BB := B2.out
      have hn := norm_pos hz
      have hk := few _ k hn M1.out
      have ok1 : ok2 x1 y1 = true := (ok2_iff _ _).2 B
      have ok3 : ok2 u1 v1 = true := (ok2_iff _ _).2 BB
      have Nn := fun W => rnorm_any u1 v1 W
      have hnn : ¬ nrm u1 v1 = 0 := by rw [show nrm u1 v1 = u1 * u1 + v1 * v1 by simp [nrm, ok3]]; omega
      have hh := rest_half x1 y1 u1 v1 hn
      have hr := rest_ok x1 y1 u1 v1 ⟨BB.1, BB.2.1⟩ ⟨BB.2.2.1, BB.2.2.2⟩ hn
      have G2 : Hid (gl u1 v1 (rX x1 y1 u1 v1) (rY x1 y1 u1 v1) = (gx, gy)) := (gl_step x1 y1 u1 v1 hz).symm.trans G1.out
      have P := fun W => rparts_any x1 y1 u1 v1 W ok1 ok3 hn
      have B3 : Hid (-1048576 ≤ rX x1 y1 u1 v1 ∧ rX x1 y1 u1 v1 ≤ 1048576 ∧ -1048576 ≤ rY x1 y1 u1 v1 ∧ rY x1 y1 u1 v1 ≤ 1048576) := ⟨hr.1.1, hr.1.2, hr.2.1, hr.2.2⟩
      have M2 : Hid ((rX x1 y1 u1 v1 * rX x1 y1 u1 v1 + rY x1 y1 u1 v1 * rY x1 y1 u1 v1) * ((2 ^ (k + 1) : Nat) : Int) ≤ 2199023255552) := halved _ _ k hh M1.out
      have hk1 : (k : Int) < 100 := by omega
      have e1 : IntKind.i64.wrap ((k : Int) + 1) = ((k + 1 : Nat) : Int) := by rw [IntKind.wrap_i64]; omega
      generalize nrm u1 v1 = nn at *
      generalize qX x1 y1 u1 v1 = c1 at *
      generalize qY x1 y1 u1 v1 = c2 at *
      generalize rX x1 y1 u1 v1 = r1 at *
      generalize rY x1 y1 u1 v1 = r2 at *
      have HK : Hid (k ≤ 41) := hk
      clear hn hh hr hz B BB HX HY HG HA HB G1 B1 M1 K1 ok1 ok3 hk
      go_wp2_with (first
        | (go_at_call 27; refine (Nn _).mono ?_; rintro e w' ⟨rfl, ol, nl, rfl⟩)
        | (go_at_call 36; refine (P _).mono ?_; rintro e w' ⟨rfl, ol2, nl2, rfl⟩))
      go_roundw
      case rel => exact ⟨u1, v1, r1, r2, k + 1, rfl, B2, B3, G2, M2, (by have := HK.out; show k + 1 ≤ 42; omega), by repeat (first | exact Grew.refl _ | apply Grew.drew | apply Grew.drewN | apply Grew.alloc | apply Grew.more)⟩
      case measure => have := HK.out; simp [intOf]; omega
end Go.Proofs.Ytidknbdckdinlaa
