/-
  The document's answers: Div.
-/
import Derived.Test.YtfbkakchaabgeaaDoorDRefA
import Derived.Deep.Cut
import Derived.Deep.RegionWith
import Derived.Test.YtfbkakchaabgeaaDoorDRef6
import Derived.Test.YtfbkakchaabgeaaDoorDNeg
import Derived.Deep.RegionHeld2
import Derived.Deep.RegionWith
namespace Go.Proofs.YtfbkakchaabgeaaDoor
open Go.RowKit
attribute [local go_sem] cell?_more frozen?_more setCell_more more_lt more_more more_drew more_drewN setCell_drewN alloc_drewN
attribute [local go_sem high] cellMA frozenMA setMA cellMAM frozenMAM setMAM

theorem sval_scale (u : Int) (P : Nat) : sval (decide (u < 0)) (u.natAbs * P) = u * (P : Int) := by
  have h := sval_of u
  cases hd : decide (u < 0)
  · rw [hd] at h; simp only [sval] at h ⊢; rw [Int.natCast_mul]; simp at h ⊢; rw [h]
  · rw [hd] at h; simp only [sval] at h ⊢; rw [Int.natCast_mul, ← Int.neg_mul]; simp at h ⊢; rw [h]

section
variable (W : World) (l1 l2 l3 : List Obj) (o1 o2 : Obj) (n i : Nat) (v : Value)
theorem ltP (h : n < W.heap.size) : n < ((more W l1).alloc o1).heap.size := by have := more_lt h l1; simp; omega
theorem ltPB : (more W l1).heap.size < ((more W l1).alloc o1).heap.size := by simp
theorem zc0 (h : n < W.heap.size) : ((more ((more W l1).alloc o1) l2).alloc o2).cell? ⟨n, i, none⟩ = W.cell? ⟨n, i, none⟩ :=
  (World.cell?_alloc_past o2 n i (more_lt (ltP W l1 o1 n h) l2)).trans ((cell?_more l2 n i _ (ltP W l1 o1 n h)).trans (cellMA l1 o1 n i W h))
theorem zf0 (h : n < W.heap.size) : ((more ((more W l1).alloc o1) l2).alloc o2).frozen? ⟨n, i, none⟩ = W.frozen? ⟨n, i, none⟩ :=
  (World.frozen?_alloc_past o2 n i (more_lt (ltP W l1 o1 n h) l2)).trans ((frozen?_more l2 n i _ (ltP W l1 o1 n h)).trans (frozenMA l1 o1 n i W h))
theorem zs0 (h : n < W.heap.size) : ((more ((more W l1).alloc o1) l2).alloc o2).setCell ⟨n, i, none⟩ v = (more ((more (W.setCell ⟨n, i, none⟩ v) l1).alloc o1) l2).alloc o2 := by
  rw [World.setCell_alloc_past o2 n i v (more_lt (ltP W l1 o1 n h) l2), setCell_more l2 n i v _ (ltP W l1 o1 n h), setMA l1 o1 n i v W h]
theorem zcB0 : ((more ((more W l1).alloc o1) l2).alloc o2).cell? ⟨(more W l1).heap.size, i, none⟩ = ((more W l1).alloc o1).cell? ⟨(more W l1).heap.size, i, none⟩ :=
  (World.cell?_alloc_past o2 _ i (more_lt (ltPB W l1 o1) l2)).trans (cell?_more l2 _ i _ (ltPB W l1 o1))
theorem zfB0 : ((more ((more W l1).alloc o1) l2).alloc o2).frozen? ⟨(more W l1).heap.size, i, none⟩ = ((more W l1).alloc o1).frozen? ⟨(more W l1).heap.size, i, none⟩ :=
  (World.frozen?_alloc_past o2 _ i (more_lt (ltPB W l1 o1) l2)).trans (frozen?_more l2 _ i _ (ltPB W l1 o1))
theorem zsB0 : ((more ((more W l1).alloc o1) l2).alloc o2).setCell ⟨(more W l1).heap.size, i, none⟩ v = (more (((more W l1).alloc o1).setCell ⟨(more W l1).heap.size, i, none⟩ v) l2).alloc o2 := by
  rw [World.setCell_alloc_past o2 _ i v (more_lt (ltPB W l1 o1) l2), setCell_more l2 _ i v _ (ltPB W l1 o1)]
theorem ltZ (h : n < W.heap.size) : n < ((more ((more W l1).alloc o1) l2).alloc o2).heap.size := by have := more_lt (ltP W l1 o1 n h) l2; simp; omega
theorem ltZB : (more W l1).heap.size < ((more ((more W l1).alloc o1) l2).alloc o2).heap.size := by have := more_lt (ltPB W l1 o1) l2; simp; omega
theorem zc (h : n < W.heap.size) : (more ((more ((more W l1).alloc o1) l2).alloc o2) l3).cell? ⟨n, i, none⟩ = W.cell? ⟨n, i, none⟩ := (cell?_more l3 n i _ (ltZ W l1 l2 o1 o2 n h)).trans (zc0 W l1 l2 o1 o2 n i h)
theorem zf (h : n < W.heap.size) : (more ((more ((more W l1).alloc o1) l2).alloc o2) l3).frozen? ⟨n, i, none⟩ = W.frozen? ⟨n, i, none⟩ := (frozen?_more l3 n i _ (ltZ W l1 l2 o1 o2 n h)).trans (zf0 W l1 l2 o1 o2 n i h)
theorem zs (h : n < W.heap.size) : (more ((more ((more W l1).alloc o1) l2).alloc o2) l3).setCell ⟨n, i, none⟩ v = more ((more ((more (W.setCell ⟨n, i, none⟩ v) l1).alloc o1) l2).alloc o2) l3 := by
  rw [setCell_more l3 n i v _ (ltZ W l1 l2 o1 o2 n h), zs0 W l1 l2 o1 o2 n i v h]
theorem zcB : (more ((more ((more W l1).alloc o1) l2).alloc o2) l3).cell? ⟨(more W l1).heap.size, i, none⟩ = ((more W l1).alloc o1).cell? ⟨(more W l1).heap.size, i, none⟩ := (cell?_more l3 _ i _ (ltZB W l1 l2 o1 o2)).trans (zcB0 W l1 l2 o1 o2 i)
theorem zfB : (more ((more ((more W l1).alloc o1) l2).alloc o2) l3).frozen? ⟨(more W l1).heap.size, i, none⟩ = ((more W l1).alloc o1).frozen? ⟨(more W l1).heap.size, i, none⟩ := (frozen?_more l3 _ i _ (ltZB W l1 l2 o1 o2)).trans (zfB0 W l1 l2 o1 o2 i)
theorem zsB : (more ((more ((more W l1).alloc o1) l2).alloc o2) l3).setCell ⟨(more W l1).heap.size, i, none⟩ v = more ((more (((more W l1).alloc o1).setCell ⟨(more W l1).heap.size, i, none⟩ v) l2).alloc o2) l3 := by
  rw [setCell_more l3 _ i v _ (ltZB W l1 l2 o1 o2), zsB0 W l1 l2 o1 o2 i v]
end
attribute [local go_sem high] zc0 zf0 zs0 zcB0 zfB0 zsB0 zc zf zs zcB zfB zsB

theorem rnd_scale (x y k : Nat) (hk : 0 < k) : rnd (x * k) (y * k) = rnd x y := by
  unfold rnd
  rw [Nat.mul_mod_mul_right, Nat.mul_div_mul_right _ _ hk]
  have e1 : (y * k < 2 * (x % y * k)) ↔ (y < 2 * (x % y)) := by rw [← Nat.mul_assoc]; exact Nat.mul_lt_mul_right hk
  have e2 : (2 * (x % y * k) = y * k) ↔ (2 * (x % y) = y) := by rw [← Nat.mul_assoc]; exact Nat.mul_right_cancel_iff hk
  simp only [e1, e2]

/-- The document's quotient is the program's. -/
theorem div_same (ua sa ub sb s : Int) (m k : Nat) (hm : sb + s = (m : Int)) (hk : sa = (k : Int)) (hu : ub ≠ 0) :
    sval (!(decide (ua < 0) == decide (ub < 0))) (rnd (ua.natAbs * 10 ^ m) (ub.natAbs * 10 ^ k)) = dq ua sa ub sb s := by
  have hb : 0 < ub.natAbs := by omega
  unfold dq
  by_cases hle : sa ≤ s + sb
  · rw [if_pos hle]
    obtain ⟨d, hd⟩ : ∃ d, m = k + d := ⟨m - k, by omega⟩
    have e1 : (s + sb - sa).toNat = d := by omega
    rw [e1, hd, Nat.pow_add, Nat.mul_comm (10 ^ k), ← Nat.mul_assoc, rnd_scale _ _ _ (Nat.pow_pos (by decide))]
    have h := rq_sval (decide (ua < 0)) (decide (ub < 0)) (ua.natAbs * 10 ^ d) ub.natAbs hb
    have ea : sval (decide (ua < 0)) (ua.natAbs * 10 ^ d) = ua * ((10 ^ d : Nat) : Int) := sval_scale ua (10 ^ d)
    rw [ea, sval_of] at h
    exact h.symm
  · rw [if_neg hle]
    obtain ⟨d, hd⟩ : ∃ d, k = m + d := ⟨k - m, by omega⟩
    have e1 : (sa - (s + sb)).toNat = d := by omega
    rw [e1, hd, Nat.pow_add, Nat.mul_comm (10 ^ m), ← Nat.mul_assoc, rnd_scale _ _ _ (Nat.pow_pos (by decide))]
    have h := rq_sval (decide (ua < 0)) (decide (ub < 0)) ua.natAbs (ub.natAbs * 10 ^ d) (Nat.mul_pos hb (Nat.pow_pos (by decide)))
    have ea : sval (decide (ub < 0)) (ub.natAbs * 10 ^ d) = ub * ((10 ^ d : Nat) : Int) := sval_scale ub (10 ^ d)
    rw [ea, sval_of] at h
    exact h.symm

set_option maxHeartbeats 2000000 in
theorem rdiv_bad (ua sa ub sb s : Int) (w : World) (hr : (rightS sa && rightS sb && rightS s) = false) :
    Calls Tryd.prog 25 #[dv ua sa, dv ub sb, .int .i64 s] w fun e w' => e = .returned (dBad 1) ∧ Grew w w' := by
  have Ra := fun W => refRight_any ua sa W
  have Rb := fun W => refRight_any ub sb W
  cases ha : rightS sa
  · rw [ha] at Ra
    clear Rb hr ha
    go_enter Tryd.func25, Tryd.ntmps25
    go_wp2_with (go_at_call 20; refine (Ra _).mono ?_; rintro e w' ⟨rfl, os, n, rfl⟩)
    refine bodyPost_ret_by (v := dBad 1) ?_ rfl ⟨rfl, (by repeat (first | exact Grew.refl _ | apply Grew.drew | apply Grew.drewN | apply Grew.alloc | apply Grew.more))⟩
    simp [results, Tryd.results25, go_sem]
  · rw [ha] at Ra hr
    cases hb : rightS sb
    · rw [hb] at Rb
      clear hb hr ha
      go_enter Tryd.func25, Tryd.ntmps25
      go_wp2_with fail
      refine (Ra _).mono ?_
      rintro e w' ⟨rfl, os, n, rfl⟩
      go_wp2_with fail
      refine (Rb _).mono ?_
      rintro e w' ⟨rfl, os', n', rfl⟩
      go_wp2
      refine bodyPost_ret_by (v := dBad 1) ?_ rfl ⟨rfl, (by repeat (first | exact Grew.refl _ | apply Grew.drew | apply Grew.drewN | apply Grew.alloc | apply Grew.more))⟩
      simp [results, Tryd.results25, go_sem]
    · rw [hb] at Rb hr
      have hs : rightS s = false := by simpa using hr
      rw [rightS_not] at hs
      clear hb hr ha
      by_cases h0 : s < 0
      · clear hs
        go_enter Tryd.func25, Tryd.ntmps25
        go_wp2_with fail
        refine (Ra _).mono ?_
        rintro e w' ⟨rfl, os, n, rfl⟩
        go_wp2_with fail
        refine (Rb _).mono ?_
        rintro e w' ⟨rfl, os', n', rfl⟩
        go_wp2
        refine bodyPost_ret_by (v := dBad 1) ?_ rfl ⟨rfl, (by repeat (first | exact Grew.refl _ | apply Grew.drew | apply Grew.drewN | apply Grew.alloc | apply Grew.more))⟩
        simp [results, Tryd.results25, go_sem]
      · have h6 : 6 < s := by omega
        clear hs
        go_enter Tryd.func25, Tryd.ntmps25
        go_wp2_with fail
        refine (Ra _).mono ?_
        rintro e w' ⟨rfl, os, n, rfl⟩
        go_wp2_with fail
        refine (Rb _).mono ?_
        rintro e w' ⟨rfl, os', n', rfl⟩
        go_wp2
        refine bodyPost_ret_by (v := dBad 1) ?_ rfl ⟨rfl, (by repeat (first | exact Grew.refl _ | apply Grew.drew | apply Grew.drewN | apply Grew.alloc | apply Grew.more))⟩
        simp [results, Tryd.results25, go_sem]

set_option maxHeartbeats 2000000 in
theorem rdiv_zero (ua sa sb s : Int) (w : World) (ha : rightS sa = true) (hb : rightS sb = true) (hs : rightS s = true) :
    Calls Tryd.prog 25 #[dv ua sa, dv 0 sb, .int .i64 s] w fun e w' => e = .returned (dBad 33) ∧ Grew w w' := by
  have Ra := fun W => refRight_any ua sa W
  have Rb := fun W => refRight_any 0 sb W
  rw [ha] at Ra
  rw [hb] at Rb
  rw [rightS_iff] at hs
  have s0 : ¬ s < 0 := by omega
  have s6 : ¬ 6 < s := by omega
  clear ha hb hs
  go_enter Tryd.func25, Tryd.ntmps25
  go_wp2_with fail
  refine (Ra _).mono ?_
  rintro e w' ⟨rfl, os, n, rfl⟩
  go_wp2_with fail
  refine (Rb _).mono ?_
  rintro e w' ⟨rfl, os', n', rfl⟩
  go_wp2
  refine bodyPost_ret_by (v := dBad 33) ?_ rfl ⟨rfl, (by repeat (first | exact Grew.refl _ | apply Grew.drew | apply Grew.drewN | apply Grew.alloc | apply Grew.more))⟩
  simp [results, Tryd.results25, go_sem]

set_option maxHeartbeats 2000000 in
theorem div_zero (ua sa sb s : Int) (w : World) (ha : rightS sa = true) (hb : rightS sb = true) (hs : rightS s = true) :
    Calls Tryd.prog 24 #[dv ua sa, dv 0 sb, .int .i64 s] w fun e w' => e = .returned (dBad 33) ∧ Grew w w' := by
  have Ra := fun W => right_any ua sa W
  have Rb := fun W => right_any 0 sb W
  have Rs := fun W => rightScale_any s W
  rw [ha] at Ra
  rw [hb] at Rb
  rw [hs] at Rs
  clear ha hb hs
  go_enter Tryd.func24, Tryd.ntmps24
  go_wp2_with fail
  refine (Ra _).mono ?_
  rintro e w' ⟨rfl, os, n, rfl⟩
  go_wp2_with fail
  refine (Rb _).mono ?_
  rintro e w' ⟨rfl, os', n', rfl⟩
  go_wp2_with (go_at_call 46; refine (Rs _).mono ?_; rintro e w' ⟨rfl, rfl⟩)
  refine bodyPost_ret_by (v := dBad 33) ?_ rfl ⟨rfl, (by repeat (first | exact Grew.refl _ | apply Grew.drew | apply Grew.drewN | apply Grew.alloc | apply Grew.more))⟩
  simp [results, Tryd.results24, go_sem]
end Go.Proofs.YtfbkakchaabgeaaDoor
