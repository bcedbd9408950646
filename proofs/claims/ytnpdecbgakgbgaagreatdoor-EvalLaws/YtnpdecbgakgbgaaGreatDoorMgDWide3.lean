/-
  The contracts of package decimal's wide numbers, gone on: a sum of unlike signs, difference, sign, narrowed.
  The contracts of package decimal's wide numbers, gone on: difference, sign, narrowed.
-/
import Derived.Test.YtnpdecbgakgbgaaGreatDoorDWide
namespace Go.Proofs.YtnpdecbgakgbgaaGreatDoor
open Go.RowKit

set_option maxHeartbeats 1000000 in
theorem sum_far (b1 b2 : Bool) (h1 l1 h2 l2 : Nat) (w : World) (hb : (b1 == b2) = false) (hn : h2 * 18446744073709551616 + l2 ≤ h1 * 18446744073709551616 + l1)
    (k1 : l1 < 18446744073709551616) (k2 : l2 < 18446744073709551616) (k3 : h1 < 18446744073709551616) :
    Calls Tryz.prog 162 #[wd b1 h1 l1, wd b2 h2 l2] w fun e w' => ∃ h l : Nat, e = .returned (wd b1 h l) ∧ h * 18446744073709551616 + l = h1 * 18446744073709551616 + l1 - (h2 * 18446744073709551616 + l2) ∧ l < 18446744073709551616 ∧ h < 18446744073709551616 ∧ Grew w w' := by
  have c := bor_bd (l1 : Int) (l2 : Int)
  have nr := fun W => nearer_any b1 b2 h1 l1 h2 l2 W k1 k2
  rw [show decide (h1 * 18446744073709551616 + l1 < h2 * 18446744073709551616 + l2) = false by simp; omega] at nr
  have k4 : h2 < 18446744073709551616 := by omega
  obtain ⟨h, l, eh, el, hs, hl, hh⟩ : ∃ h l : Nat, ((h1 : Int) - h2 - bor l1 l2) % 18446744073709551616 = (h : Int) ∧ ((l1 : Int) - l2) % 18446744073709551616 = (l : Int) ∧
      h * 18446744073709551616 + l = h1 * 18446744073709551616 + l1 - (h2 * 18446744073709551616 + l2) ∧ l < 18446744073709551616 ∧ h < 18446744073709551616 := by
    refine ⟨(((h1 : Int) - h2 - bor l1 l2) % 18446744073709551616).toNat, (((l1 : Int) - l2) % 18446744073709551616).toNat, by omega, by omega, ?_, by omega, by omega⟩
    unfold bor; split <;> omega
  have S0 := fun W => sub64_0 (l1 : Int) (l2 : Int) (by omega) (by omega) (by omega) W
  have S1 := fun W => sub64_at (h1 : Int) (h2 : Int) _ (by omega) (by omega) (by omega) c.1 c.2 W
  rw [el] at S0
  rw [eh] at S1
  refine Calls.mono (R := fun e w' => e = .returned (wd b1 h l) ∧ Grew w w') ?_ fun e w' hp => ⟨h, l, hp.1, hs, hl, hh, hp.2⟩
  clear hn hs eh el k1 k2 k3 k4
  go_enter Tryz.func162, Tryz.ntmps162
  go_wp2_with (go_at_call 208; refine (nr _).mono ?_; rintro e w' ⟨rfl, c1, c2, rfl⟩)
  simp [bodyPost, results, Tryz.results162, go_sem]
  exact (((((Grew.refl _).alloc _).alloc _).alloc _).alloc _).alloc _

set_option maxHeartbeats 1000000 in
theorem sum_near (b1 b2 : Bool) (h1 l1 h2 l2 : Nat) (w : World) (hb : (b1 == b2) = false) (hn : h1 * 18446744073709551616 + l1 < h2 * 18446744073709551616 + l2)
    (k1 : l1 < 18446744073709551616) (k2 : l2 < 18446744073709551616) (k3 : h2 < 18446744073709551616) :
    Calls Tryz.prog 162 #[wd b1 h1 l1, wd b2 h2 l2] w fun e w' => ∃ h l : Nat, e = .returned (wd b2 h l) ∧ h * 18446744073709551616 + l = h2 * 18446744073709551616 + l2 - (h1 * 18446744073709551616 + l1) ∧ l < 18446744073709551616 ∧ h < 18446744073709551616 ∧ Grew w w' := by
  have c := bor_bd (l2 : Int) (l1 : Int)
  have nr := fun W => nearer_any b1 b2 h1 l1 h2 l2 W k1 k2
  rw [show decide (h1 * 18446744073709551616 + l1 < h2 * 18446744073709551616 + l2) = true by simp; omega] at nr
  have k4 : h1 < 18446744073709551616 := by omega
  obtain ⟨h, l, eh, el, hs, hl, hh⟩ : ∃ h l : Nat, ((h2 : Int) - h1 - bor l2 l1) % 18446744073709551616 = (h : Int) ∧ ((l2 : Int) - l1) % 18446744073709551616 = (l : Int) ∧
      h * 18446744073709551616 + l = h2 * 18446744073709551616 + l2 - (h1 * 18446744073709551616 + l1) ∧ l < 18446744073709551616 ∧ h < 18446744073709551616 := by
    refine ⟨(((h2 : Int) - h1 - bor l2 l1) % 18446744073709551616).toNat, (((l2 : Int) - l1) % 18446744073709551616).toNat, by omega, by omega, ?_, by omega, by omega⟩
    unfold bor; split <;> omega
  have S0 := fun W => sub64_0 (l2 : Int) (l1 : Int) (by omega) (by omega) (by omega) W
  have S1 := fun W => sub64_at (h2 : Int) (h1 : Int) _ (by omega) (by omega) (by omega) c.1 c.2 W
  rw [el] at S0
  rw [eh] at S1
  refine Calls.mono (R := fun e w' => e = .returned (wd b2 h l) ∧ Grew w w') ?_ fun e w' hp => ⟨h, l, hp.1, hs, hl, hh, hp.2⟩
  clear hn hs eh el k1 k2 k3 k4
  go_enter Tryz.func162, Tryz.ntmps162
  go_wp2_with (go_at_call 208; refine (nr _).mono ?_; rintro e w' ⟨rfl, c1, c2, rfl⟩)
  simp [bodyPost, results, Tryz.results162, go_sem]
  exact (((((Grew.refl _).alloc _).alloc _).alloc _).alloc _).alloc _

/-- The sum, with its sign. -/
theorem sum_any (b1 b2 : Bool) (h1 l1 h2 l2 : Nat) (w : World) (k1 : l1 < 18446744073709551616) (k2 : l2 < 18446744073709551616) (k3 : h1 < 9223372036854775808) (k4 : h2 < 9223372036854775808) :
    Calls Tryz.prog 162 #[wd b1 h1 l1, wd b2 h2 l2] w fun e w' => ∃ (b : Bool) (h l : Nat), e = .returned (wd b h l) ∧
      sval b (h * 18446744073709551616 + l) = sval b1 (h1 * 18446744073709551616 + l1) + sval b2 (h2 * 18446744073709551616 + l2) ∧ l < 18446744073709551616 ∧ h < 18446744073709551616 ∧ Grew w w' := by
  by_cases hb : b1 = b2
  · subst hb
    refine (sum_same b1 h1 l1 h2 l2 w (by omega) k1 k2).mono ?_
    rintro e w' ⟨rfl, B⟩
    refine ⟨_, _, _, rfl, ?_, by omega, by omega, B⟩
    unfold sval; split <;> omega
  · have hb' : (b1 == b2) = false := by simpa using hb
    by_cases hn : h1 * 18446744073709551616 + l1 < h2 * 18446744073709551616 + l2
    · refine (sum_near b1 b2 h1 l1 h2 l2 w hb' hn k1 k2 (by omega)).mono ?_
      rintro e w' ⟨h, l, rfl, hs, hl, hh, B⟩
      refine ⟨_, _, _, rfl, ?_, hl, hh, B⟩
      rw [hs]
      cases b1 <;> cases b2 <;> simp [sval] at hb ⊢ <;> omega
    · refine (sum_far b1 b2 h1 l1 h2 l2 w hb' (by omega) k1 k2 (by omega)).mono ?_
      rintro e w' ⟨h, l, rfl, hs, hl, hh, B⟩
      refine ⟨_, _, _, rfl, ?_, hl, hh, B⟩
      rw [hs]
      cases b1 <;> cases b2 <;> simp [sval] at hb ⊢ <;> omega
end Go.Proofs.YtnpdecbgakgbgaaGreatDoor

namespace Go.Proofs.YtnpdecbgakgbgaaGreatDoor
open Go.RowKit
attribute [local go_sem] cell?_more frozen?_more setCell_more more_lt more_drew more_drewN setCell_drewN alloc_drewN

set_option maxHeartbeats 1000000 in
theorem sign_any (b : Bool) (h l : Nat) (w : World) :
    Calls Tryz.prog 171 #[wd b h l] w fun e w' => e = .returned (.int .i64 (sval b (h * 18446744073709551616 + l)).sign) ∧ Grew w w' := by
  have key : (h = 0 ∧ l = 0) ∨ (h = 0 ∧ l ≠ 0) ∨ (h ≠ 0) := by omega
  rcases key with ⟨rfl, rfl⟩ | ⟨rfl, hl⟩ | hh
  · go_enter Tryz.func171, Tryz.ntmps171
    go_wp2
    go_ret
    refine ⟨ret_int ?_, (Grew.refl _).alloc _⟩
    cases b <;> rfl
  · have e0 : ((l : Int) == 0) = false := by simp; omega
    go_enter Tryz.func171, Tryz.ntmps171
    cases b
    all_goals go_wp2
    all_goals go_ret
    all_goals refine ⟨ret_int ?_, (Grew.refl _).alloc _⟩
    · rw [sval_false, Int.sign_eq_one_of_pos (by omega)]
    · rw [sval_true, Int.sign_eq_neg_one_of_neg (by omega)]
  · have e0 : ((h : Int) == 0) = false := by simp; omega
    go_enter Tryz.func171, Tryz.ntmps171
    cases b
    all_goals go_wp2
    all_goals go_ret
    all_goals refine ⟨ret_int ?_, (Grew.refl _).alloc _⟩
    · rw [sval_false, Int.sign_eq_one_of_pos (by omega)]
    · rw [sval_true, Int.sign_eq_neg_one_of_neg (by omega)]

set_option maxHeartbeats 1000000 in
theorem difference_any (b1 b2 : Bool) (h1 l1 h2 l2 : Nat) (w : World) (k1 : l1 < 18446744073709551616) (k2 : l2 < 18446744073709551616) (k3 : h1 < 9223372036854775808) (k4 : h2 < 9223372036854775808) :
    Calls Tryz.prog 168 #[wd b1 h1 l1, wd b2 h2 l2] w fun e w' => ∃ (b : Bool) (h l : Nat), e = .returned (wd b h l) ∧
      sval b (h * 18446744073709551616 + l) = sval b1 (h1 * 18446744073709551616 + l1) - sval b2 (h2 * 18446744073709551616 + l2) ∧ l < 18446744073709551616 ∧ h < 18446744073709551616 ∧ Grew w w' := by
  have es : sval (!b2) (h2 * 18446744073709551616 + l2) = - sval b2 (h2 * 18446744073709551616 + l2) := by cases b2 <;> simp [sval]
  have S := fun W => sum_any b1 (!b2) h1 l1 h2 l2 W k1 k2 k3 k4
  rw [es] at S
  clear es k1 k2 k3 k4
  go_enter Tryz.func168, Tryz.ntmps168
  go_wp2_with (go_at_call 162; refine (S _).mono ?_; rintro e w' ⟨b, h, l, rfl, hs, hl, hh, os, n, rfl⟩)
  refine bodyPost_ret_by (v := wd b h l) ?_ rfl ⟨b, h, l, rfl, by omega, hl, hh, ((((((Grew.refl _).alloc _).alloc _).alloc _).more _).drewN _)⟩
  simp [results, Tryz.results168, go_sem]

theorem ret_two {j k : IntKind} {a b c d : Int} (h : a = b) (h' : c = d) : Ending.returned (.tuple #[.int j a, .int k c]) = .returned (.tuple #[.int j b, .int k d]) := by rw [h, h']
theorem nz_in {z : Int} (h0 : -9223372036854775808 ≤ z) (h1 : z ≤ 9223372036854775807) : nz z = z ∧ nErr z = 0 := by
  have : fits z = true := (fits_iff z).2 ⟨h0, h1⟩
  simp [nz, nErr, this]
theorem nz_out {z : Int} (h : z < -9223372036854775808 ∨ 9223372036854775807 < z) : nz z = 0 ∧ nErr z = 32 := by
  have : fits z = false := by
    cases hf : fits z
    · rfl
    · have := (fits_iff z).1 hf; omega
  simp [nz, nErr, this]

set_option maxHeartbeats 1000000 in
theorem narrowed_any (b : Bool) (h l : Nat) (w : World) (hl : l < 18446744073709551616) :
    Calls Tryz.prog 161 #[wd b h l] w fun e w' => e = .returned (.tuple #[.int .i64 (nz (sval b (h * 18446744073709551616 + l))), .int .i64 (nErr (sval b (h * 18446744073709551616 + l)))]) ∧ Grew w w' := by
  go_enter Tryz.func161, Tryz.ntmps161
  cases b
  · rw [sval_false]
    go_wp2
    all_goals go_ret2
    all_goals refine ⟨?_, (Grew.refl _).alloc _⟩
    · have := nz_out (z := ((h * 18446744073709551616 + l : Nat) : Int)) (by omega)
      exact ret_two this.1.symm this.2.symm
    · have := nz_in (z := ((h * 18446744073709551616 + l : Nat) : Int)) (by omega) (by omega)
      exact ret_two (by rw [this.1]; omega) this.2.symm
    · have := nz_out (z := ((h * 18446744073709551616 + l : Nat) : Int)) (by omega)
      exact ret_two this.1.symm this.2.symm
  · rw [sval_true]
    go_wp2
    all_goals go_ret2
    all_goals refine ⟨?_, (Grew.refl _).alloc _⟩
    · have := nz_out (z := -((h * 18446744073709551616 + l : Nat) : Int)) (by omega)
      exact ret_two this.1.symm this.2.symm
    · have := nz_in (z := -((h * 18446744073709551616 + l : Nat) : Int)) (by omega) (by omega)
      refine ret_two (by rw [this.1]; simp only [wrap64, IntKind.wrap_u64]; omega) this.2.symm
    · have := nz_out (z := -((h * 18446744073709551616 + l : Nat) : Int)) (by omega)
      exact ret_two this.1.symm this.2.symm
end Go.Proofs.YtnpdecbgakgbgaaGreatDoor
