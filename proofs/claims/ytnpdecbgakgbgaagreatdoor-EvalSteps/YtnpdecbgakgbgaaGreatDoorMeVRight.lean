/-
  The contracts of package decimal's wide numbers, gone on: a sum of unlike signs, difference, sign, narrowed.
  The contracts of package decimal's wide numbers, gone on: difference, sign, narrowed.
  The contracts of package decimal's sums and orders: rightScale, Right, raised, ofScale, Add, Sub, Neg, Compare: for every decimal.
  The contracts of datum.Right and of what it calls.
-/
import Derived.Test.YtnpdecbgakgbgaaGreatDoorDWide
import Derived.Deep.RegionWith
import Derived.Deep.RegionHeld
import Derived.Deep.DrawnRows
import Derived.Test.YtnpdecbgakgbgaaGreatDoorMcDBits
import Derived.Deep.RegionHeld2
import Derived.Shelf.Unicode.ValidAny
import Derived.Ground.NamesProg
import Derived.Shelf.Lay
namespace Go.Proofs.YtnpdecbgakgbgaaGreatDoor
open Go.RowKit

set_option maxHeartbeats 1000000 in
theorem sum_far (b1 b2 : Bool) (h1 l1 h2 l2 : Nat) (w : World) (hb : (b1 == b2) = false) (hn : h2 * 18446744073709551616 + l2 ≤ h1 * 18446744073709551616 + l1)
    (k1 : l1 < 18446744073709551616) (k2 : l2 < 18446744073709551616) (k3 : h1 < 18446744073709551616) :
    Calls Tryz.prog 162 #[wd b1 h1 l1, wd b2 h2 l2] w fun e w' => ∃ h l : Nat, e = .returned (wd b1 h l) ∧ h * 18446744073709551616 + l = h1 * 18446744073709551616 + l1 - (h2 * 18446744073709551616 + l2) ∧ l < 18446744073709551616 ∧ h < 18446744073709551616 ∧ Grew w w' := by
  have c := bor_bd (l1 : Int) (l2 : Int)
  have nr := fun W => nearer_any b1 b2 h1 l1 h2 l2 W k1 k2
  rw [show decide (h1 * 18446744073709551616 + l1 < h2 * 18446744073709551616 + l2) = false by simp; omega] at nr
  have k4 : h2 < 18446744073709551616 := by omega
  obtain ⟨h, l, eh, el, hs, hl, hh⟩ : ∃ h l : Nat, ((h1 : Int) - h2 - bor l1 l2) % 18446744073709551616 = (h : Int) ∧ ((l1 : Int) - l2) % 18446744073709551616 = (l : Int) ∧
      h * 18446744073709551616 + l = h1 * 18446744073709551616 + l1 - (h2 * 18446744073709551616 + l2) ∧ l < 18446744073709551616 ∧ h < 18446744073709551616 := by
    refine ⟨(((h1 : Int) - h2 - bor l1 l2) % 18446744073709551616).toNat, (((l1 : Int) - l2) % 18446744073709551616).toNat, by omega, by omega, ?_, by omega, by omega⟩
    unfold bor; split <;> omega
  have S0 := fun W => sub64_0 (l1 : Int) (l2 : Int) (by omega) (by omega) (by omega) W
  have S1 := fun W => sub64_at (h1 : Int) (h2 : Int) _ (by omega) (by omega) (by omega) c.1 c.2 W
  rw [el] at S0
  rw [eh] at S1
  refine Calls.mono (R := fun e w' => e = .returned (wd b1 h l) ∧ Grew w w') ?_ fun e w' hp => ⟨h, l, hp.1, hs, hl, hh, hp.2⟩
  clear hn hs eh el k1 k2 k3 k4
  go_enter Tryz.func162, Tryz.ntmps162
  go_wp2_with (go_at_call 208; refine (nr _).mono ?_; rintro e w' ⟨rfl, c1, c2, rfl⟩)
  simp [bodyPost, results, Tryz.results162, go_sem]
  exact (((((Grew.refl _).alloc _).alloc _).alloc _).alloc _).alloc _

set_option maxHeartbeats 1000000 in
theorem sum_near (b1 b2 : Bool) (h1 l1 h2 l2 : Nat) (w : World) (hb : (b1 == b2) = false) (hn : h1 * 18446744073709551616 + l1 < h2 * 18446744073709551616 + l2)
    (k1 : l1 < 18446744073709551616) (k2 : l2 < 18446744073709551616) (k3 : h2 < 18446744073709551616) :
    Calls Tryz.prog 162 #[wd b1 h1 l1, wd b2 h2 l2] w fun e w' => ∃ h l : Nat, e = .returned (wd b2 h l) ∧ h * 18446744073709551616 + l = h2 * 18446744073709551616 + l2 - (h1 * 18446744073709551616 + l1) ∧ l < 18446744073709551616 ∧ h < 18446744073709551616 ∧ Grew w w' := by
  have c := bor_bd (l2 : Int) (l1 : Int)
  have nr := fun W => nearer_any b1 b2 h1 l1 h2 l2 W k1 k2
  rw [show decide (h1 * 18446744073709551616 + l1 < h2 * 18446744073709551616 + l2) = true by simp; omega] at nr
  have k4 : h1 < 18446744073709551616 := by omega
  obtain ⟨h, l, eh, el, hs, hl, hh⟩ : ∃ h l : Nat, ((h2 : Int) - h1 - bor l2 l1) % 18446744073709551616 = (h : Int) ∧ ((l2 : Int) - l1) % 18446744073709551616 = (l : Int) ∧
      h * 18446744073709551616 + l = h2 * 18446744073709551616 + l2 - (h1 * 18446744073709551616 + l1) ∧ l < 18446744073709551616 ∧ h < 18446744073709551616 := by
    refine ⟨(((h2 : Int) - h1 - bor l2 l1) % 18446744073709551616).toNat, (((l2 : Int) - l1) % 18446744073709551616).toNat, by omega, by omega, ?_, by omega, by omega⟩
    unfold bor; split <;> omega
  have S0 := fun W => sub64_0 (l2 : Int) (l1 : Int) (by omega) (by omega) (by omega) W
  have S1 := fun W => sub64_at (h2 : Int) (h1 : Int) _ (by omega) (by omega) (by omega) c.1 c.2 W
  rw [el] at S0
  rw [eh] at S1
  refine Calls.mono (R := fun e w' => e = .returned (wd b2 h l) ∧ Grew w w') ?_ fun e w' hp => ⟨h, l, hp.1, hs, hl, hh, hp.2⟩
  clear hn hs eh el k1 k2 k3 k4
  go_enter Tryz.func162, Tryz.ntmps162
  go_wp2_with (go_at_call 208; refine (nr _).mono ?_; rintro e w' ⟨rfl, c1, c2, rfl⟩)
  simp [bodyPost, results, Tryz.results162, go_sem]
  exact (((((Grew.refl _).alloc _).alloc _).alloc _).alloc _).alloc _

/-- The sum, with its sign. -/
theorem sum_any (b1 b2 : Bool) (h1 l1 h2 l2 : Nat) (w : World) (k1 : l1 < 18446744073709551616) (k2 : l2 < 18446744073709551616) (k3 : h1 < 9223372036854775808) (k4 : h2 < 9223372036854775808) :
    Calls Tryz.prog 162 #[wd b1 h1 l1, wd b2 h2 l2] w fun e w' => ∃ (b : Bool) (h l : Nat), e = .returned (wd b h l) ∧
      sval b (h * 18446744073709551616 + l) = sval b1 (h1 * 18446744073709551616 + l1) + sval b2 (h2 * 18446744073709551616 + l2) ∧ l < 18446744073709551616 ∧ h < 18446744073709551616 ∧ Grew w w' := by
  by_cases hb : b1 = b2
  · subst hb
    refine (sum_same b1 h1 l1 h2 l2 w (by omega) k1 k2).mono ?_
    rintro e w' ⟨rfl, B⟩
    refine ⟨_, _, _, rfl, ?_, by omega, by omega, B⟩
    unfold sval; split <;> omega
  · have hb' : (b1 == b2) = false := by simpa using hb
    by_cases hn : h1 * 18446744073709551616 + l1 < h2 * 18446744073709551616 + l2
    · refine (sum_near b1 b2 h1 l1 h2 l2 w hb' hn k1 k2 (by omega)).mono ?_
      rintro e w' ⟨h, l, rfl, hs, hl, hh, B⟩
      refine ⟨_, _, _, rfl, ?_, hl, hh, B⟩
      rw [hs]
      cases b1 <;> cases b2 <;> simp [sval] at hb ⊢ <;> omega
    · refine (sum_far b1 b2 h1 l1 h2 l2 w hb' (by omega) k1 k2 (by omega)).mono ?_
      rintro e w' ⟨h, l, rfl, hs, hl, hh, B⟩
      refine ⟨_, _, _, rfl, ?_, hl, hh, B⟩
      rw [hs]
      cases b1 <;> cases b2 <;> simp [sval] at hb ⊢ <;> omega
end Go.Proofs.YtnpdecbgakgbgaaGreatDoor

namespace Go.Proofs.YtnpdecbgakgbgaaGreatDoor
open Go.RowKit
attribute [local go_sem] cell?_more frozen?_more setCell_more more_lt more_drew more_drewN setCell_drewN alloc_drewN

set_option maxHeartbeats 1000000 in
theorem sign_any (b : Bool) (h l : Nat) (w : World) :
    Calls Tryz.prog 171 #[wd b h l] w fun e w' => e = .returned (.int .i64 (sval b (h * 18446744073709551616 + l)).sign) ∧ Grew w w' := by
  have key : (h = 0 ∧ l = 0) ∨ (h = 0 ∧ l ≠ 0) ∨ (h ≠ 0) := by omega
  rcases key with ⟨rfl, rfl⟩ | ⟨rfl, hl⟩ | hh
  · go_enter Tryz.func171, Tryz.ntmps171
    go_wp2
    go_ret
    refine ⟨ret_int ?_, (Grew.refl _).alloc _⟩
    cases b <;> rfl
  · have e0 : ((l : Int) == 0) = false := by simp; omega
    go_enter Tryz.func171, Tryz.ntmps171
    cases b
    all_goals go_wp2
    all_goals go_ret
    all_goals refine ⟨ret_int ?_, (Grew.refl _).alloc _⟩
    · rw [sval_false, Int.sign_eq_one_of_pos (by omega)]
    · rw [sval_true, Int.sign_eq_neg_one_of_neg (by omega)]
  · have e0 : ((h : Int) == 0) = false := by simp; omega
    go_enter Tryz.func171, Tryz.ntmps171
    cases b
    all_goals go_wp2
    all_goals go_ret
    all_goals refine ⟨ret_int ?_, (Grew.refl _).alloc _⟩
    · rw [sval_false, Int.sign_eq_one_of_pos (by omega)]
    · rw [sval_true, Int.sign_eq_neg_one_of_neg (by omega)]

set_option maxHeartbeats 1000000 in
theorem difference_any (b1 b2 : Bool) (h1 l1 h2 l2 : Nat) (w : World) (k1 : l1 < 18446744073709551616) (k2 : l2 < 18446744073709551616) (k3 : h1 < 9223372036854775808) (k4 : h2 < 9223372036854775808) :
    Calls Tryz.prog 168 #[wd b1 h1 l1, wd b2 h2 l2] w fun e w' => ∃ (b : Bool) (h l : Nat), e = .returned (wd b h l) ∧
      sval b (h * 18446744073709551616 + l) = sval b1 (h1 * 18446744073709551616 + l1) - sval b2 (h2 * 18446744073709551616 + l2) ∧ l < 18446744073709551616 ∧ h < 18446744073709551616 ∧ Grew w w' := by
  have es : sval (!b2) (h2 * 18446744073709551616 + l2) = - sval b2 (h2 * 18446744073709551616 + l2) := by cases b2 <;> simp [sval]
  have S := fun W => sum_any b1 (!b2) h1 l1 h2 l2 W k1 k2 k3 k4
  rw [es] at S
  clear es k1 k2 k3 k4
  go_enter Tryz.func168, Tryz.ntmps168
  go_wp2_with (go_at_call 162; refine (S _).mono ?_; rintro e w' ⟨b, h, l, rfl, hs, hl, hh, os, n, rfl⟩)
  refine bodyPost_ret_by (v := wd b h l) ?_ rfl ⟨b, h, l, rfl, by omega, hl, hh, ((((((Grew.refl _).alloc _).alloc _).alloc _).more _).drewN _)⟩
  simp [results, Tryz.results168, go_sem]

theorem ret_two {j k : IntKind} {a b c d : Int} (h : a = b) (h' : c = d) : Ending.returned (.tuple #[.int j a, .int k c]) = .returned (.tuple #[.int j b, .int k d]) := by rw [h, h']
theorem nz_in {z : Int} (h0 : -9223372036854775808 ≤ z) (h1 : z ≤ 9223372036854775807) : nz z = z ∧ nErr z = 0 := by
  have : fits z = true := (fits_iff z).2 ⟨h0, h1⟩
  simp [nz, nErr, this]
theorem nz_out {z : Int} (h : z < -9223372036854775808 ∨ 9223372036854775807 < z) : nz z = 0 ∧ nErr z = 32 := by
  have : fits z = false := by
    cases hf : fits z
    · rfl
    · have := (fits_iff z).1 hf; omega
  simp [nz, nErr, this]

set_option maxHeartbeats 1000000 in
theorem narrowed_any (b : Bool) (h l : Nat) (w : World) (hl : l < 18446744073709551616) :
    Calls Tryz.prog 161 #[wd b h l] w fun e w' => e = .returned (.tuple #[.int .i64 (nz (sval b (h * 18446744073709551616 + l))), .int .i64 (nErr (sval b (h * 18446744073709551616 + l)))]) ∧ Grew w w' := by
  go_enter Tryz.func161, Tryz.ntmps161
  cases b
  · rw [sval_false]
    go_wp2
    all_goals go_ret2
    all_goals refine ⟨?_, (Grew.refl _).alloc _⟩
    · have := nz_out (z := ((h * 18446744073709551616 + l : Nat) : Int)) (by omega)
      exact ret_two this.1.symm this.2.symm
    · have := nz_in (z := ((h * 18446744073709551616 + l : Nat) : Int)) (by omega) (by omega)
      exact ret_two (by rw [this.1]; omega) this.2.symm
    · have := nz_out (z := ((h * 18446744073709551616 + l : Nat) : Int)) (by omega)
      exact ret_two this.1.symm this.2.symm
  · rw [sval_true]
    go_wp2
    all_goals go_ret2
    all_goals refine ⟨?_, (Grew.refl _).alloc _⟩
    · have := nz_out (z := -((h * 18446744073709551616 + l : Nat) : Int)) (by omega)
      exact ret_two this.1.symm this.2.symm
    · have := nz_in (z := -((h * 18446744073709551616 + l : Nat) : Int)) (by omega) (by omega)
      refine ret_two (by rw [this.1]; simp only [wrap64, IntKind.wrap_u64]; omega) this.2.symm
    · have := nz_out (z := -((h * 18446744073709551616 + l : Nat) : Int)) (by omega)
      exact ret_two this.1.symm this.2.symm
end Go.Proofs.YtnpdecbgakgbgaaGreatDoor

namespace Go.Proofs.YtnpdecbgakgbgaaGreatDoor
open Go.RowKit
attribute [local go_sem] cell?_more frozen?_more setCell_more more_lt more_drew more_drewN setCell_drewN alloc_drewN

/-- The table of powers as it lies in memory. -/
def Pw (w : World) : Prop := ∀ k : Nat, k < 13 → w.cell? ⟨1, k, none⟩ = some (.int .i64 (10 ^ k : Nat))
theorem Pw.pos {w : World} (h : Pw w) : 1 < w.heap.size := World.block_lt_of_cell? w _ (h 0 (by decide))
theorem Pw.later {w w' : World} (h : Pw w) (hb : Grew w w') : Pw w' := fun k hk => by rw [hb.below.cell (p := ⟨1, k, none⟩) h.pos]; exact h k hk

/-- A decimal as a value. -/
abbrev dv (u s : Int) : Value := .agg #[.int .i64 u, .int .i64 s]
def rightS (s : Int) : Bool := decide (0 ≤ s ∧ s ≤ 6)
theorem rightS_iff (s : Int) : rightS s = true ↔ (0 ≤ s ∧ s ≤ 6) := by simp [rightS]
theorem rightS_not (s : Int) : rightS s = false ↔ ¬ (0 ≤ s ∧ s ≤ 6) := by simp [rightS]

set_option maxHeartbeats 400000 in
theorem rightScale_any (s : Int) (w : World) : Calls Tryz.prog 170 #[.int .i64 s] w fun e w' => e = .returned (.bool (rightS s)) ∧ w = w' := by
  go_enter Tryz.func170, Tryz.ntmps170
  go_wp2
  all_goals go_ret
  all_goals refine ⟨ret_bool ?_, rfl⟩
  all_goals rw [Bool.eq_iff_iff, rightS_iff]
  all_goals simp
  all_goals omega

set_option maxHeartbeats 400000 in
theorem right_any (u s : Int) (w : World) : Calls Tryz.prog 155 #[dv u s] w fun e w' => e = .returned (.bool (rightS s)) ∧ Grew w w' := by
  go_enter Tryz.func155, Tryz.ntmps155
  go_wp2_with (go_at_call 170; refine (rightScale_any _ _).mono ?_; rintro e w' ⟨rfl, rfl⟩)
  go_ret
  exact ⟨rfl, (Grew.refl _).alloc _⟩

theorem product_ex (a b : Int) (w : World) (a0 : -9223372036854775808 ≤ a) (a1 : a ≤ 9223372036854775807) (b0 : -9223372036854775808 ≤ b) (b1 : b ≤ 9223372036854775807) :
    Calls Tryz.prog 164 #[.int .i64 a, .int .i64 b] w fun e w' => ∃ (n : Bool) (h l : Nat), e = .returned (wd n h l) ∧ sval n (h * 18446744073709551616 + l) = a * b ∧
      l < 18446744073709551616 ∧ h < 9223372036854775808 ∧ Grew w w' := by
  refine (product_any a b w a0 a1 b0 b1).mono ?_
  rintro e w' ⟨rfl, G⟩
  have hm : a.natAbs * b.natAbs ≤ 9223372036854775808 * 9223372036854775808 := Nat.mul_le_mul (by omega) (by omega)
  refine ⟨_, _, _, rfl, ?_, by omega, by omega, G⟩
  rw [← sval_mul a b]
  congr 1
  omega

set_option maxHeartbeats 1000000 in
theorem raised_any (u s t : Int) (w : World) (hP : Pw w) (u0 : -9223372036854775808 ≤ u) (u1 : u ≤ 9223372036854775807) (hs : 0 ≤ s) (hst : s ≤ t) (ht : t ≤ 6) :
    Calls Tryz.prog 167 #[dv u s, .int .i64 t] w fun e w' => ∃ (b : Bool) (h l : Nat), e = .returned (wd b h l) ∧ sval b (h * 18446744073709551616 + l) = u * (10 ^ (t - s).toNat : Nat) ∧
      l < 18446744073709551616 ∧ h < 9223372036854775808 ∧ Grew w w' := by
  obtain ⟨k, rfl⟩ : ∃ k : Nat, t = s + (k : Int) := ⟨(t - s).toNat, by omega⟩
  have c := hP k (by omega)
  have hpos := hP.pos
  have hz0 : ¬ w.heap.size = 0 := by omega
  have hz2 : 0 < w.heap.size := by omega
  have hz1 : ¬ 1 = w.heap.size := by omega
  have hp1 : ((10 ^ k : Nat) : Int) ≤ 1000000 := by
    have : 10 ^ k ≤ 10 ^ 6 := Nat.pow_le_pow_right (by decide) (by omega)
    omega
  have hp0 : (0 : Int) < ((10 ^ k : Nat) : Int) := by
    have : 0 < 10 ^ k := Nat.pow_pos (by decide)
    omega
  rw [show (s + (k : Int) - s).toNat = k by omega]
  generalize ((10 ^ k : Nat) : Int) = p at *
  have S := fun W => product_ex u p W u0 u1 (by omega) (by omega)
  have d1 : (k : Int) < 13 := by omega
  have d4 : IntKind.i64.wrap (s + (k : Int) - s) = (k : Int) := by rw [IntKind.wrap_i64]; omega
  clear hst hP
  go_enter Tryz.func167, Tryz.ntmps167
  go_wp2_with fail
  go_region_with (go_at_call 164; refine (S _).mono ?_; rintro e w' ⟨b, h, l, rfl, hv, hl, hh, os, n, rfl⟩)
  all_goals go_wp2
  all_goals refine bodyPost_ret_by (v := wd b h l) ?_ rfl ⟨b, h, l, rfl, hv, hl, hh, (((((Grew.refl _).alloc _).alloc _).more _).drewN _)⟩
  all_goals simp [results, Tryz.results167, go_sem]

/-- A decimal's units at a scale. -/
def at10 (u s t : Int) : Int := u * (10 ^ (t - s).toNat : Nat)

/-- What is answered of a number: a decimal of that scale, or an error. -/
def fs (z s : Int) : Int := if fits z then s else 0
abbrev dres (z s : Int) : Value := .tuple #[dv (nz z) (fs z s), .int .i64 (nErr z)]
abbrev dBad (e : Int) : Value := .tuple #[dv 0 0, .int .i64 e]

set_option maxHeartbeats 1000000 in
theorem ofScale_any (b : Bool) (h l : Nat) (s : Int) (w : World) (hl : l < 18446744073709551616) :
    Calls Tryz.prog 166 #[wd b h l, .int .i64 s] w fun e w' => e = .returned (dres (sval b (h * 18446744073709551616 + l)) s) ∧ Grew w w' := by
  have S := fun W => narrowed_any b h l W hl
  generalize sval b (h * 18446744073709551616 + l) = z at *
  by_cases hf : fits z = true
  · have e1 : nErr z = 0 := by simp [nErr, hf]
    have e3 : fs z s = s := by simp [fs, hf]
    rw [dres, e3, e1]
    rw [e1] at S
    clear e1 e3 hf
    go_enter Tryz.func166, Tryz.ntmps166
    go_wp2_with (go_at_call 161; refine (S _).mono ?_; rintro e w' ⟨rfl, os, n, rfl⟩)
    refine bodyPost_ret_by (v := .tuple #[dv (nz z) s, .int .i64 0]) ?_ rfl ⟨rfl, (((((Grew.refl _).alloc _).alloc _).more _).drewN _)⟩
    simp [results, Tryz.results166, go_sem]
  · have e1 : nErr z = 32 := by simp [nErr, hf]
    have e2 : nz z = 0 := by simp [nz, hf]
    have e3 : fs z s = 0 := by simp [fs, hf]
    rw [dres, e3, e1, e2]
    rw [e1, e2] at S
    clear e1 e2 e3 hf
    go_enter Tryz.func166, Tryz.ntmps166
    go_wp2_with (go_at_call 161; refine (S _).mono ?_; rintro e w' ⟨rfl, os, n, rfl⟩)
    refine bodyPost_ret_by (v := .tuple #[dv 0 0, .int .i64 32]) ?_ rfl ⟨rfl, (((((Grew.refl _).alloc _).alloc _).more _).drewN _)⟩
    simp [results, Tryz.results166, go_sem]
end Go.Proofs.YtnpdecbgakgbgaaGreatDoor

namespace Go.Proofs.YtnpdecbgakgbgaaGreatDoor
open Go.RowKit Go.Shelf
attribute [local go_sem] cell?_more frozen?_more setCell_more more_lt more_more more_drew more_drewN setCell_drewN alloc_drewN

shelf_lay Lays.n196 Nm 196 at Tryz as Tryz.laysValid

/-- The library's two tables of UTF-8 as they lie in memory. -/
def Tabs (w : World) : Prop := Lib.Utf8Tabs (Tryz.laysValid_ren.g 3) (Tryz.laysValid_ren.g 4) w

theorem eqVa (k n m k' n' m' : Int) (b b' : ByteArray) (w : World) : (Op.equalIn 10000 30 (va k n m b) (va k' n' m' b')).run Tryz.prog w = .ok (k == k' && (n == n' && (m == m' && b.toList == b'.toList))) w := by
  have u3 := Tryz.underlying3
  have a3 := Tryz.isAgg3
  have z3 := Tryz.sizeOf3
  have u4 := Tryz.underlying9
  have a4 := Tryz.isAgg9
  have z4 := Tryz.sizeOf9
  have hS : Tryz.prog.underlying 30 = some (.struct (Tryz.prog.fieldsOf 30)) := by kernel_rfl
  have hp : Tryz.prog.stoodInHeld 30 = false := by kernel_rfl
  rw [show (10000 : Nat) = 9999 + 1 from rfl, run_equalIn_agg w 9999 30 _ _ hS hp]
  simp only [Program.fieldsOf, Tryz.underlying30]
  go_simp
  by_cases h1 : k = k' <;> by_cases h2 : n = n' <;> by_cases h3 : m = m' <;> by_cases h4 : b.toList = b'.toList <;> simp [h1, h2, h3, h4]

def nob : ByteArray := ⟨#[]⟩

/-- A value with just the parts that its Kind names. -/
def vnm (k n m : Int) (b : ByteArray) : Value := if k = 1 ∨ k = 4 then va k n 0 ⟨#[]⟩ else if k = 2 ∨ k = 5 then va k n m ⟨#[]⟩ else if k = 3 then va k 0 0 b else va k 0 0 ⟨#[]⟩

theorem named_any (k n m : Int) (b : ByteArray) (w : World) : Calls Tryz.prog 88 #[va k n m b] w fun e w' => e = .returned (vnm k n m b) ∧ Grew w w' := by
  by_cases h1 : k = 1
  · subst h1
    go_enter Tryz.func88, Tryz.ntmps88
    go_wp2
    refine bodyPost_ret_by (v := va 1 n 0 ⟨#[]⟩) ?_ rfl ⟨by simp [vnm], ?_⟩
    · simp [results, Tryz.results88, go_sem]
    · repeat (first | exact Grew.refl _ | apply Grew.drew | apply Grew.drewN | apply Grew.alloc | apply Grew.more)
  have c1 : (k == 1) = false := by simpa using h1
  by_cases h4 : k = 4
  · subst h4
    go_enter Tryz.func88, Tryz.ntmps88
    go_wp2
    refine bodyPost_ret_by (v := va 4 n 0 ⟨#[]⟩) ?_ rfl ⟨by simp [vnm], ?_⟩
    · simp [results, Tryz.results88, go_sem]
    · repeat (first | exact Grew.refl _ | apply Grew.drew | apply Grew.drewN | apply Grew.alloc | apply Grew.more)
  have c4 : (k == 4) = false := by simpa using h4
  by_cases h2 : k = 2
  · subst h2
    go_enter Tryz.func88, Tryz.ntmps88
    go_wp2
    refine bodyPost_ret_by (v := va 2 n m ⟨#[]⟩) ?_ rfl ⟨by simp [vnm], ?_⟩
    · simp [results, Tryz.results88, go_sem]
    · repeat (first | exact Grew.refl _ | apply Grew.drew | apply Grew.drewN | apply Grew.alloc | apply Grew.more)
  have c2 : (k == 2) = false := by simpa using h2
  by_cases h5 : k = 5
  · subst h5
    go_enter Tryz.func88, Tryz.ntmps88
    go_wp2
    refine bodyPost_ret_by (v := va 5 n m ⟨#[]⟩) ?_ rfl ⟨by simp [vnm], ?_⟩
    · simp [results, Tryz.results88, go_sem]
    · repeat (first | exact Grew.refl _ | apply Grew.drew | apply Grew.drewN | apply Grew.alloc | apply Grew.more)
  have c5 : (k == 5) = false := by simpa using h5
  by_cases h3 : k = 3
  · subst h3
    go_enter Tryz.func88, Tryz.ntmps88
    go_wp2
    refine bodyPost_ret_by (v := va 3 0 0 b) ?_ rfl ⟨by simp [vnm], ?_⟩
    · simp [results, Tryz.results88, go_sem]
    · repeat (first | exact Grew.refl _ | apply Grew.drew | apply Grew.drewN | apply Grew.alloc | apply Grew.more)
  have c3 : (k == 3) = false := by simpa using h3
  go_enter Tryz.func88, Tryz.ntmps88
  go_wp2
  refine bodyPost_ret_by (v := va k 0 0 ⟨#[]⟩) ?_ rfl ⟨by simp [vnm, h1, h2, h3, h4, h5], ?_⟩
  · simp [results, Tryz.results88, go_sem]
  · repeat (first | exact Grew.refl _ | apply Grew.drew | apply Grew.drewN | apply Grew.alloc | apply Grew.more)

theorem units_any (k n m : Int) (b : ByteArray) (w : World) : Calls Tryz.prog 156 #[va k n m b] w fun e w' => e = .returned (dv n m) ∧ Grew w w' := by
  go_enter Tryz.func156, Tryz.ntmps156
  go_wp2
  refine bodyPost_ret_by (v := dv n m) ?_ rfl ⟨rfl, ?_⟩
  · simp [results, Tryz.results156, go_sem]
  · repeat (first | exact Grew.refl _ | apply Grew.drew | apply Grew.drewN | apply Grew.alloc | apply Grew.more)

theorem point_any (k n m : Int) (b : ByteArray) (w : World) : Calls Tryz.prog 151 #[va k n m b] w fun e w' => e = .returned (dv n m) ∧ Grew w w' := by
  go_enter Tryz.func151, Tryz.ntmps151
  go_wp2
  refine bodyPost_ret_by (v := dv n m) ?_ rfl ⟨rfl, ?_⟩
  · simp [results, Tryz.results151, go_sem]
  · repeat (first | exact Grew.refl _ | apply Grew.drew | apply Grew.drewN | apply Grew.alloc | apply Grew.more)


/-- May a point be? -/
def ok1 (x : Int) : Bool := decide (-1048576 ≤ x ∧ x ≤ 1048576)
theorem gfits_any (n : Int) (w : World) : Calls Tryz.prog 206 #[.int .i64 n] w fun e w' => e = .returned (.bool (ok1 n)) ∧ w = w' := by
  unfold ok1
  by_cases h1 : -1048576 ≤ n
  · by_cases h2 : n ≤ 1048576
    · have h3 : decide (-1048576 ≤ n ∧ n ≤ 1048576) = true := by simp [h1, h2]
      rw [h3]
      go_enter Tryz.func206, Tryz.ntmps206
      go_wp2
      all_goals go_ret
      all_goals exact ⟨rfl, rfl⟩
    · have h3 : decide (-1048576 ≤ n ∧ n ≤ 1048576) = false := by simp [h2]
      rw [h3]
      go_enter Tryz.func206, Tryz.ntmps206
      go_wp2
      all_goals go_ret
      all_goals exact ⟨rfl, rfl⟩
  · have h3 : decide (-1048576 ≤ n ∧ n ≤ 1048576) = false := by simp [h1]
    rw [h3]
    go_enter Tryz.func206, Tryz.ntmps206
    go_wp2
    all_goals go_ret
    all_goals exact ⟨rfl, rfl⟩

theorem gright_any (x y : Int) (w : World) : Calls Tryz.prog 158 #[dv x y] w fun e w' => e = .returned (.bool (ok1 x && ok1 y)) ∧ Grew w w' := by
  cases hx : ok1 x
  · have X : ∀ W, Calls Tryz.prog 206 #[.int .i64 x] W fun e w' => e = .returned (.bool false) ∧ W = w' := fun W => by have := gfits_any x W; rwa [hx] at this
    clear hx
    go_enter Tryz.func158, Tryz.ntmps158
    go_wp2_with (go_at_call 206; refine (X _).mono ?_; rintro e w' ⟨rfl, rfl⟩)
    all_goals go_ret
    all_goals exact ⟨rfl, (by repeat (first | exact Grew.refl _ | apply Grew.drew | apply Grew.drewN | apply Grew.alloc | apply Grew.more))⟩
  · have X : ∀ W, Calls Tryz.prog 206 #[.int .i64 x] W fun e w' => e = .returned (.bool true) ∧ W = w' := fun W => by have := gfits_any x W; rwa [hx] at this
    have Y := fun W => gfits_any y W
    generalize ok1 y = b at *
    clear hx
    go_enter Tryz.func158, Tryz.ntmps158
    go_wp2_with (first
      | (go_at_call_of 206 (Value.int IntKind.i64 x); refine (X _).mono ?_; rintro e w' ⟨rfl, rfl⟩)
      | (go_at_call 206; refine (Y _).mono ?_; rintro e w' ⟨rfl, rfl⟩))
    all_goals go_ret
    all_goals exact ⟨rfl, (by repeat (first | exact Grew.refl _ | apply Grew.drew | apply Grew.drewN | apply Grew.alloc | apply Grew.more))⟩

/-- Do the parts that its Kind names fit? -/
def vft (k n m : Int) (b : ByteArray) : Bool :=
  if k = 0 ∨ k = 1 then true else if k = 2 then rightS m else if k = 3 then decide (b.size ≤ 256) && Lib.validD b.data.toList
  else if k = 4 then n == 0 || n == 1 else if k = 5 then ok1 n && ok1 m else false

theorem below_trans {a b c : World} (h : Below a.heap.size a b) (k : Below b.heap.size b c) : Below a.heap.size a c := h.trans (k.mono h.size)
theorem Tabs.later {w w' : World} (h : Tabs w) (hb : Below w.heap.size w w') : Tabs w' := Utf8Tabs_below h hb

set_option maxHeartbeats 1000000 in
theorem vfits_any (k n m : Int) (b : ByteArray) (w : World) (hT : Tabs w) : Calls Tryz.prog 89 #[va k n m b] w fun e w' => e = .returned (.bool (vft k n m b)) ∧ Below w.heap.size w w' := by
  by_cases h0 : k = 0
  · subst h0
    go_enter Tryz.func89, Tryz.ntmps89
    go_wp2
    all_goals go_ret
    all_goals exact ⟨by simp [vft], Grew.below (by repeat (first | exact Grew.refl _ | apply Grew.drew | apply Grew.drewN | apply Grew.alloc | apply Grew.more))⟩
  have c0 : (k == 0) = false := by simpa using h0
  by_cases h1 : k = 1
  · subst h1
    go_enter Tryz.func89, Tryz.ntmps89
    go_wp2
    all_goals go_ret
    all_goals exact ⟨by simp [vft], Grew.below (by repeat (first | exact Grew.refl _ | apply Grew.drew | apply Grew.drewN | apply Grew.alloc | apply Grew.more))⟩
  have c1 : (k == 1) = false := by simpa using h1
  by_cases h2 : k = 2
  · subst h2
    have U := fun W => units_any 2 n m b W
    have R := fun W => right_any n m W
    go_enter Tryz.func89, Tryz.ntmps89
    go_wp2_with (first
      | (go_at_call 156; refine (U _).mono ?_; rintro e w1 ⟨rfl, os1, n1, rfl⟩)
      | (go_at_call 155; refine (R _).mono ?_; rintro e w2 ⟨rfl, os2, n2, rfl⟩))
    all_goals go_ret
    all_goals exact ⟨by simp [vft], Grew.below (by repeat (first | exact Grew.refl _ | apply Grew.drew | apply Grew.drewN | apply Grew.alloc | apply Grew.more))⟩
  have c2 : (k == 2) = false := by simpa using h2
  by_cases h3 : k = 3
  · subst h3
    by_cases g0 : b.size ≤ 256
    · have d0 : (b.size : Int) ≤ 256 := by omega
      have V : ∀ W, Grew w W → _ := fun W (h : Grew w W) => Any.utf8_ValidString Tryz.laysValid b W (by omega) (hT.later h.below)
      have V' : ∀ W, Grew w W → Calls Tryz.prog 157 #[.string b] W fun e w' => e = .returned (.bool (Lib.validD b.data.toList)) ∧ Below W.heap.size W w' := V
      clear V
      generalize hg : Lib.validD b.data.toList = g at V'
      clear hT
      go_enter Tryz.func89, Tryz.ntmps89
      go_wp2_with (go_at_call 157; refine (V' _ (by repeat (first | exact Grew.refl _ | apply Grew.drew | apply Grew.drewN | apply Grew.alloc | apply Grew.more))).mono ?_; rintro e w1 ⟨rfl, hb1⟩)
      all_goals go_ret
      all_goals refine ⟨by simp [vft, hg, g0], ?_⟩
      all_goals exact below_trans (Grew.below (by repeat (first | exact Grew.refl _ | apply Grew.drew | apply Grew.drewN | apply Grew.alloc | apply Grew.more))) hb1
    have d0 : ¬ (b.size : Int) ≤ 256 := by omega
    go_enter Tryz.func89, Tryz.ntmps89
    go_wp2
    all_goals go_ret
    all_goals exact ⟨by simp [vft, g0], Grew.below (by repeat (first | exact Grew.refl _ | apply Grew.drew | apply Grew.drewN | apply Grew.alloc | apply Grew.more))⟩
  have c3 : (k == 3) = false := by simpa using h3
  by_cases h4 : k = 4
  · subst h4
    by_cases g0 : n = 0
    · subst g0
      go_enter Tryz.func89, Tryz.ntmps89
      go_wp2
      all_goals go_ret
      all_goals exact ⟨by simp [vft], Grew.below (by repeat (first | exact Grew.refl _ | apply Grew.drew | apply Grew.drewN | apply Grew.alloc | apply Grew.more))⟩
    have d0 : (n == 0) = false := by simpa using g0
    go_enter Tryz.func89, Tryz.ntmps89
    go_wp2
    all_goals go_ret
    all_goals exact ⟨by simp [vft, d0], Grew.below (by repeat (first | exact Grew.refl _ | apply Grew.drew | apply Grew.drewN | apply Grew.alloc | apply Grew.more))⟩
  have c4 : (k == 4) = false := by simpa using h4
  by_cases h5 : k = 5
  · subst h5
    have U := fun W => point_any 5 n m b W
    have R := fun W => gright_any n m W
    generalize hg : (ok1 n && ok1 m) = g at R
    go_enter Tryz.func89, Tryz.ntmps89
    go_wp2_with (first
      | (go_at_call 151; refine (U _).mono ?_; rintro e w1 ⟨rfl, os1, n1, rfl⟩)
      | (go_at_call 158; refine (R _).mono ?_; rintro e w2 ⟨rfl, os2, n2, rfl⟩))
    all_goals go_ret
    all_goals exact ⟨by simp [vft, hg], Grew.below (by repeat (first | exact Grew.refl _ | apply Grew.drew | apply Grew.drewN | apply Grew.alloc | apply Grew.more))⟩
  have c5 : (k == 5) = false := by simpa using h5
  go_enter Tryz.func89, Tryz.ntmps89
  go_wp2
  all_goals go_ret
  all_goals exact ⟨by simp [vft, h0, h1, h2, h3, h4, h5], Grew.below (by repeat (first | exact Grew.refl _ | apply Grew.drew | apply Grew.drewN | apply Grew.alloc | apply Grew.more))⟩

end Go.Proofs.YtnpdecbgakgbgaaGreatDoor
