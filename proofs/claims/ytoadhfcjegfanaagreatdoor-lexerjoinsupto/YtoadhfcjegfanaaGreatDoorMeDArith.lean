/-
  The contracts of package decimal's wide numbers, gone on: a sum of unlike signs, difference, sign, narrowed.
  The contracts of package decimal's wide numbers, gone on: difference, sign, narrowed.
  The contracts of package decimal's sums and orders: rightScale, Right, raised, ofScale, Add, Sub, Neg, Compare: for every decimal.
-/
import Derived.Test.YtoadhfcjegfanaaGreatDoorDWide
import Derived.Deep.RegionWith
import Derived.Deep.RegionHeld
import Derived.Deep.DrawnRows
namespace Go.Proofs.YtoadhfcjegfanaaGreatDoor
open Go.RowKit

end Go.Proofs.YtoadhfcjegfanaaGreatDoor

namespace Go.Proofs.YtoadhfcjegfanaaGreatDoor
open Go.RowKit
attribute [local go_sem] cell?_more frozen?_more setCell_more more_lt more_drew more_drewN setCell_drewN alloc_drewN

theorem ret_two {j k : IntKind} {a b c d : Int} (h : a = b) (h' : c = d) : Ending.returned (.tuple #[.int j a, .int k c]) = .returned (.tuple #[.int j b, .int k d]) := by rw [h, h']
theorem nz_in {z : Int} (h0 : -9223372036854775808 ≤ z) (h1 : z ≤ 9223372036854775807) : nz z = z ∧ nErr z = 0 := by
  have : fits z = true := (fits_iff z).2 ⟨h0, h1⟩
  simp [nz, nErr, this]
theorem nz_out {z : Int} (h : z < -9223372036854775808 ∨ 9223372036854775807 < z) : nz z = 0 ∧ nErr z = 32 := by
  have : fits z = false := by
    cases hf : fits z
    · rfl
    · have := (fits_iff z).1 hf; omega
  simp [nz, nErr, this]

set_option maxHeartbeats 1000000 in
theorem narrowed_any (b : Bool) (h l : Nat) (w : World) (hl : l < 18446744073709551616) :
    Calls Tryz.prog 176 #[wd b h l] w fun e w' => e = .returned (.tuple #[.int .i64 (nz (sval b (h * 18446744073709551616 + l))), .int .i64 (nErr (sval b (h * 18446744073709551616 + l)))]) ∧ Grew w w' := by
  go_enter Tryz.func176, Tryz.ntmps176
  cases b
  · rw [sval_false]
    go_wp2
    all_goals go_ret2
    all_goals refine ⟨?_, (Grew.refl _).alloc _⟩
    · have := nz_out (z := ((h * 18446744073709551616 + l : Nat) : Int)) (by omega)
      exact ret_two this.1.symm this.2.symm
    · have := nz_in (z := ((h * 18446744073709551616 + l : Nat) : Int)) (by omega) (by omega)
      exact ret_two (by rw [this.1]; omega) this.2.symm
    · have := nz_out (z := ((h * 18446744073709551616 + l : Nat) : Int)) (by omega)
      exact ret_two this.1.symm this.2.symm
  · rw [sval_true]
    go_wp2
    all_goals go_ret2
    all_goals refine ⟨?_, (Grew.refl _).alloc _⟩
    · have := nz_out (z := -((h * 18446744073709551616 + l : Nat) : Int)) (by omega)
      exact ret_two this.1.symm this.2.symm
    · have := nz_in (z := -((h * 18446744073709551616 + l : Nat) : Int)) (by omega) (by omega)
      refine ret_two (by rw [this.1]; simp only [wrap64, IntKind.wrap_u64]; omega) this.2.symm
    · have := nz_out (z := -((h * 18446744073709551616 + l : Nat) : Int)) (by omega)
      exact ret_two this.1.symm this.2.symm
end Go.Proofs.YtoadhfcjegfanaaGreatDoor

namespace Go.Proofs.YtoadhfcjegfanaaGreatDoor
open Go.RowKit
attribute [local go_sem] cell?_more frozen?_more setCell_more more_lt more_drew more_drewN setCell_drewN alloc_drewN

/-- A decimal as a value. -/
abbrev dv (u s : Int) : Value := .agg #[.int .i64 u, .int .i64 s]
def rightS (s : Int) : Bool := decide (0 ≤ s ∧ s ≤ 6)
theorem rightS_iff (s : Int) : rightS s = true ↔ (0 ≤ s ∧ s ≤ 6) := by simp [rightS]
theorem rightS_not (s : Int) : rightS s = false ↔ ¬ (0 ≤ s ∧ s ≤ 6) := by simp [rightS]

set_option maxHeartbeats 400000 in
theorem rightScale_any (s : Int) (w : World) : Calls Tryz.prog 157 #[.int .i64 s] w fun e w' => e = .returned (.bool (rightS s)) ∧ w = w' := by
  go_enter Tryz.func157, Tryz.ntmps157
  go_wp2
  all_goals go_ret
  all_goals refine ⟨ret_bool ?_, rfl⟩
  all_goals rw [Bool.eq_iff_iff, rightS_iff]
  all_goals simp
  all_goals omega

set_option maxHeartbeats 400000 in
theorem right_any (u s : Int) (w : World) : Calls Tryz.prog 131 #[dv u s] w fun e w' => e = .returned (.bool (rightS s)) ∧ Grew w w' := by
  go_enter Tryz.func131, Tryz.ntmps131
  go_wp2_with (go_at_call 157; refine (rightScale_any _ _).mono ?_; rintro e w' ⟨rfl, rfl⟩)
  go_ret
  exact ⟨rfl, (Grew.refl _).alloc _⟩

/-- A decimal's units at a scale. -/
def at10 (u s t : Int) : Int := u * (10 ^ (t - s).toNat : Nat)

/-- What is answered of a number: a decimal of that scale, or an error. -/
def fs (z s : Int) : Int := if fits z then s else 0
abbrev dres (z s : Int) : Value := .tuple #[dv (nz z) (fs z s), .int .i64 (nErr z)]
abbrev dBad (e : Int) : Value := .tuple #[dv 0 0, .int .i64 e]

set_option maxHeartbeats 1000000 in
theorem ofScale_any (b : Bool) (h l : Nat) (s : Int) (w : World) (hl : l < 18446744073709551616) :
    Calls Tryz.prog 154 #[wd b h l, .int .i64 s] w fun e w' => e = .returned (dres (sval b (h * 18446744073709551616 + l)) s) ∧ Grew w w' := by
  have S := fun W => narrowed_any b h l W hl
  generalize sval b (h * 18446744073709551616 + l) = z at *
  by_cases hf : fits z = true
  · have e1 : nErr z = 0 := by simp [nErr, hf]
    have e3 : fs z s = s := by simp [fs, hf]
    rw [dres, e3, e1]
    rw [e1] at S
    clear e1 e3 hf
    go_enter Tryz.func154, Tryz.ntmps154
    go_wp2_with (go_at_call 176; refine (S _).mono ?_; rintro e w' ⟨rfl, os, n, rfl⟩)
    refine bodyPost_ret_by (v := .tuple #[dv (nz z) s, .int .i64 0]) ?_ rfl ⟨rfl, (((((Grew.refl _).alloc _).alloc _).more _).drewN _)⟩
    simp [results, Tryz.results154, go_sem]
  · have e1 : nErr z = 32 := by simp [nErr, hf]
    have e2 : nz z = 0 := by simp [nz, hf]
    have e3 : fs z s = 0 := by simp [fs, hf]
    rw [dres, e3, e1, e2]
    rw [e1, e2] at S
    clear e1 e2 e3 hf
    go_enter Tryz.func154, Tryz.ntmps154
    go_wp2_with (go_at_call 176; refine (S _).mono ?_; rintro e w' ⟨rfl, os, n, rfl⟩)
    refine bodyPost_ret_by (v := .tuple #[dv 0 0, .int .i64 32]) ?_ rfl ⟨rfl, (((((Grew.refl _).alloc _).alloc _).more _).drewN _)⟩
    simp [results, Tryz.results154, go_sem]
end Go.Proofs.YtoadhfcjegfanaaGreatDoor
