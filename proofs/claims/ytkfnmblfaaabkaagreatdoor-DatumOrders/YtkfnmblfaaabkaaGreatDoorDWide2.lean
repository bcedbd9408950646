/-
  The contracts of package decimal's wide numbers, gone on: a sum of unlike signs, difference, sign, narrowed.
-/
import Derived.Test.YtkfnmblfaaabkaaGreatDoorDWide
namespace Go.Proofs.YtkfnmblfaaabkaaGreatDoor
open Go.RowKit

set_option maxHeartbeats 1000000 in
theorem sum_far (b1 b2 : Bool) (h1 l1 h2 l2 : Nat) (w : World) (hb : (b1 == b2) = false) (hn : h2 * 18446744073709551616 + l2 ≤ h1 * 18446744073709551616 + l1)
    (k1 : l1 < 18446744073709551616) (k2 : l2 < 18446744073709551616) (k3 : h1 < 18446744073709551616) :
    Calls Tryz.prog 151 #[wd b1 h1 l1, wd b2 h2 l2] w fun e w' => ∃ h l : Nat, e = .returned (wd b1 h l) ∧ h * 18446744073709551616 + l = h1 * 18446744073709551616 + l1 - (h2 * 18446744073709551616 + l2) ∧ l < 18446744073709551616 ∧ h < 18446744073709551616 ∧ Grew w w' := by
  have c := bor_bd (l1 : Int) (l2 : Int)
  have nr := fun W => nearer_any b1 b2 h1 l1 h2 l2 W k1 k2
  rw [show decide (h1 * 18446744073709551616 + l1 < h2 * 18446744073709551616 + l2) = false by simp; omega] at nr
  have k4 : h2 < 18446744073709551616 := by omega
  obtain ⟨h, l, eh, el, hs, hl, hh⟩ : ∃ h l : Nat, ((h1 : Int) - h2 - bor l1 l2) % 18446744073709551616 = (h : Int) ∧ ((l1 : Int) - l2) % 18446744073709551616 = (l : Int) ∧
      h * 18446744073709551616 + l = h1 * 18446744073709551616 + l1 - (h2 * 18446744073709551616 + l2) ∧ l < 18446744073709551616 ∧ h < 18446744073709551616 := by
    refine ⟨(((h1 : Int) - h2 - bor l1 l2) % 18446744073709551616).toNat, (((l1 : Int) - l2) % 18446744073709551616).toNat, by omega, by omega, ?_, by omega, by omega⟩
    unfold bor; split <;> omega
  have S0 := fun W => sub64_0 (l1 : Int) (l2 : Int) (by omega) (by omega) (by omega) W
  have S1 := fun W => sub64_at (h1 : Int) (h2 : Int) _ (by omega) (by omega) (by omega) c.1 c.2 W
  rw [el] at S0
  rw [eh] at S1
  refine Calls.mono (R := fun e w' => e = .returned (wd b1 h l) ∧ Grew w w') ?_ fun e w' hp => ⟨h, l, hp.1, hs, hl, hh, hp.2⟩
  clear hn hs eh el k1 k2 k3 k4
  go_enter Tryz.func151, Tryz.ntmps151
  go_wp2_with (go_at_call 176; refine (nr _).mono ?_; rintro e w' ⟨rfl, c1, c2, rfl⟩)
  simp [bodyPost, results, Tryz.results151, go_sem]
  exact (((((Grew.refl _).alloc _).alloc _).alloc _).alloc _).alloc _

set_option maxHeartbeats 1000000 in
theorem sum_near (b1 b2 : Bool) (h1 l1 h2 l2 : Nat) (w : World) (hb : (b1 == b2) = false) (hn : h1 * 18446744073709551616 + l1 < h2 * 18446744073709551616 + l2)
    (k1 : l1 < 18446744073709551616) (k2 : l2 < 18446744073709551616) (k3 : h2 < 18446744073709551616) :
    Calls Tryz.prog 151 #[wd b1 h1 l1, wd b2 h2 l2] w fun e w' => ∃ h l : Nat, e = .returned (wd b2 h l) ∧ h * 18446744073709551616 + l = h2 * 18446744073709551616 + l2 - (h1 * 18446744073709551616 + l1) ∧ l < 18446744073709551616 ∧ h < 18446744073709551616 ∧ Grew w w' := by
  have c := bor_bd (l2 : Int) (l1 : Int)
  have nr := fun W => nearer_any b1 b2 h1 l1 h2 l2 W k1 k2
  rw [show decide (h1 * 18446744073709551616 + l1 < h2 * 18446744073709551616 + l2) = true by simp; omega] at nr
  have k4 : h1 < 18446744073709551616 := by omega
  obtain ⟨h, l, eh, el, hs, hl, hh⟩ : ∃ h l : Nat, ((h2 : Int) - h1 - bor l2 l1) % 18446744073709551616 = (h : Int) ∧ ((l2 : Int) - l1) % 18446744073709551616 = (l : Int) ∧
      h * 18446744073709551616 + l = h2 * 18446744073709551616 + l2 - (h1 * 18446744073709551616 + l1) ∧ l < 18446744073709551616 ∧ h < 18446744073709551616 := by
    refine ⟨(((h2 : Int) - h1 - bor l2 l1) % 18446744073709551616).toNat, (((l2 : Int) - l1) % 18446744073709551616).toNat, by omega, by omega, ?_, by omega, by omega⟩
    unfold bor; split <;> omega
  have S0 := fun W => sub64_0 (l2 : Int) (l1 : Int) (by omega) (by omega) (by omega) W
  have S1 := fun W => sub64_at (h2 : Int) (h1 : Int) _ (by omega) (by omega) (by omega) c.1 c.2 W
  rw [el] at S0
  rw [eh] at S1
  refine Calls.mono (R := fun e w' => e = .returned (wd b2 h l) ∧ Grew w w') ?_ fun e w' hp => ⟨h, l, hp.1, hs, hl, hh, hp.2⟩
  clear hn hs eh el k1 k2 k3 k4
  go_enter Tryz.func151, Tryz.ntmps151
  go_wp2_with (go_at_call 176; refine (nr _).mono ?_; rintro e w' ⟨rfl, c1, c2, rfl⟩)
  simp [bodyPost, results, Tryz.results151, go_sem]
  exact (((((Grew.refl _).alloc _).alloc _).alloc _).alloc _).alloc _

/-- The sum, with its sign. -/
theorem sum_any (b1 b2 : Bool) (h1 l1 h2 l2 : Nat) (w : World) (k1 : l1 < 18446744073709551616) (k2 : l2 < 18446744073709551616) (k3 : h1 < 9223372036854775808) (k4 : h2 < 9223372036854775808) :
    Calls Tryz.prog 151 #[wd b1 h1 l1, wd b2 h2 l2] w fun e w' => ∃ (b : Bool) (h l : Nat), e = .returned (wd b h l) ∧
      sval b (h * 18446744073709551616 + l) = sval b1 (h1 * 18446744073709551616 + l1) + sval b2 (h2 * 18446744073709551616 + l2) ∧ l < 18446744073709551616 ∧ h < 18446744073709551616 ∧ Grew w w' := by
  by_cases hb : b1 = b2
  · subst hb
    refine (sum_same b1 h1 l1 h2 l2 w (by omega) k1 k2).mono ?_
    rintro e w' ⟨rfl, B⟩
    refine ⟨_, _, _, rfl, ?_, by omega, by omega, B⟩
    unfold sval; split <;> omega
  · have hb' : (b1 == b2) = false := by simpa using hb
    by_cases hn : h1 * 18446744073709551616 + l1 < h2 * 18446744073709551616 + l2
    · refine (sum_near b1 b2 h1 l1 h2 l2 w hb' hn k1 k2 (by omega)).mono ?_
      rintro e w' ⟨h, l, rfl, hs, hl, hh, B⟩
      refine ⟨_, _, _, rfl, ?_, hl, hh, B⟩
      rw [hs]
      cases b1 <;> cases b2 <;> simp [sval] at hb ⊢ <;> omega
    · refine (sum_far b1 b2 h1 l1 h2 l2 w hb' (by omega) k1 k2 (by omega)).mono ?_
      rintro e w' ⟨h, l, rfl, hs, hl, hh, B⟩
      refine ⟨_, _, _, rfl, ?_, hl, hh, B⟩
      rw [hs]
      cases b1 <;> cases b2 <;> simp [sval] at hb ⊢ <;> omega
end Go.Proofs.YtkfnmblfaaabkaaGreatDoor
