/-
  Plain facts on numbers that the walks of package decimal lean on: signs and magnitudes, rounding to the nearest and to the even one, and the school's division of two words by one. Nothing of the program is in it.
-/
import Derived.WalkKit
import Derived.WalkSpells
namespace Go.Proofs.YtncpkdgpijempaaDoor
open Go.RowKit

/-- A magnitude with its sign. -/
def sval (b : Bool) (m : Nat) : Int := if b then -(m : Int) else (m : Int)
theorem sval_false (m : Nat) : sval false m = (m : Int) := rfl
theorem sval_true (m : Nat) : sval true m = -(m : Int) := rfl
theorem sval_zero (b : Bool) : sval b 0 = 0 := by cases b <;> rfl
theorem sval_natAbs (b : Bool) (m : Nat) : (sval b m).natAbs = m := by cases b <;> simp [sval]
theorem sval_of (n : Int) : sval (decide (n < 0)) n.natAbs = n := by
  unfold sval; by_cases h : n < 0 <;> simp [h] <;> omega
theorem sval_mul (a b : Int) : sval (decide (a < 0) != decide (b < 0)) (a.natAbs * b.natAbs) = a * b := by
  rw [← Int.natAbs_mul]
  by_cases ha : a < 0 <;> by_cases hb : b < 0
  · have h := Int.mul_nonneg_of_nonpos_of_nonpos (Int.le_of_lt ha) (Int.le_of_lt hb)
    simp [sval, ha, hb]; omega
  · have h := Int.mul_nonpos_of_nonpos_of_nonneg (Int.le_of_lt ha) (Int.not_lt.1 hb)
    simp [sval, ha, hb]; omega
  · have h := Int.mul_nonpos_of_nonneg_of_nonpos (Int.not_lt.1 ha) (Int.le_of_lt hb)
    simp [sval, ha, hb]; omega
  · have h := Int.mul_nonneg (Int.not_lt.1 ha) (Int.not_lt.1 hb)
    simp [sval, ha, hb]; omega

/-- Does it fit? What is answered, and with which error. -/
def fits (z : Int) : Bool := decide (-9223372036854775808 ≤ z ∧ z ≤ 9223372036854775807)
def nz (z : Int) : Int := if fits z then z else 0
def nErr (z : Int) : Int := if fits z then 0 else 32
theorem fits_iff (z : Int) : fits z = true ↔ (-9223372036854775808 ≤ z ∧ z ≤ 9223372036854775807) := by simp [fits]

/-- n by d, rounded to the nearest, of two as near to the even one. -/
def rnd (n d : Nat) : Nat := if d < 2 * (n % d) ∨ (2 * (n % d) = d ∧ n / d % 2 = 1) then n / d + 1 else n / d
theorem rnd_one (n : Nat) : rnd n 1 = n := by unfold rnd; simp [Nat.mod_one]
theorem rnd_zero (d : Nat) : rnd 0 d = 0 := by unfold rnd; simp
theorem rnd_mul (a d : Nat) (h : 0 < d) : rnd (a * d) d = a := by
  unfold rnd; rw [Nat.mul_mod_left, Nat.mul_div_cancel _ h]; rw [if_neg]; rintro (h' | h') <;> omega
/-- Nearest: no more than half a unit away, and even where it is just half. -/
theorem rnd_near (n d : Nat) (h : 0 < d) : 2 * n ≤ 2 * (rnd n d * d) + d ∧ 2 * (rnd n d * d) ≤ 2 * n + d ∧ ((2 * n = 2 * (rnd n d * d) + d ∨ 2 * (rnd n d * d) = 2 * n + d) → rnd n d % 2 = 0) := by
  have e := Nat.div_add_mod n d
  have hm := Nat.mod_lt n h
  unfold rnd
  split
  · rename_i hc
    rw [Nat.mul_comm d] at e
    rw [Nat.add_mul, Nat.one_mul]
    generalize n / d * d = x at *
    refine ⟨by omega, by omega, fun hh => ?_⟩
    rcases hc with hc | hc <;> omega
  · rename_i hc
    rw [Nat.mul_comm d] at e
    generalize n / d * d = x at *
    refine ⟨by omega, by omega, fun hh => ?_⟩
    have : ¬ (2 * (n % d) = d ∧ n / d % 2 = 1) := fun h' => hc (.inr h')
    have h2 : ¬ d < 2 * (n % d) := fun h' => hc (.inl h')
    by_cases h3 : n / d % 2 = 1
    · have : ¬ 2 * (n % d) = d := fun h' => this ⟨h', h3⟩
      omega
    · omega
theorem rnd_small (n d : Nat) (h : 2 * n ≤ d) (hd : 0 < d) : rnd n d = 0 := by
  unfold rnd
  have hlt : n < d := by omega
  rw [Nat.mod_eq_of_lt hlt, Nat.div_eq_of_lt hlt]
  rw [if_neg]
  rintro (h' | h') <;> omega

/-! ### the school's division: one digit -/
def DivInv (u d y1 y0 q r : Nat) : Prop := q * y1 + r = u ∧ u * 4294967296 + d < (q + 1) * (y1 * 4294967296 + y0)

theorem div_start (u d y1 y0 : Nat) (h : 0 < y1) (hd : d < 4294967296) : DivInv u d y1 y0 (u / y1) (u % y1) := by
  have e := Nat.div_add_mod u y1
  have hm := Nat.mod_lt u h
  refine ⟨by rw [Nat.mul_comm]; exact e, ?_⟩
  have e2 : (u / y1 + 1) * (y1 * 4294967296 + y0) = y1 * (u / y1) * 4294967296 + y1 * 4294967296 + (u / y1) * y0 + y0 := by
    rw [Nat.add_mul, Nat.mul_add, Nat.one_mul, ← Nat.mul_assoc, Nat.mul_comm (u / y1) y1]; omega
  rw [e2]
  generalize y1 * (u / y1) = A at *
  generalize u / y1 * y0 = C
  omega

theorem div_dec (u d y1 y0 q r : Nat) (hI : DivInv u d y1 y0 q r) (hu : u < y1 * 4294967296 + y0) (hd : d < 4294967296)
    (hc : 4294967296 ≤ q ∨ 4294967296 * r + d < q * y0) : 0 < q ∧ DivInv u d y1 y0 (q - 1) (r + y1) := by
  obtain ⟨h1, h2⟩ := hI
  have hq : 0 < q := by
    rcases hc with h | h
    · omega
    · rcases Nat.eq_zero_or_pos q with h0 | h0
      · rw [h0, Nat.zero_mul] at h; omega
      · exact h0
  obtain ⟨p, rfl⟩ : ∃ p, q = p + 1 := ⟨q - 1, by omega⟩
  refine ⟨hq, ?_, ?_⟩
  · simp only [Nat.add_sub_cancel]; rw [Nat.add_mul, Nat.one_mul] at h1; omega
  · simp only [Nat.add_sub_cancel]
    have e : (p + 1) * (y1 * 4294967296 + y0) = (p + 1) * y1 * 4294967296 + (p + 1) * y0 := by rw [Nat.mul_add, ← Nat.mul_assoc]
    rcases hc with h | h
    · have h3 : 4294967296 * (y1 * 4294967296 + y0) ≤ (p + 1) * (y1 * 4294967296 + y0) := Nat.mul_le_mul_right _ h
      omega
    · rw [e]
      generalize (p + 1) * y1 = A at *
      generalize (p + 1) * y0 = C at *
      omega

theorem div_out (u d y1 y0 q r : Nat) (hI : DivInv u d y1 y0 q r) (hc : q * y0 ≤ 4294967296 * r + d) :
    q = (u * 4294967296 + d) / (y1 * 4294967296 + y0) ∧ q * (y1 * 4294967296 + y0) ≤ u * 4294967296 + d := by
  obtain ⟨h1, h2⟩ := hI
  have e : q * (y1 * 4294967296 + y0) = q * y1 * 4294967296 + q * y0 := by rw [Nat.mul_add, ← Nat.mul_assoc]
  have hle : q * (y1 * 4294967296 + y0) ≤ u * 4294967296 + d := by
    rw [e]
    generalize q * y1 = A at *
    generalize q * y0 = C at *
    omega
  exact ⟨(Nat.div_eq_of_lt_le hle h2).symm, hle⟩

theorem div_broke (u d y1 y0 q r : Nat) (hI : DivInv u d y1 y0 q r) (hu : u < y1 * 4294967296 + y0) (hy0 : y0 < 4294967296) (hr : 4294967296 ≤ r) :
    q * y0 ≤ 4294967296 * r + d ∧ q < 4294967296 := by
  obtain ⟨h1, h2⟩ := hI
  have hq : q < 4294967296 := by
    apply Nat.lt_of_not_le
    intro h
    have := Nat.mul_le_mul_right y1 h
    generalize q * y1 = A at *
    omega
  refine ⟨?_, hq⟩
  have := Nat.mul_le_mul (Nat.le_of_lt_succ hq) (Nat.le_of_lt_succ hy0)
  generalize q * y0 = C at *
  omega

/-- Two digits, one behind the other. -/
theorem div_two (u d1 d0 y : Nat) (hy : 0 < y) :
    (u * 4294967296 + d1) / y * 4294967296 + ((u * 4294967296 + d1) % y * 4294967296 + d0) / y = (u * 18446744073709551616 + (d1 * 4294967296 + d0)) / y ∧
    ((u * 4294967296 + d1) % y * 4294967296 + d0) % y = (u * 18446744073709551616 + (d1 * 4294967296 + d0)) % y := by
  have e := Nat.div_add_mod (u * 4294967296 + d1) y
  have hN : u * 18446744073709551616 + (d1 * 4294967296 + d0) = y * ((u * 4294967296 + d1) / y * 4294967296) + ((u * 4294967296 + d1) % y * 4294967296 + d0) := by
    rw [← Nat.mul_assoc]
    generalize y * ((u * 4294967296 + d1) / y) = A at *
    omega
  rw [hN, Nat.mul_add_div hy, Nat.mul_add_mod]
  exact ⟨rfl, rfl⟩
theorem digit_lt (u d y : Nat) (hu : u < y) (hd : d < 4294967296) : (u * 4294967296 + d) / y < 4294967296 := by
  rw [Nat.div_lt_iff_lt_mul (by omega)]
  omega

/-- A number by another, both moved up alike. -/
theorem div_shift (n y k : Nat) : n * 2 ^ k / (y * 2 ^ k) = n / y ∧ n * 2 ^ k % (y * 2 ^ k) / 2 ^ k = n % y := by
  have hk : 0 < 2 ^ k := Nat.pow_pos (by decide)
  refine ⟨Nat.mul_div_mul_right _ _ hk, ?_⟩
  rw [Nat.mul_mod_mul_right, Nat.mul_div_cancel _ hk]
end Go.Proofs.YtncpkdgpijempaaDoor
