/-
  Floats of 64 bits that stand for whole numbers: sums, differences, products, the order, and the whole part of a quotient are exact. Nothing of the program is in it.
-/
import Derived.Laws.FloatArith
namespace Go.Proofs.YtibbenhplmmmiaaDoor
open Ieee

theorem two_ne : (2 : Rat) ≠ 0 := by decide
theorem two_pos : (0 : Rat) < 2 := by decide
theorem zp (i j : Int) : (2 : Rat) ^ (i + j) = 2 ^ i * 2 ^ j := Rat.zpow_add two_ne i j
theorem zp_pos (i : Int) : (0 : Rat) < 2 ^ i := Rat.zpow_pos two_pos
theorem zp_nat (k : Nat) : (2 : Rat) ^ (k : Int) = ((2 ^ k : Nat) : Rat) := by
  rw [Rat.zpow_natCast]
  induction k with
  | zero => rfl
  | succ k ih => rw [Rat.pow_succ, ih, Nat.pow_succ]; push_cast; rfl

/-- A number's worth. -/
def worth (s : Bool) (m : Nat) (i : Int) : Rat := (if s then -(m : Rat) else (m : Rat)) * 2 ^ i

theorem read_word (s : Bool) (r : Nat) (h1 : 4503599627370496 ≤ r) (h2 : r < 9218868437227405312) :
    double.read (double.word s r) = .number s (4503599627370496 + r % 4503599627370496) (-1074 + ((r / 4503599627370496 - 1 : Nat) : Int)) := by
  have hw : double.signWeight = 9223372036854775808 := by decide
  have hb : double.binade = 4503599627370496 := by decide
  have hi : double.infRung = 9218868437227405312 := by decide
  have hl : double.leastPlace = -1074 := by decide
  unfold Format.read Format.word
  rw [hw, hb, hi, hl]
  have hr : (if s = true then 9223372036854775808 + r else r) % 9223372036854775808 = r := by cases s <;> simp <;> omega
  have hn : ((if s = true then 9223372036854775808 + r else r) / 9223372036854775808 % 2 == 1) = s := by
    cases s
    · simp; omega
    · simp; omega
  dsimp only
  rw [hr, hn, if_neg (by omega), if_pos h2]

theorem read_zero (s : Bool) : double.read (double.word s 0) = .number s 0 (-1074) := by cases s <;> decide

theorem cut_even_exact (s : Bool) (n d : Nat) (hd : d ≤ n.log2 + 2) (h : 2 ^ d ∣ n) : Toward.even.cut s n d = n / 2 ^ d := by
  unfold Toward.cut
  have hm : min d (n.log2 + 2) = d := Nat.min_eq_left hd
  have h0 : n % 2 ^ d = 0 := Nat.mod_eq_zero_of_dvd h
  have hp : 0 < 2 ^ d := Nat.two_pow_pos d
  rw [hm, Nat.one_shiftLeft]
  simp [h0]

/-- What is kept, written and read again. -/
theorem near_gen (s : Bool) (mag : Nat) (place e : Int) (K : Nat) (hm : mag ≠ 0) (he : e = place + mag.log2 - 52) (h1 : -1074 ≤ e) (h2 : e ≤ 900)
    (hK : Toward.even.cut s (mag <<< (place - e).toNat) (e - place).toNat = K) (hK1 : 4503599627370496 ≤ K) (hK2 : K ≤ 9007199254740992) :
    ∃ m i, double.read (double.nearest s mag place) = .number s m i ∧ ((m = K ∧ i = e) ∨ (K = 9007199254740992 ∧ m = 4503599627370496 ∧ i = e + 1)) := by
  have hb : double.binade = 4503599627370496 := by decide
  have hi : double.infRung = 9218868437227405312 := by decide
  have hl : double.leastPlace = -1074 := by decide
  have hf : (double.fractionBits : Int) = 52 := by decide
  unfold Format.nearest
  rw [if_neg hm, hb, hi, hl, hf]
  have hx : max (place + (mag.log2 : Int) - 52) (-1074) = e := by omega
  dsimp only
  rw [hx, hK]
  obtain ⟨E, hE⟩ : ∃ E : Nat, e - -1074 = (E : Int) := ⟨(e - -1074).toNat, by omega⟩
  have hEt : (e - -1074).toNat = E := by omega
  rw [hEt, Nat.min_eq_left (by omega), read_word s _ (by omega) (by omega)]
  refine ⟨_, _, rfl, ?_⟩
  by_cases hc : K = 9007199254740992
  · exact Or.inr ⟨hc, by subst hc; omega, by subst hc; omega⟩
  · exact Or.inl ⟨by omega, by omega⟩

theorem log2_le (n : Nat) (h : n ≠ 0) : 2 ^ n.log2 ≤ n := Nat.log2_self_le h
theorem lt_log2 (n : Nat) : n < 2 ^ (n.log2 + 1) := Nat.lt_log2_self

theorem zp_lt {i j : Int} (h : (2 : Rat) ^ i < 2 ^ j) : i < j := by
  rcases Int.lt_or_le i j with h' | h'
  · exact h'
  · exfalso
    obtain ⟨k, hk⟩ : ∃ k : Nat, i = j + k := ⟨(i - j).toNat, by omega⟩
    rw [hk, zp, zp_nat] at h
    have hp := zp_pos j
    have h1 : (1 : Rat) ≤ ((2 ^ k : Nat) : Rat) := by
      have : (1 : Nat) ≤ 2 ^ k := Nat.two_pow_pos k
      exact_mod_cast this
    have := Rat.mul_le_mul_of_nonneg_left h1 (Rat.le_of_lt hp)
    grind

theorem nearest_zero (s : Bool) (place : Int) : double.read (double.nearest s 0 place) = .number s 0 (-1074) := by
  unfold Format.nearest; rw [if_pos rfl]; exact read_zero s

theorem near_exact (s : Bool) (mag : Nat) (place : Int) (N : Nat) (hN : N < 9007199254740992) (h : (mag : Rat) * 2 ^ place = (N : Rat)) :
    ∃ m i, double.read (double.nearest s mag place) = .number s m i ∧ (m : Rat) * 2 ^ i = (N : Rat) := by
  by_cases hm : mag = 0
  · subst hm
    refine ⟨0, -1074, nearest_zero s place, ?_⟩
    rw [← h]; exact (Rat.zero_mul _).trans (Rat.zero_mul _).symm
  · have hp := zp_pos place
    have hl1 := log2_le mag hm
    have hl2 := lt_log2 mag
    generalize hL : mag.log2 = L at *
    -- the size of N
    have hN1 : 1 ≤ N := by
      rcases Nat.eq_zero_or_pos N with h0 | h0
      · exfalso; subst h0
        have : (0 : Rat) < (mag : Rat) := by exact_mod_cast Nat.pos_of_ne_zero hm
        have := Rat.mul_pos this hp
        grind
      · exact h0
    have hlow : -1 < (L : Int) + place := by
      have h1 : (mag : Rat) < ((2 ^ (L + 1) : Nat) : Rat) := by exact_mod_cast hl2
      have h2 : (1 : Rat) ≤ (N : Rat) := by exact_mod_cast hN1
      have h3 : (2 : Rat) ^ (0 : Int) < 2 ^ (((L + 1 : Nat) : Int) + place) := by
        rw [zp, zp_nat, Rat.zpow_zero]
        have := Rat.mul_lt_mul_of_pos_right h1 hp
        grind
      have := zp_lt h3
      omega
    have hhigh : (L : Int) + place < 53 := by
      have h1 : ((2 ^ L : Nat) : Rat) ≤ (mag : Rat) := by exact_mod_cast hl1
      have h2 : (N : Rat) < ((2 ^ 53 : Nat) : Rat) := by exact_mod_cast hN
      have h3 : (2 : Rat) ^ ((L : Int) + place) < 2 ^ ((53 : Nat) : Int) := by
        rw [zp, zp_nat, zp_nat]
        have := Rat.mul_le_mul_of_nonneg_right h1 (Rat.le_of_lt hp)
        grind
      have := zp_lt h3
      omega
    have h53 : (2 : Nat) ^ 53 = 9007199254740992 := by decide
    have h52 : (2 : Nat) ^ 52 = 4503599627370496 := by decide
    rcases Int.lt_or_le place (place + L - 52) with hc | hc
    · -- digits are dropped, all of them 0
      obtain ⟨d, hd⟩ : ∃ d : Nat, L = 52 + d := ⟨L - 52, by omega⟩
      have hneg : place < 0 := by
        rcases Int.lt_or_le place 0 with h' | h'
        · exact h'
        · omega
      obtain ⟨p, hpp⟩ : ∃ p : Nat, place = -(p : Int) := ⟨(-place).toNat, by omega⟩
      have hmag : mag = N * 2 ^ p := by
        have h1 : (mag : Rat) = (N : Rat) * ((2 ^ p : Nat) : Rat) := by
          rw [← zp_nat, ← h, hpp, Rat.mul_assoc, ← zp, show -(p : Int) + p = 0 by omega, Rat.zpow_zero, Rat.mul_one]
        exact_mod_cast h1
      have hdv : 2 ^ d ∣ mag := by
        rw [hmag]
        exact Nat.dvd_trans (Nat.pow_dvd_pow 2 (by omega)) (Nat.dvd_mul_left _ _)
      obtain ⟨K, hK⟩ := hdv
      have hpd : 0 < 2 ^ d := Nat.two_pow_pos d
      have hcut : Toward.even.cut s (mag <<< (place - (place + L - 52)).toNat) ((place + L - 52) - place).toNat = K := by
        have e1 : (place - (place + L - 52)).toNat = 0 := by omega
        have e2 : ((place + L - 52) - place).toNat = d := by omega
        rw [e1, e2, Nat.shiftLeft_zero, cut_even_exact s mag d (by omega) ⟨K, hK⟩, hK, Nat.mul_div_cancel_left _ hpd]
      have hKlo : 4503599627370496 ≤ K := by
        rw [← h52]
        have : 2 ^ d * 2 ^ 52 ≤ 2 ^ d * K := by rw [← hK, ← Nat.pow_add, Nat.add_comm d 52, ← hd]; exact hl1
        exact Nat.le_of_mul_le_mul_left this hpd
      have hKhi : K < 9007199254740992 := by
        rw [← h53]
        have : 2 ^ d * K < 2 ^ d * 2 ^ 53 := by
          rw [← hK, ← Nat.pow_add]
          have : d + 53 = L + 1 := by omega
          rw [this]; exact hl2
        exact Nat.lt_of_mul_lt_mul_left this
      obtain ⟨m, i, hr, hmi⟩ := near_gen s mag place (place + L - 52) K hm (by omega) (by omega) (by omega) hcut hKlo (by omega)
      rcases hmi with ⟨rfl, rfl⟩ | ⟨h', _⟩
      · refine ⟨_, _, hr, ?_⟩
        have e3 : place + (L : Int) - 52 = (d : Int) + place := by omega
        rw [e3, zp, zp_nat, ← h, hK]
        push_cast
        grind
      · omega
    · obtain ⟨k, hk⟩ : ∃ k : Nat, L + k = 52 := ⟨52 - L, by omega⟩
      have hcut : Toward.even.cut s (mag <<< (place - (place + L - 52)).toNat) ((place + L - 52) - place).toNat = mag * 2 ^ k := by
        have e1 : (place - (place + L - 52)).toNat = k := by omega
        have e2 : ((place + L - 52) - place).toNat = 0 := by omega
        rw [e1, e2, cut_even_exact s _ 0 (by omega) (by simp), Nat.shiftLeft_eq]
        simp
      have hpk : 0 < 2 ^ k := Nat.two_pow_pos k
      have hKlo : 4503599627370496 ≤ mag * 2 ^ k := by
        rw [← h52, ← hk, Nat.pow_add]
        exact Nat.mul_le_mul_right _ hl1
      have hKhi : mag * 2 ^ k < 9007199254740992 := by
        have e4 : (9007199254740992 : Nat) = 2 ^ (L + 1) * 2 ^ k := by
          rw [← Nat.pow_add, ← h53]; congr 1; omega
        rw [e4]
        exact Nat.mul_lt_mul_of_pos_right hl2 hpk
      obtain ⟨m, i, hr, hmi⟩ := near_gen s mag place (place + L - 52) (mag * 2 ^ k) hm (by omega) (by omega) (by omega) hcut hKlo (by omega)
      rcases hmi with ⟨rfl, rfl⟩ | ⟨h', _⟩
      · refine ⟨_, _, hr, ?_⟩
        have e3 : place = (k : Int) + (place + (L : Int) - 52) := by omega
        rw [← h]
        conv => rhs; rw [e3, zp, zp_nat]
        push_cast
        grind
      · omega

/-- A float's word that stands for a whole number. -/
def FI (b : Nat) (n : Int) : Prop := b < 18446744073709551616 ∧ ∃ s m i, double.read b = .number s m i ∧ worth s m i = (n : Rat)

theorem icast (m : Nat) : (((m : Nat) : Int) : Rat) = (m : Rat) := by push_cast; rfl

theorem worth_abs {s : Bool} {m : Nat} {i : Int} {n : Int} (h : worth s m i = (n : Rat)) : (m : Rat) * 2 ^ i = (n.natAbs : Rat) := by
  have hp := zp_pos i
  have hm : (0 : Rat) ≤ (m : Rat) := Rat.natCast_nonneg
  have h0 := Rat.mul_nonneg hm (Rat.le_of_lt hp)
  rcases Int.natAbs_eq n with hn | hn
  · cases s with
    | false => rw [hn, icast] at h; simpa [worth] using h
    | true =>
      simp only [worth, if_true] at h
      have h1 : (0 : Rat) ≤ ((n.natAbs : Nat) : Rat) := Rat.natCast_nonneg
      rw [hn] at h
      have h2 : -((m : Rat) * 2 ^ i) = ((n.natAbs : Int) : Rat) := by rw [← h]; grind
      have h3 : (((n.natAbs : Nat) : Int) : Rat) = ((n.natAbs : Nat) : Rat) := by push_cast; rfl
      rw [h3] at h2
      grind
  · cases s with
    | true =>
      simp only [worth, if_true] at h
      rw [hn] at h
      have h3 : ((-((n.natAbs : Nat) : Int) : Int) : Rat) = -((n.natAbs : Nat) : Rat) := by push_cast; rfl
      rw [h3] at h
      grind
    | false =>
      have h1 : (0 : Rat) ≤ ((n.natAbs : Nat) : Rat) := Rat.natCast_nonneg
      rw [hn] at h
      have h3 : ((-((n.natAbs : Nat) : Int) : Int) : Rat) = -((n.natAbs : Nat) : Rat) := by push_cast; rfl
      rw [h3] at h
      simp [worth] at h
      grind

theorem write_FI (s : Bool) (mag : Nat) (place : Int) (n : Int) (hn : -9007199254740992 < n ∧ n < 9007199254740992) (h : worth s mag place = (n : Rat)) :
    FI (double.write (.number s mag place)) n := by
  refine ⟨double.write_lt _, ?_⟩
  obtain ⟨m, i, hr, hv⟩ := near_exact s mag place n.natAbs (by omega) (worth_abs h)
  refine ⟨s, m, i, hr, ?_⟩
  have h1 := worth_abs h
  rw [← h]
  unfold worth
  cases s <;> simp <;> grind

theorem FI_nearest (n : Int) (hn : -9007199254740992 < n ∧ n < 9007199254740992) : FI (floatOfInt .f64 n) n := by
  refine write_FI (decide (n < 0)) n.natAbs 0 n hn ?_
  unfold worth
  rw [Rat.zpow_zero, Rat.mul_one]
  by_cases h : n < 0
  · simp only [h, decide_true, if_true]
    have : (n : Rat) = ((-(n.natAbs : Int) : Int) : Rat) := by congr 1; omega
    rw [this]; push_cast; rfl
  · simp only [h, decide_false]
    have : (n : Rat) = (((n.natAbs : Int) : Int) : Rat) := by congr 1; omega
    rw [this]; push_cast; rfl

theorem signed_rat (s : Bool) (m k : Nat) : ((signed s m k : Int) : Rat) = (if s then -(m : Rat) else (m : Rat)) * ((2 ^ k : Nat) : Rat) := by
  unfold signed
  rw [Nat.shiftLeft_eq]
  cases s
  · rw [if_neg (by decide), if_neg (by decide), icast]; push_cast; rfl
  · rw [if_pos rfl, if_pos rfl, Rat.intCast_neg, icast]; push_cast; grind

theorem worth_base (s : Bool) (m : Nat) (i base : Int) (h : base ≤ i) : worth s m i = ((signed s m (i - base).toNat : Int) : Rat) * 2 ^ base := by
  rw [signed_rat, ← zp_nat, Rat.mul_assoc, ← zp]
  unfold worth
  congr 2
  omega

theorem worth_of_int (t : Int) (z : Bool) (base : Int) : worth (if t = 0 then z else decide (t < 0)) t.natAbs base = (t : Rat) * 2 ^ base := by
  unfold worth
  by_cases h0 : t = 0
  · subst h0; cases z <;> simp
  · by_cases h : t < 0
    · simp only [h0, h, decide_true, if_true, if_false]
      have : (t : Rat) = ((-(t.natAbs : Int) : Int) : Rat) := by congr 1; omega
      rw [this]; push_cast; rfl
    · simp only [h0, h, decide_false, if_false]
      have : (t : Rat) = (((t.natAbs : Int) : Int) : Rat) := by congr 1; omega
      rw [this]; push_cast; rfl

theorem sum_worth (s t : Bool) (m n : Nat) (i j : Int) : ∃ u k b, Datum.sum (.number s m i) (.number t n j) = some (.number u k b) ∧ worth u k b = worth s m i + worth t n j := by
  refine ⟨_, _, _, rfl, ?_⟩
  rw [worth_of_int, worth_base s m i (min i j) (by omega), worth_base t n j (min i j) (by omega)]
  push_cast
  grind

theorem FI.add {a b : Nat} {x y : Int} (ha : FI a x) (hb : FI b y) (h : -9007199254740992 < x + y ∧ x + y < 9007199254740992) : ∃ r, floatBits .add .f64 a b = some r ∧ FI r (x + y) := by
  obtain ⟨_, s, m, i, hr, hv⟩ := ha
  obtain ⟨_, t, n, j, hr', hv'⟩ := hb
  obtain ⟨u, k, base, hs, hw⟩ := sum_worth s t m n i j
  refine ⟨double.write (.number u k base), ?_, write_FI u k base (x + y) h ?_⟩
  · show double.add a b = _
    unfold Format.add
    rw [hr, hr', hs]; rfl
  · rw [hw, hv, hv']; push_cast; rfl

theorem worth_opp (s : Bool) (m : Nat) (i : Int) : worth (!s) m i = -worth s m i := by
  unfold worth; cases s <;> simp <;> grind

theorem FI.sub {a b : Nat} {x y : Int} (ha : FI a x) (hb : FI b y) (h : -9007199254740992 < x - y ∧ x - y < 9007199254740992) : ∃ r, floatBits .sub .f64 a b = some r ∧ FI r (x - y) := by
  obtain ⟨_, s, m, i, hr, hv⟩ := ha
  obtain ⟨_, t, n, j, hr', hv'⟩ := hb
  obtain ⟨u, k, base, hs, hw⟩ := sum_worth s (!t) m n i j
  refine ⟨double.write (.number u k base), ?_, write_FI u k base (x - y) h ?_⟩
  · show double.sub a b = _
    unfold Format.sub
    rw [hr, hr']
    show Option.map _ (Datum.sum (.number s m i) (.number (!t) n j)) = _
    rw [hs]; rfl
  · rw [hw, worth_opp, hv, hv']; push_cast; grind

theorem FI.mul {a b : Nat} {x y : Int} (ha : FI a x) (hb : FI b y) (h : -9007199254740992 < x * y ∧ x * y < 9007199254740992) : ∃ r, floatBits .mul .f64 a b = some r ∧ FI r (x * y) := by
  obtain ⟨_, s, m, i, hr, hv⟩ := ha
  obtain ⟨_, t, n, j, hr', hv'⟩ := hb
  refine ⟨double.write (.number (s ^^ t) (m * n) (i + j)), ?_, write_FI _ _ _ (x * y) h ?_⟩
  · show double.mul a b = _
    unfold Format.mul
    rw [hr, hr']; rfl
  · rw [Rat.intCast_mul, ← hv, ← hv']
    unfold worth
    rw [zp]
    cases s <;> cases t <;> simp <;> grind

theorem cut_gap (n d : Nat) : n / 2 ^ min d (n.log2 + 2) = n / 2 ^ d ∧ n % 2 ^ min d (n.log2 + 2) = n % 2 ^ d := by
  rcases Nat.lt_or_ge (n.log2 + 2) d with h | h
  · have h1 : n < 2 ^ (n.log2 + 2) := Nat.lt_trans (lt_log2 n) (Nat.pow_lt_pow_right (by omega) (by omega))
    have h2 : n < 2 ^ d := Nat.lt_trans h1 (Nat.pow_lt_pow_right (by omega) h)
    rw [Nat.min_eq_right (by omega), Nat.div_eq_of_lt h1, Nat.div_eq_of_lt h2, Nat.mod_eq_of_lt h1, Nat.mod_eq_of_lt h2]
    exact ⟨rfl, rfl⟩
  · rw [Nat.min_eq_left h]
    exact ⟨rfl, rfl⟩

theorem cut_zero (s : Bool) (n d : Nat) : Toward.zero.cut s n d = n / 2 ^ d := by
  unfold Toward.cut
  rw [Nat.one_shiftLeft]
  simp [(cut_gap n d).1]

/-- The worth of a number by whole numbers. -/
theorem worth_nat (m : Nat) (i : Int) : (m : Rat) * 2 ^ i * ((2 ^ (-i).toNat : Nat) : Rat) = ((m <<< i.toNat : Nat) : Rat) := by
  rw [Nat.shiftLeft_eq, ← zp_nat, Rat.mul_assoc, ← zp]
  rw [show i + ((-i).toNat : Int) = (i.toNat : Int) by omega, zp_nat]
  push_cast
  rfl

theorem FI.toInt {a : Nat} {x : Int} (ha : FI a x) (h : -9007199254740992 < x ∧ x < 9007199254740992) : floatToIntVal .f64 a .i64 = some x := by
  obtain ⟨_, s, m, i, hr, hv⟩ := ha
  have hv1 := worth_abs hv
  have hw := worth_nat m i
  rw [hv1] at hw
  have hN : x.natAbs * 2 ^ (-i).toNat = m <<< i.toNat := by exact_mod_cast hw
  have hc : Toward.zero.cut s (m <<< i.toNat) (-i).toNat = x.natAbs := by
    rw [cut_zero, ← hN, Nat.mul_div_cancel _ (Nat.two_pow_pos _)]
  have hs : signed s x.natAbs 0 = x := by
    unfold signed
    rw [Nat.shiftLeft_zero]
    have hp := zp_pos i
    have hm0 : (0 : Rat) ≤ (m : Rat) * 2 ^ i := Rat.mul_nonneg Rat.natCast_nonneg (Rat.le_of_lt hp)
    cases s
    · rw [if_neg (by decide)]
      have : (0 : Rat) ≤ (x : Rat) := by rw [← hv]; unfold worth; simpa using hm0
      have := Rat.intCast_nonneg.1 this
      omega
    · rw [if_pos rfl]
      have : (x : Rat) ≤ 0 := by rw [← hv]; unfold worth; simp; grind
      have := Rat.intCast_nonpos.1 this
      omega
  have ht : (FloatKind.f64.decode a).toInt .zero = some x := by
    show (double.read a).toInt .zero = _
    rw [hr]
    show some (signed s (Toward.zero.cut s (m <<< i.toNat) (-i).toNat) 0) = _
    rw [hc, hs]
  unfold floatToIntVal
  rw [ht]
  have h1 : IntKind.i64.min ≤ x ∧ x ≤ IntKind.i64.max := by
    show (-9223372036854775808 : Int) ≤ x ∧ x ≤ (9223372036854775807 : Int)
    omega
  show (if IntKind.i64.min ≤ x ∧ x ≤ IntKind.i64.max then some x else none) = some x
  rw [if_pos h1]

end Go.Proofs.YtibbenhplmmmiaaDoor
