/-
  Values and rows as plain data: which may be, their order, their keys; keys stand byte by byte as their rows do.
-/
import GoSem.Op.String
namespace Go.Proofs.YtnpdecbgakgbgaaGreatDoor

/-- How two lists of bytes stand: -1, 0 or 1. -/
def lexc : List UInt8 → List UInt8 → Int
  | [], [] => 0
  | [], _ :: _ => -1
  | _ :: _, [] => 1
  | a :: x, b :: y => if a < b then -1 else if b < a then 1 else lexc x y

theorem lexc_range (x y : List UInt8) : lexc x y = -1 ∨ lexc x y = 0 ∨ lexc x y = 1 := by
  fun_induction lexc x y <;> simp_all
theorem lexc_refl (x : List UInt8) : lexc x x = 0 := by
  induction x with
  | nil => rfl
  | cons a x ih => simp [lexc, ih]
theorem lexc_zero {x y : List UInt8} (h : lexc x y = 0) : x = y := by
  fun_induction lexc x y with
  | case1 => rfl
  | case2 => simp at h
  | case3 => simp at h
  | case4 => simp at h
  | case5 => simp at h
  | case6 a x b y h1 h2 ih =>
    have : a = b := by
      have h1' := UInt8.not_lt.1 h1
      have h2' := UInt8.not_lt.1 h2
      exact UInt8.le_antisymm h2' h1'
    rw [this, ih h]
theorem lexc_less (x y : List UInt8) : Op.bytesLess x y = decide (lexc x y < 0) := by
  fun_induction lexc x y with
  | case1 => rfl
  | case2 => rfl
  | case3 => rfl
  | case4 a x b y h => simp [Op.bytesLess, h]
  | case5 a x b y h h' =>
    have hn : a ≠ b := by rintro rfl; exact h h'
    simp [Op.bytesLess, h, hn]
  | case6 a x b y h h' ih =>
    have : a = b := UInt8.le_antisymm (UInt8.not_lt.1 h') (UInt8.not_lt.1 h)
    subst this
    simp [Op.bytesLess, ih]
theorem lexc_anti (x y : List UInt8) : lexc y x = - lexc x y := by
  fun_induction lexc x y with
  | case1 => rfl
  | case2 => rfl
  | case3 => rfl
  | case4 a x b y h =>
    have h' : ¬ b < a := by rw [UInt8.not_lt]; exact UInt8.le_of_lt h
    simp [lexc, h, h']
  | case5 a x b y h h' => simp [lexc, h']
  | case6 a x b y h h' ih => simp [lexc, h, h', ih]
theorem lexc_app (p x y : List UInt8) : lexc (p ++ x) (p ++ y) = lexc x y := by
  induction p with
  | nil => rfl
  | cons a p ih => simp [lexc, ih]

/-- How two numbers stand. -/
def numc (a b : Int) : Int := if a < b then -1 else if a > b then 1 else 0
theorem numc_range (a b : Int) : numc a b = -1 ∨ numc a b = 0 ∨ numc a b = 1 := by unfold numc; split <;> simp_all; split <;> simp_all
theorem numc_zero {a b : Int} : numc a b = 0 ↔ a = b := by unfold numc; split <;> try split
                                                           all_goals simp; try omega
theorem numc_anti (a b : Int) : numc b a = - numc a b := by unfold numc; repeat' split
                                                            all_goals omega

/-- The first that is not 0. -/
def orr (a b : Int) : Int := if a ≠ 0 then a else b

/-- A number's lowest bytes, as many as k, the highest first. -/
def bigE : Nat → Nat → List UInt8
  | 0, _ => []
  | k + 1, n => UInt8.ofNat (n / 256 ^ k % 256) :: bigE k n

theorem bigE_mod (k n : Nat) : bigE k n = bigE k (n % 256 ^ k) := by
  suffices H : ∀ m, k ≤ m → bigE k n = bigE k (n % 256 ^ m) from H k (Nat.le_refl _)
  induction k with
  | zero => intro m _; rfl
  | succ k ih =>
    intro m hm
    have e : n / 256 ^ k % 256 = n % 256 ^ m / 256 ^ k % 256 := by
      obtain ⟨j, rfl⟩ : ∃ j, m = k + 1 + j := ⟨m - (k + 1), by omega⟩
      have : 256 ^ (k + 1 + j) = 256 ^ k * (256 * 256 ^ j) := by rw [Nat.pow_add, Nat.pow_succ, Nat.mul_assoc]
      rw [this, Nat.mod_mul_right_div_self, Nat.mod_mul_right_mod]
    simp only [bigE]
    rw [e, ih m (by omega)]

theorem bigE_len (k n : Nat) : (bigE k n).length = k := by
  induction k with
  | zero => rfl
  | succ k ih => simp [bigE, ih]

theorem bigE_cmp (k : Nat) (x y : Nat) (hx : x < 256 ^ k) (hy : y < 256 ^ k) (s t : List UInt8) : lexc (bigE k x ++ s) (bigE k y ++ t) = orr (numc x y) (lexc s t) := by
  induction k generalizing x y with
  | zero =>
    have hx : x = 0 := by simpa using hx
    have hy : y = 0 := by simpa using hy
    subst hx; subst hy
    simp [bigE, orr, numc]
  | succ k ih =>
    have hp : 0 < 256 ^ k := Nat.pow_pos (by decide)
    have hx' : x / 256 ^ k < 256 := Nat.div_lt_of_lt_mul (by rw [Nat.pow_succ] at hx; exact hx)
    have hy' : y / 256 ^ k < 256 := Nat.div_lt_of_lt_mul (by rw [Nat.pow_succ] at hy; exact hy)
    have e1 := bigE_mod k x
    have e2 := bigE_mod k y
    have ih' := ih (x % 256 ^ k) (y % 256 ^ k) (Nat.mod_lt _ hp) (Nat.mod_lt _ hp)
    rw [← e1, ← e2] at ih'
    simp only [bigE, List.cons_append, lexc]
    rw [Nat.mod_eq_of_lt hx', Nat.mod_eq_of_lt hy', ih']
    have dx := Nat.div_add_mod x (256 ^ k)
    have dy := Nat.div_add_mod y (256 ^ k)
    have mx := Nat.mod_lt x hp
    have my := Nat.mod_lt y hp
    generalize x / 256 ^ k = a at *
    generalize y / 256 ^ k = b at *
    generalize x % 256 ^ k = c at *
    generalize y % 256 ^ k = d at *
    generalize 256 ^ k = P at *
    have lt1 : (UInt8.ofNat a < UInt8.ofNat b) ↔ a < b := by
      rw [UInt8.lt_iff_toNat_lt, UInt8.toNat_ofNat_of_lt' (by simpa using hx'), UInt8.toNat_ofNat_of_lt' (by simpa using hy')]
    have lt2 : (UInt8.ofNat b < UInt8.ofNat a) ↔ b < a := by
      rw [UInt8.lt_iff_toNat_lt, UInt8.toNat_ofNat_of_lt' (by simpa using hy'), UInt8.toNat_ofNat_of_lt' (by simpa using hx')]
    simp only [lt1, lt2]
    subst dx
    subst dy
    by_cases h1 : a < b
    · have : P * a + P ≤ P * b := by rw [← Nat.mul_succ]; exact Nat.mul_le_mul_left _ h1
      have h : ((P * a + c : Nat) : Int) < ((P * b + d : Nat) : Int) := by omega
      rw [if_pos h1]
      unfold orr numc
      rw [if_pos h]
      simp
    · rw [if_neg h1]
      by_cases h2 : b < a
      · have : P * b + P ≤ P * a := by rw [← Nat.mul_succ]; exact Nat.mul_le_mul_left _ h2
        have h : ¬ ((P * a + c : Nat) : Int) < ((P * b + d : Nat) : Int) := by omega
        have h' : ((P * a + c : Nat) : Int) > ((P * b + d : Nat) : Int) := by omega
        rw [if_pos h2]
        unfold orr numc
        rw [if_neg h, if_pos h']
        simp
      · have : a = b := by omega
        subst this
        rw [if_neg h2]
        congr 1
        unfold numc
        repeat' split
        all_goals omega

/-- A text's bytes in a key: each 0 followed by 255. -/
def esc : List UInt8 → List UInt8
  | [] => []
  | c :: l => if c = 0 then c :: 255 :: esc l else c :: esc l

theorem esc_cmp (x y s t : List UInt8) : lexc (esc x ++ (0 :: 1 :: s)) (esc y ++ (0 :: 1 :: t)) = orr (lexc x y) (lexc s t) := by
  fun_induction lexc x y with
  | case1 => simp [esc, lexc, orr]
  | case2 b y =>
    by_cases h : b = 0
    · subst h; simp [esc, lexc, orr]
    · have : (0 : UInt8) < b := UInt8.pos_iff_ne_zero.2 h
      simp [esc, lexc, orr, h, this]
  | case3 a x =>
    by_cases h : a = 0
    · subst h; simp [esc, lexc, orr]
    · have : (0 : UInt8) < a := UInt8.pos_iff_ne_zero.2 h
      have h' : ¬ a < 0 := by simp
      simp [esc, lexc, orr, h, this]
  | case4 a x b y h =>
    have hb : b ≠ 0 := by rintro rfl; simp at h
    by_cases ha : a = 0
    · subst ha; simp [esc, lexc, orr, h, hb]
    · simp [esc, lexc, orr, h, ha, hb]
  | case5 a x b y h h' =>
    have ha : a ≠ 0 := by rintro rfl; simp at h'
    by_cases hb : b = 0
    · subst hb; simp [esc, lexc, orr, h', ha]
    · simp [esc, lexc, orr, h, h', ha, hb]
  | case6 a x b y h h' ih =>
    have : a = b := UInt8.le_antisymm (UInt8.not_lt.1 h') (UInt8.not_lt.1 h)
    subst this
    by_cases ha : a = 0
    · subst ha; simpa [esc, lexc] using ih
    · simpa [esc, lexc, ha] using ih

/-- A value. -/
structure Va where
  k : Int
  n : Int
  m : Int
  b : List UInt8

/-- May it be? (g: is its text good UTF-8?) -/
def vok (g : List UInt8 → Bool) (v : Va) : Prop :=
  (v.k = 0 ∧ v.n = 0 ∧ v.m = 0 ∧ v.b = []) ∨ (v.k = 1 ∧ v.m = 0 ∧ v.b = []) ∨ (v.k = 2 ∧ 0 ≤ v.m ∧ v.m ≤ 6 ∧ v.b = []) ∨
  (v.k = 3 ∧ v.n = 0 ∧ v.m = 0 ∧ v.b.length ≤ 256 ∧ g v.b = true) ∨ (v.k = 4 ∧ (v.n = 0 ∨ v.n = 1) ∧ v.m = 0 ∧ v.b = []) ∨
  (v.k = 5 ∧ -1048576 ≤ v.n ∧ v.n ≤ 1048576 ∧ -1048576 ≤ v.m ∧ v.m ≤ 1048576 ∧ v.b = [])

/-- Is it a number? -/
def isn (v : Va) : Prop := v.k = 1 ∨ v.k = 2
instance (v : Va) : Decidable (isn v) := inferInstanceAs (Decidable (_ ∨ _))

/-- A number at the greatest scale. -/
def at6 (v : Va) : Int := v.n * 10 ^ (6 - v.m).toNat

/-- How two values that may be stand. -/
def vcmp (a b : Va) : Int :=
  if isn a ∧ isn b then orr (numc (at6 a) (at6 b)) (orr (numc a.k b.k) (numc a.m b.m))
  else orr (numc a.k b.k) (orr (numc a.n b.n) (orr (numc a.m b.m) (lexc a.b b.b)))

/-- A value's part of a key. -/
def vkey (v : Va) : List UInt8 :=
  if v.k = 1 ∨ v.k = 2 then 2 :: (bigE 16 (at6 v + 2 ^ 127).toNat ++ [UInt8.ofNat v.k.toNat, UInt8.ofNat v.m.toNat])
  else if v.k = 3 then 3 :: (esc v.b ++ [0, 1])
  else if v.k = 4 then [4, UInt8.ofNat v.n.toNat]
  else if v.k = 5 then 5 :: (bigE 4 (v.n + 2 ^ 31).toNat ++ bigE 4 (v.m + 2 ^ 31).toNat)
  else [1]

theorem pow_le6 (k : Nat) (h : k ≤ 6) : (10 : Int) ^ k ≤ 1000000 ∧ 1 ≤ (10 : Int) ^ k := by
  match k, h with
  | 0, _ => decide
  | 1, _ => decide
  | 2, _ => decide
  | 3, _ => decide
  | 4, _ => decide
  | 5, _ => decide
  | 6, _ => decide
theorem at6_range {v : Va} (h0 : -9223372036854775808 ≤ v.n) (h1 : v.n ≤ 9223372036854775807) (hm : 0 ≤ v.m) : -9223372036854775808000000 ≤ at6 v ∧ at6 v ≤ 9223372036854775807000000 := by
  obtain ⟨hp, hp1⟩ := pow_le6 (6 - v.m).toNat (by omega)
  unfold at6
  generalize (10 : Int) ^ (6 - v.m).toNat = p at *
  generalize v.n = n at *
  constructor
  · by_cases hn : 0 ≤ n
    · have := Int.mul_nonneg hn (by omega : (0 : Int) ≤ p); omega
    · have := Int.mul_le_mul_of_nonneg_left hp (by omega : 0 ≤ -n); rw [Int.neg_mul] at this; omega
  · by_cases hn : 0 ≤ n
    · have := Int.mul_le_mul_of_nonneg_left hp hn; omega
    · have := Int.mul_nonneg (by omega : 0 ≤ -n) (by omega : (0 : Int) ≤ p); rw [Int.neg_mul] at this; omega

theorem one_cmp (a b : Int) (ha : 0 ≤ a) (ha' : a < 256) (hb : 0 ≤ b) (hb' : b < 256) (s t : List UInt8) : lexc (UInt8.ofNat a.toNat :: s) (UInt8.ofNat b.toNat :: t) = orr (numc a b) (lexc s t) := by
  have lt1 : (UInt8.ofNat a.toNat < UInt8.ofNat b.toNat) ↔ a < b := by
    rw [UInt8.lt_iff_toNat_lt, UInt8.toNat_ofNat_of_lt' (by simp; omega), UInt8.toNat_ofNat_of_lt' (by simp; omega)]; omega
  have lt2 : (UInt8.ofNat b.toNat < UInt8.ofNat a.toNat) ↔ b < a := by
    rw [UInt8.lt_iff_toNat_lt, UInt8.toNat_ofNat_of_lt' (by simp; omega), UInt8.toNat_ofNat_of_lt' (by simp; omega)]; omega
  simp only [lexc, lt1, lt2]
  unfold orr numc
  by_cases h1 : a < b
  · simp [h1]
  · by_cases h2 : b < a
    · simp [h1, h2]
    · simp [h1, h2]

theorem shift_cmp (a b c : Int) (ha : 0 ≤ a + c) (hb : 0 ≤ b + c) : numc ((a + c).toNat : Int) ((b + c).toNat : Int) = numc a b := by
  rw [Int.toNat_of_nonneg ha, Int.toNat_of_nonneg hb]
  unfold numc
  repeat' split
  all_goals omega

theorem orr_orr (a b c : Int) : orr (orr a b) c = orr a (orr b c) := by
  unfold orr; by_cases h : a = 0 <;> by_cases h' : b = 0 <;> simp [h, h']
theorem orr_zero (b : Int) : orr 0 b = b := by simp [orr]
theorem orr_ne {a b : Int} (h : a ≠ 0) : orr a b = a := by simp [orr, h]

/-- What stands behind two values' parts of a key counts only where they are the same. -/
theorem vkey_cmp (g : List UInt8 → Bool) (v u : Va) (hv : vok g v) (hu : vok g u) (v0 : -9223372036854775808 ≤ v.n) (v1 : v.n ≤ 9223372036854775807) (u0 : -9223372036854775808 ≤ u.n) (u1 : u.n ≤ 9223372036854775807)
    (s t : List UInt8) : lexc (vkey v ++ s) (vkey u ++ t) = orr (vcmp v u) (lexc s t) := by
  have num : isn v → isn u → 0 ≤ v.m → v.m ≤ 6 → 0 ≤ u.m → u.m ≤ 6 → lexc (vkey v ++ s) (vkey u ++ t) = orr (vcmp v u) (lexc s t) := by
    intro iv iu hm hm' hn hn'
    obtain ⟨a0, a1⟩ := at6_range v0 v1 hm
    obtain ⟨b0, b1⟩ := at6_range u0 u1 hn
    have kv : 0 ≤ v.k ∧ v.k < 256 := by rcases iv with h | h <;> omega
    have ku : 0 ≤ u.k ∧ u.k < 256 := by rcases iu with h | h <;> omega
    unfold vkey
    rw [if_pos (show v.k = 1 ∨ v.k = 2 from iv), if_pos (show u.k = 1 ∨ u.k = 2 from iu)]
    simp only [List.cons_append, List.append_assoc, List.nil_append]
    have e : ∀ x y : List UInt8, lexc (2 :: x) (2 :: y) = lexc x y := fun x y => by simp [lexc]
    rw [e, bigE_cmp 16 _ _ (by omega) (by omega), shift_cmp _ _ _ (by omega) (by omega), one_cmp _ _ kv.1 kv.2 ku.1 ku.2, one_cmp _ _ hm (by omega) hn (by omega)]
    unfold vcmp
    rw [if_pos ⟨iv, iu⟩, orr_orr, orr_orr]
  have oth : ∀ x : Va, ¬ isn x → vkey x = if x.k = 3 then 3 :: (esc x.b ++ [0, 1]) else if x.k = 4 then [4, UInt8.ofNat x.n.toNat] else if x.k = 5 then 5 :: (bigE 4 (x.n + 2 ^ 31).toNat ++ bigE 4 (x.m + 2 ^ 31).toNat) else [1] := by
    intro x hx
    unfold vkey
    rw [if_neg (show ¬ (x.k = 1 ∨ x.k = 2) from hx)]
  have c2 : ∀ x : Va, isn x → ∃ l, vkey x = 2 :: l := fun x hx => ⟨_, by unfold vkey; rw [if_pos (show x.k = 1 ∨ x.k = 2 from hx)]⟩
  have vc : ¬ (isn v ∧ isn u) → vcmp v u = orr (numc v.k u.k) (orr (numc v.n u.n) (orr (numc v.m u.m) (lexc v.b u.b))) := fun h => by unfold vcmp; rw [if_neg h]
  -- the first byte tells
  have lead : ∀ (c d : UInt8) (x y : List UInt8), vkey v = c :: x → vkey u = d :: y → ¬ (isn v ∧ isn u) → v.k ≠ u.k → (c < d ↔ v.k < u.k) → (d < c ↔ u.k < v.k) → lexc (vkey v ++ s) (vkey u ++ t) = orr (vcmp v u) (lexc s t) := by
    intro c d x y e1 e2 hn hk l1 l2
    rw [e1, e2, vc hn]
    simp only [List.cons_append, lexc]
    have hz : numc v.k u.k ≠ 0 := by rw [Ne, numc_zero]; exact hk
    rw [orr_ne hz, orr_ne hz]
    simp only [l1, l2]
    unfold numc
    by_cases h1 : v.k < u.k
    · rw [if_pos h1, if_pos h1]
    · rw [if_neg h1, if_neg h1, if_pos (by omega), if_pos (by omega)]
  obtain ⟨k, n, m, b⟩ := v
  obtain ⟨k', n', m', b'⟩ := u
  simp only [vok] at hv hu
  simp only [isn] at *
  rcases hv with ⟨rfl, rfl, rfl, rfl⟩ | ⟨rfl, rfl, rfl⟩ | ⟨rfl, hm, hm', rfl⟩ | ⟨rfl, rfl, rfl, hl, hg⟩ | ⟨rfl, hn, rfl, rfl⟩ | ⟨rfl, h1, h2, h3, h4, rfl⟩ <;>
  rcases hu with ⟨rfl, rfl, rfl, rfl⟩ | ⟨rfl, rfl, rfl⟩ | ⟨rfl, gm, gm', rfl⟩ | ⟨rfl, rfl, rfl, gl, gg⟩ | ⟨rfl, gn, rfl, rfl⟩ | ⟨rfl, g1, g2, g3, g4, rfl⟩
  all_goals try (apply num <;> first | decide | assumption | omega)
  all_goals try (refine lead _ _ _ _ rfl rfl ?_ ?_ ?_ ?_ <;> decide)
  · rw [vc (by simp)]
    show lexc (1 :: s) (1 :: t) = orr 0 (lexc s t)
    simp [lexc, orr]
  · rw [vc (by simp)]
    simp only [vkey]
    simp only [show ¬ ((3 : Int) = 1 ∨ (3 : Int) = 2) by decide, if_false, if_true, List.cons_append, List.append_assoc, List.nil_append]
    have e : ∀ x y : List UInt8, lexc (3 :: x) (3 :: y) = lexc x y := fun x y => by simp [lexc]
    rw [e, esc_cmp]
    simp [numc, orr]
  · rw [vc (by simp)]
    simp only [vkey]
    simp only [show ¬ ((4 : Int) = 1 ∨ (4 : Int) = 2) by decide, show ¬ ((4 : Int) = 3) by decide, if_false, if_true, List.cons_append, List.nil_append]
    have e : ∀ x y : List UInt8, lexc (4 :: x) (4 :: y) = lexc x y := fun x y => by simp [lexc]
    rw [e, one_cmp _ _ (by omega) (by omega) (by omega) (by omega)]
    have z : numc (4 : Int) 4 = 0 := rfl
    have z' : numc (0 : Int) 0 = 0 := rfl
    rw [z, z', orr_zero, orr_zero, lexc_refl]
    simp only [orr]
    by_cases h : numc n n' = 0 <;> simp [h]
  · rw [vc (by simp)]
    simp only [vkey]
    simp only [show ¬ ((5 : Int) = 1 ∨ (5 : Int) = 2) by decide, show ¬ ((5 : Int) = 3) by decide, show ¬ ((5 : Int) = 4) by decide, if_false, if_true, List.cons_append, List.append_assoc]
    have e : ∀ x y : List UInt8, lexc (5 :: x) (5 :: y) = lexc x y := fun x y => by simp [lexc]
    rw [e, bigE_cmp 4 _ _ (by omega) (by omega), shift_cmp _ _ _ (by omega) (by omega), bigE_cmp 4 _ _ (by omega) (by omega), shift_cmp _ _ _ (by omega) (by omega)]
    have z : numc (5 : Int) 5 = 0 := rfl
    rw [z, orr_zero, lexc_refl, orr_orr]
    congr 1
    simp only [orr]
    by_cases h : numc m m' = 0 <;> simp [h]

/-- Rows: value by value; one that begins another is ahead of it. -/
def rcmp : List Va → List Va → Int
  | [], [] => 0
  | [], _ :: _ => -1
  | _ :: _, [] => 1
  | a :: x, b :: y => orr (vcmp a b) (rcmp x y)
def rkey (l : List Va) : List UInt8 := l.flatMap vkey ++ [0]
def vnum (v : Va) : Prop := -9223372036854775808 ≤ v.n ∧ v.n ≤ 9223372036854775807

theorem vkey_first (v : Va) : ∃ c l, vkey v = c :: l ∧ 0 < c := by
  unfold vkey
  split
  · exact ⟨_, _, rfl, by decide⟩
  split
  · exact ⟨_, _, rfl, by decide⟩
  split
  · exact ⟨_, _, rfl, by decide⟩
  split
  · exact ⟨_, _, rfl, by decide⟩
  · exact ⟨_, _, rfl, by decide⟩

/-- Keys stand byte by byte as their rows do. -/
theorem rkey_cmp (g : List UInt8 → Bool) (x y : List Va) (hx : ∀ v ∈ x, vok g v ∧ vnum v) (hy : ∀ v ∈ y, vok g v ∧ vnum v) : lexc (rkey x) (rkey y) = rcmp x y := by
  fun_induction rcmp x y with
  | case1 => rfl
  | case2 b y =>
    obtain ⟨c, l, e, hc⟩ := vkey_first b
    simp [rkey, e, lexc, hc]
  | case3 a x =>
    obtain ⟨c, l, e, hc⟩ := vkey_first a
    simp [rkey, e, lexc, hc]
  | case4 a x b y ih =>
    have ha := hx a (by simp)
    have hb := hy b (by simp)
    have ih' := ih (fun v hv => hx v (by simp [hv])) (fun v hv => hy v (by simp [hv]))
    have := vkey_cmp g a b ha.1 hb.1 ha.2.1 ha.2.2 hb.2.1 hb.2.2 (rkey x) (rkey y)
    rw [ih'] at this
    simpa [rkey] using this

theorem orr_eq_zero {a b : Int} : orr a b = 0 ↔ a = 0 ∧ b = 0 := by
  unfold orr; by_cases h : a = 0 <;> simp [h]
theorem at6_inj {n n' m : Int} (h : n * 10 ^ (6 - m).toNat = n' * 10 ^ (6 - m).toNat) (hm : 0 ≤ m) : n = n' := by
  obtain ⟨_, hp1⟩ := pow_le6 (6 - m).toNat (by omega)
  exact Int.eq_of_mul_eq_mul_right (by omega) h
theorem vcmp_zero (g : List UInt8 → Bool) {v u : Va} (hv : vok g v) (hu : vok g u) : vcmp v u = 0 ↔ v = u := by
  have hm : ∀ x : Va, vok g x → isn x → 0 ≤ x.m := by
    intro x hx hi
    simp only [vok, isn] at *
    omega
  constructor
  · intro h
    unfold vcmp at h
    obtain ⟨k, n, m, b⟩ := v
    obtain ⟨k', n', m', b'⟩ := u
    by_cases hi : isn ⟨k, n, m, b⟩ ∧ isn ⟨k', n', m', b'⟩
    · rw [if_pos hi] at h
      simp only [orr_eq_zero, numc_zero] at h
      obtain ⟨h1, h2, h3⟩ := h
      have hm1 := hm _ hv hi.1
      subst h2; subst h3
      have := at6_inj h1 hm1
      simp only [vok, isn] at *
      have b1 : b = [] := by
        rcases hv with h | h | h | h | h | h
        · exact h.2.2.2
        · exact h.2.2
        · exact h.2.2.2
        all_goals omega
      have b2 : b' = [] := by
        rcases hu with h | h | h | h | h | h
        · exact h.2.2.2
        · exact h.2.2
        · exact h.2.2.2
        all_goals omega
      subst b1; subst b2; subst this; rfl
    · rw [if_neg hi] at h
      simp only [orr_eq_zero, numc_zero] at h
      obtain ⟨rfl, rfl, rfl, h4⟩ := h
      have := lexc_zero h4
      subst this; rfl
  · rintro rfl
    unfold vcmp
    have z : ∀ a : Int, numc a a = 0 := fun a => numc_zero.2 rfl
    split <;> simp [orr, z, lexc_refl]
theorem rcmp_zero (g : List UInt8 → Bool) {x y : List Va} (hx : ∀ v ∈ x, vok g v) (hy : ∀ v ∈ y, vok g v) : rcmp x y = 0 ↔ x = y := by
  fun_induction rcmp x y with
  | case1 => simp
  | case2 => simp
  | case3 => simp
  | case4 a x b y ih =>
    rw [orr_eq_zero, vcmp_zero g (hx a (by simp)) (hy b (by simp)), ih (fun v hv => hx v (by simp [hv])) (fun v hv => hy v (by simp [hv]))]
    simp
theorem orr_range {a b : Int} (h : a = -1 ∨ a = 0 ∨ a = 1) (h' : b = -1 ∨ b = 0 ∨ b = 1) : orr a b = -1 ∨ orr a b = 0 ∨ orr a b = 1 := by
  unfold orr; by_cases h0 : a = 0 <;> simp [h0] <;> omega
theorem vcmp_range (a b : Va) : vcmp a b = -1 ∨ vcmp a b = 0 ∨ vcmp a b = 1 := by
  unfold vcmp
  split
  · exact orr_range (numc_range _ _) (orr_range (numc_range _ _) (numc_range _ _))
  · exact orr_range (numc_range _ _) (orr_range (numc_range _ _) (orr_range (numc_range _ _) (lexc_range _ _)))
theorem rcmp_range (x y : List Va) : rcmp x y = -1 ∨ rcmp x y = 0 ∨ rcmp x y = 1 := by
  fun_induction rcmp x y with
  | case1 => simp
  | case2 => simp
  | case3 => simp
  | case4 a x b y ih => exact orr_range (vcmp_range _ _) ih

theorem lexc_trans (x y z : List UInt8) (h1 : lexc x y ≤ 0) (h2 : lexc y z ≤ 0) : lexc x z ≤ 0 := by
  fun_induction lexc x y generalizing z with
  | case1 => exact h2
  | case2 b y => cases z with
    | nil => simp [lexc] at h2
    | cons c z => simp [lexc]
  | case3 => simp at h1
  | case4 a x b y h => cases z with
    | nil => simp [lexc] at h2
    | cons c z =>
      have hbc : ¬ c < b := by intro hc; have : ¬ b < c := by rw [UInt8.not_lt]; exact UInt8.le_of_lt hc
                               simp [lexc, hc, this] at h2
      have : a < c := UInt8.lt_of_lt_of_le h (UInt8.not_lt.1 hbc)
      simp [lexc, this]
  | case5 => simp at h1
  | case6 a x b y h h' ih =>
    have : a = b := UInt8.le_antisymm (UInt8.not_lt.1 h') (UInt8.not_lt.1 h)
    subst this
    cases z with
    | nil => simp [lexc] at h2
    | cons c z =>
      by_cases h3 : a < c
      · simp [lexc, h3]
      · by_cases h4 : c < a
        · simp [lexc, h3, h4] at h2
        · simp only [lexc, h3, h4, if_false] at h2 ⊢
          exact ih z h1 h2

theorem vcmp_key (g : List UInt8 → Bool) (v u : Va) (hv : vok g v ∧ vnum v) (hu : vok g u ∧ vnum u) : vcmp v u = lexc (vkey v) (vkey u) := by
  have := vkey_cmp g v u hv.1 hu.1 hv.2.1 hv.2.2 hu.2.1 hu.2.2 [] []
  simp only [List.append_nil] at this
  rw [this]
  unfold orr
  by_cases h : vcmp v u = 0 <;> simp [h, lexc]
/-- Of values that may be there is one order. -/
theorem vcmp_order (g : List UInt8 → Bool) (a b c : Va) (ha : vok g a ∧ vnum a) (hb : vok g b ∧ vnum b) (hc : vok g c ∧ vnum c) :
    vcmp b a = - vcmp a b ∧ (vcmp a b = 0 ↔ a = b) ∧ (vcmp a b > 0 ∨ vcmp b c > 0 ∨ vcmp a c ≤ 0) ∧ (vcmp a b < 0 ∨ vcmp b c < 0 ∨ vcmp a c ≥ 0) := by
  refine ⟨?_, vcmp_zero g ha.1 hb.1, ?_, ?_⟩
  · rw [vcmp_key g b a hb ha, vcmp_key g a b ha hb, lexc_anti]
  · rw [vcmp_key g a b ha hb, vcmp_key g b c hb hc, vcmp_key g a c ha hc]
    have := lexc_trans (vkey a) (vkey b) (vkey c)
    omega
  · rw [vcmp_key g a b ha hb, vcmp_key g b c hb hc, vcmp_key g a c ha hc]
    have := lexc_trans (vkey c) (vkey b) (vkey a)
    rw [lexc_anti (vkey b) (vkey c), lexc_anti (vkey a) (vkey b), lexc_anti (vkey a) (vkey c)] at this
    omega
end Go.Proofs.YtnpdecbgakgbgaaGreatDoor
