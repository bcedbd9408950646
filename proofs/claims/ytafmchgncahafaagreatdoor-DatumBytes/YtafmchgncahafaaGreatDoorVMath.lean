/-
  Values and rows as plain data: which may be, their order, their keys; keys stand byte by byte as their rows do.
-/
import GoSem.Op.String
namespace Go.Proofs.YtafmchgncahafaaGreatDoor

/-- A number's lowest bytes, as many as k, the highest first. -/
def bigE : Nat → Nat → List UInt8
  | 0, _ => []
  | k + 1, n => UInt8.ofNat (n / 256 ^ k % 256) :: bigE k n

theorem bigE_mod (k n : Nat) : bigE k n = bigE k (n % 256 ^ k) := by
  suffices H : ∀ m, k ≤ m → bigE k n = bigE k (n % 256 ^ m) from H k (Nat.le_refl _)
  induction k with
  | zero => intro m _; rfl
  | succ k ih =>
    intro m hm
    have e : n / 256 ^ k % 256 = n % 256 ^ m / 256 ^ k % 256 := by
      obtain ⟨j, rfl⟩ : ∃ j, m = k + 1 + j := ⟨m - (k + 1), by omega⟩
      have : 256 ^ (k + 1 + j) = 256 ^ k * (256 * 256 ^ j) := by rw [Nat.pow_add, Nat.pow_succ, Nat.mul_assoc]
      rw [this, Nat.mod_mul_right_div_self, Nat.mod_mul_right_mod]
    simp only [bigE]
    rw [e, ih m (by omega)]

theorem bigE_len (k n : Nat) : (bigE k n).length = k := by
  induction k with
  | zero => rfl
  | succ k ih => simp [bigE, ih]

/-- A text's bytes in a key: each 0 followed by 255. -/
def esc : List UInt8 → List UInt8
  | [] => []
  | c :: l => if c = 0 then c :: 255 :: esc l else c :: esc l

/-- A value. -/
structure Va where
  k : Int
  n : Int
  m : Int
  b : List UInt8

/-- May it be? (g: is its text good UTF-8?) -/
def vok (g : List UInt8 → Bool) (v : Va) : Prop :=
  (v.k = 0 ∧ v.n = 0 ∧ v.m = 0 ∧ v.b = []) ∨ (v.k = 1 ∧ v.m = 0 ∧ v.b = []) ∨ (v.k = 2 ∧ 0 ≤ v.m ∧ v.m ≤ 6 ∧ v.b = []) ∨
  (v.k = 3 ∧ v.n = 0 ∧ v.m = 0 ∧ v.b.length ≤ 256 ∧ g v.b = true) ∨ (v.k = 4 ∧ (v.n = 0 ∨ v.n = 1) ∧ v.m = 0 ∧ v.b = []) ∨
  (v.k = 5 ∧ -1048576 ≤ v.n ∧ v.n ≤ 1048576 ∧ -1048576 ≤ v.m ∧ v.m ≤ 1048576 ∧ v.b = [])

/-- Is it a number? -/
def isn (v : Va) : Prop := v.k = 1 ∨ v.k = 2
instance (v : Va) : Decidable (isn v) := inferInstanceAs (Decidable (_ ∨ _))

/-- A number at the greatest scale. -/
def at6 (v : Va) : Int := v.n * 10 ^ (6 - v.m).toNat

/-- A value's part of a key. -/
def vkey (v : Va) : List UInt8 :=
  if v.k = 1 ∨ v.k = 2 then 2 :: (bigE 16 (at6 v + 2 ^ 127).toNat ++ [UInt8.ofNat v.k.toNat, UInt8.ofNat v.m.toNat])
  else if v.k = 3 then 3 :: (esc v.b ++ [0, 1])
  else if v.k = 4 then [4, UInt8.ofNat v.n.toNat]
  else if v.k = 5 then 5 :: (bigE 4 (v.n + 2 ^ 31).toNat ++ bigE 4 (v.m + 2 ^ 31).toNat)
  else [1]

def rkey (l : List Va) : List UInt8 := l.flatMap vkey ++ [0]
end Go.Proofs.YtafmchgncahafaaGreatDoor
