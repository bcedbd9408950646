/-
  Plain facts on numbers and bytes that the walks of package codec lean on: how a number is folded, cut into groups of seven bits, and read back. Nothing of the program is in it.
-/
import Derived.WalkKit
import Derived.Laws.BitsAllLaws
import Derived.WalkSmall
import Derived.WalkSpells
namespace Go.Proofs.Ytecgjfghofpjcaa
open Go.RowKit

/-- Bytes as cells. -/
def bv (bs : List UInt8) : List Value := bs.map fun b => Value.int .u8 (b.toNat : Int)
theorem bv_length (bs : List UInt8) : (bv bs).length = bs.length := by simp [bv]
theorem bv_append (a b : List UInt8) : bv (a ++ b) = bv a ++ bv b := by simp [bv]
theorem bv_one (b : UInt8) : bv [b] = [Value.int .u8 (b.toNat : Int)] := rfl
theorem bv_nil : bv [] = [] := rfl
theorem bv_cell (bs : List UInt8) : ∀ u ∈ bv bs, u.oneCell' = true := by
  intro u hu
  obtain ⟨_, _, rfl⟩ := List.mem_map.1 hu
  rfl
theorem bv_at (bs : List UInt8) (j : Nat) (h : j < bs.length) : (bv bs)[j]? = some (Value.int .u8 (bs[j].toNat : Int)) := by simp [bv, h]

/-- The slice v owns a row of its own that begins with the bytes bs. -/
def Own (w : World) (base : Nat) (v : Value) (bs : List UInt8) : Prop := w.ownsRow base 5 1 v bs.length (bv bs)

theorem ret_int {k : IntKind} {a b : Int} (h : a = b) : Ending.returned (.int k a) = .returned (.int k b) := by rw [h]

/-! ### folds -/
def foldN (n : Int) : Nat := if n < 0 then (-2 * n - 1).toNat else (2 * n).toNat
def unfoldN (u : Nat) : Int := if u % 2 = 0 then ((u / 2 : Nat) : Int) else -((u / 2 : Nat) : Int) - 1

theorem foldN_lt (n : Int) (h0 : -9223372036854775808 ≤ n) (h1 : n ≤ 9223372036854775807) : foldN n < 18446744073709551616 := by
  unfold foldN; split <;> omega
theorem unfold_fold (n : Int) : unfoldN (foldN n) = n := by
  unfold unfoldN foldN; split <;> split <;> omega
theorem unfoldN_bd (u : Nat) (h : u < 18446744073709551616) : -9223372036854775808 ≤ unfoldN u ∧ unfoldN u ≤ 9223372036854775807 := by
  unfold unfoldN; split <;> omega

theorem xor_max_nat (x : Nat) (h : x < 18446744073709551616) : 18446744073709551615 ^^^ x = 18446744073709551615 - x := by
  have e := BitVec.toNat_not (x := BitVec.ofNat 64 x)
  rw [← BitVec.allOnes_xor, BitVec.toNat_xor, BitVec.toNat_allOnes, BitVec.toNat_ofNat, Nat.mod_eq_of_lt (by simpa using h)] at e
  simpa using e
theorem xor_max (x : Nat) (h : x < 18446744073709551616) : bits .xor .u64 IntKind.u64.max (x : Int) = ((18446744073709551615 - x : Nat) : Int) := by
  have e : IntKind.u64.max = ((18446744073709551615 : Nat) : Int) := by decide
  rw [e, u64_xor_nat _ _ (by decide) h, xor_max_nat x h]

theorem fold_pos (n : Int) (h : 0 ≤ n) (h1 : n ≤ 9223372036854775807) : IntKind.u64.wrap (IntKind.u64.wrap n * 2) = (foldN n : Int) := by
  rw [IntKind.wrap_u64, IntKind.wrap_u64]; unfold foldN; split <;> omega
theorem fold_neg (n : Int) (h0 : -9223372036854775808 ≤ n) (h : n < 0) : bits .xor .u64 IntKind.u64.max (IntKind.u64.wrap (IntKind.u64.wrap n * 2)) = (foldN n : Int) := by
  have e : IntKind.u64.wrap (IntKind.u64.wrap n * 2) = (((2 * n) % 18446744073709551616).toNat : Int) := by rw [IntKind.wrap_u64, IntKind.wrap_u64]; omega
  rw [e, xor_max _ (by omega)]; unfold foldN; split <;> omega

theorem unfold_odd (u : Nat) (h : u < 18446744073709551616) (hp : u % 2 = 1) : wrap64 (bits .xor .u64 IntKind.u64.max ((u : Int) / 2)) = unfoldN u := by
  have e : (u : Int) / 2 = ((u / 2 : Nat) : Int) := by omega
  rw [e, xor_max _ (by omega)]; unfold unfoldN wrap64; split <;> omega
theorem unfold_even (u : Nat) (hp : ¬ u % 2 = 1) : ((u : Int) / 2) = unfoldN u := by
  unfold unfoldN; split <;> omega

/-! ### a number's bytes -/
def nb : Nat → Nat → List UInt8
  | 0, u => [UInt8.ofNat u]
  | f + 1, u => if u < 128 then [UInt8.ofNat u] else UInt8.ofNat (u % 128 + 128) :: nb f (u / 128)
def numBytes (n : Int) : List UInt8 := nb 9 (foldN n)

theorem nb_small (f u : Nat) (h : u < 128) : nb f u = [UInt8.ofNat u] := by
  cases f <;> simp [nb, h]
theorem nb_big (f u : Nat) (h : ¬ u < 128) : nb (f + 1) u = UInt8.ofNat (u % 128 + 128) :: nb f (u / 128) := by simp [nb, h]
theorem nb_len (f : Nat) : ∀ u, 1 ≤ (nb f u).length ∧ (nb f u).length ≤ f + 1 := by
  induction f with
  | zero => intro u; simp [nb]
  | succ f ih =>
    intro u
    unfold nb
    split
    · simp
    · have := ih (u / 128); simp; omega
theorem numBytes_len (n : Int) : 1 ≤ (numBytes n).length ∧ (numBytes n).length ≤ 10 := nb_len 9 _

theorem or128 (u : Nat) : bits .or .u8 (IntKind.u8.wrap (u : Int)) 128 = ((UInt8.ofNat (u % 128 + 128)).toNat : Int) := by
  have e : IntKind.u8.wrap (u : Int) = ((u % 256 : Nat) : Int) := by rw [IntKind.wrap_u8]; omega
  rw [e, show (128 : Int) = ((128 : Nat) : Int) from rfl, u8_or_nat _ _ (by omega) (by omega)]
  congr 1
  have hb : u % 256 < 256 := Nat.mod_lt _ (by decide)
  have h2 : u % 128 = u % 256 % 128 := by omega
  rw [UInt8.toNat_ofNat', h2]
  generalize u % 256 = x at hb
  have key : ∀ x : Fin 256, (x.val ||| 128) = (x.val % 128 + 128) % 2 ^ 8 := by decide +kernel
  exact key ⟨x, hb⟩
theorem byte_small (u : Nat) (_h : u < 128) : IntKind.u8.wrap (u : Int) = ((UInt8.ofNat u).toNat : Int) := by
  rw [IntKind.wrap_u8, UInt8.toNat_ofNat']; omega

theorem byte_small' (u : Nat) (_h : u < 128) : (u : Int) = ((UInt8.ofNat u).toNat : Int) := by
  rw [UInt8.toNat_ofNat']; omega

/-! ### a number read out of bytes: its fold, how many bytes, which error -/
def takeGo : Nat → Nat → Nat → List UInt8 → Nat × Nat × Nat
  | 0, _, _, [] => (0, 0, 20)
  | 0, _, _, _ :: _ => (0, 0, 21)
  | _ + 1, _, _, [] => (0, 0, 20)
  | f + 1, i, u, g :: r =>
    if i = 9 ∧ 1 < g.toNat then (0, 0, 21)
    else if g.toNat < 128 then (if 0 < i ∧ g.toNat = 0 then (0, 0, 21) else (u + g.toNat % 128 * 128 ^ i, i + 1, 0))
    else takeGo f (i + 1) (u + g.toNat % 128 * 128 ^ i) r
def takeN (bs : List UInt8) : Nat × Nat × Nat := takeGo 10 0 0 bs

theorem takeGo_nb : ∀ (f i u a : Nat) (r : List UInt8), i + f = 9 → u < 128 ^ (f + 1) → (i = 9 → u ≤ 1) → (0 < i → 0 < u) →
    (f = 0 ∨ u / 128 ^ f ≤ 1) →
    takeGo (f + 1) i a (nb f u ++ r) = (a + u * 128 ^ i, i + (nb f u).length, 0) := by
  intro f
  induction f with
  | zero =>
    intro i u a r hi hu h9 h0 _
    have hu' : u < 128 := by simpa using hu
    have e : (UInt8.ofNat u).toNat = u := by rw [UInt8.toNat_ofNat']; omega
    have e1 : u % 128 = u := Nat.mod_eq_of_lt hu'
    have hi9 : i = 9 := by omega
    have := h9 hi9
    have := h0 (by omega)
    simp only [nb, List.cons_append, List.nil_append, takeGo, e]
    rw [if_neg (by omega), if_pos hu', if_neg (by omega), e1]; rfl
  | succ f ih =>
    intro i u a r hi hu h9 h0 hq
    by_cases hs : u < 128
    · have e : (UInt8.ofNat u).toNat = u := by rw [UInt8.toNat_ofNat']; omega
      have e1 : u % 128 = u := Nat.mod_eq_of_lt hs
      rw [nb_small _ _ hs]
      simp only [List.cons_append, List.nil_append, takeGo, e]
      rw [if_neg (by omega), if_pos hs]
      by_cases hz : 0 < i
      · have := h0 hz
        rw [if_neg (by omega), e1]; rfl
      · rw [if_neg (by omega), e1]; rfl
    · rw [nb_big _ _ hs]
      have e : (UInt8.ofNat (u % 128 + 128)).toNat = u % 128 + 128 := by rw [UInt8.toNat_ofNat']; omega
      have hdiv : u / 128 / 128 ^ f = u / 128 ^ (f + 1) := by rw [Nat.div_div_eq_div_mul, Nat.pow_succ, Nat.mul_comm]
      have hlt : u / 128 < 128 ^ (f + 1) := by
        rw [Nat.div_lt_iff_lt_mul (by decide)]
        simpa [Nat.pow_succ] using hu
      have hqq : u / 128 ^ (f + 1) ≤ 1 := by rcases hq with hq | hq; · omega
                                             · exact hq
      simp only [List.cons_append, takeGo, e]
      rw [if_neg (by omega), if_neg (by omega)]
      rw [ih (i + 1) (u / 128) _ r (by omega) hlt (by
        intro h; have hf : f = 0 := by omega
        subst hf; simpa using hqq) (by omega) (by
        rcases Nat.eq_zero_or_pos f with h | h
        · exact .inl h
        · right; rw [hdiv]; exact hqq)]
      have e3 : (u % 128 + 128) % 128 = u % 128 := by omega
      have e4 : u = u / 128 * 128 + u % 128 := by omega
      rw [e3, Nat.pow_succ]
      refine Prod.ext ?_ (Prod.ext ?_ rfl)
      · show a + u % 128 * 128 ^ i + u / 128 * (128 ^ i * 128) = a + u * 128 ^ i
        conv => rhs; rw [e4]
        rw [Nat.add_mul, Nat.mul_assoc (u / 128), Nat.mul_comm 128]; omega
      · show i + 1 + (nb f (u / 128)).length = i + (UInt8.ofNat (u % 128 + 128) :: nb f (u / 128)).length
        simp; omega

theorem takeN_nb (u : Nat) (h : u < 18446744073709551616) (r : List UInt8) : takeN (nb 9 u ++ r) = (u, (nb 9 u).length, 0) := by
  unfold takeN
  rw [takeGo_nb 9 0 u 0 r rfl (Nat.lt_trans h (by decide)) (by omega) (by omega) (.inr (by omega))]
  simp
end Go.Proofs.Ytecgjfghofpjcaa
