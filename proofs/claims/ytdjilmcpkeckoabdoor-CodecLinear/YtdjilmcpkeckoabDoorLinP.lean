/-
  Plain facts: the sum of bytes of which two are flipped together is both sums flipped together. Nothing of the program's code is in it.
-/
import Derived.Test.YtdjilmcpkeckoabDoorCrc
namespace Go.Proofs.YtdjilmcpkeckoabDoor
open Go.RowKit

def flip2 (a b : List UInt8) : List UInt8 := List.zipWith (fun x y => x ^^^ y) a b

theorem nib_xor (a b : BitVec 64) : nib (a ^^^ b) = nib a ^^^ nib b := by
  rw [nib_bits, nib_bits, nib_bits, bitStep_xor, bitStep_xor, bitStep_xor, bitStep_xor]
theorem byteStep_xor (a b : BitVec 64) (x y : UInt8) : byteStep (a ^^^ b) (x ^^^ y) = byteStep a x ^^^ byteStep b y := by
  unfold byteStep
  have e : BitVec.ofNat 64 (x ^^^ y).toNat = BitVec.ofNat 64 x.toNat ^^^ BitVec.ofNat 64 y.toNat := by
    apply BitVec.eq_of_toNat_eq
    have hx : x.toNat < 256 := x.toNat_lt
    have hy : y.toNat < 256 := y.toNat_lt
    have hxy : (x ^^^ y).toNat < 256 := (x ^^^ y).toNat_lt
    rw [BitVec.toNat_xor, BitVec.toNat_ofNat, BitVec.toNat_ofNat, BitVec.toNat_ofNat, Nat.mod_eq_of_lt (by omega), Nat.mod_eq_of_lt (by omega), Nat.mod_eq_of_lt (by omega), UInt8.toNat_xor]
  have e2 : a ^^^ b ^^^ (BitVec.ofNat 64 (x ^^^ y).toNat <<< 56) = (a ^^^ (BitVec.ofNat 64 x.toNat <<< 56)) ^^^ (b ^^^ (BitVec.ofNat 64 y.toNat <<< 56)) := by
    rw [e, BitVec.shiftLeft_xor_distrib]
    generalize BitVec.ofNat 64 x.toNat <<< 56 = p
    generalize BitVec.ofNat 64 y.toNat <<< 56 = q
    ac_rfl
  rw [e2, nib_xor, nib_xor]
theorem fold_flip : ∀ (a b : List UInt8), a.length = b.length → ∀ r s : BitVec 64, (flip2 a b).foldl byteStep (r ^^^ s) = a.foldl byteStep r ^^^ b.foldl byteStep s := by
  intro a
  induction a with
  | nil => intro b h r s; cases b with
    | nil => rfl
    | cons _ _ => simp at h
  | cons x a ih => intro b h r s; cases b with
    | nil => simp at h
    | cons y b =>
      have := ih b (by simpa using h) (byteStep r x) (byteStep s y)
      simp only [flip2, List.zipWith_cons_cons, List.foldl_cons]
      rw [byteStep_xor]
      exact this
theorem crc_flip (a b : List UInt8) (h : a.length = b.length) : crc (flip2 a b) = crc a ^^^ crc b := by
  have := fold_flip a b h 0 0
  simpa [crc] using this

theorem flip2_take (a b : List UInt8) (k : Nat) (h1 : k < a.length) (h2 : k < b.length) : flip2 (a.take (k + 1)) (b.take (k + 1)) = flip2 (a.take k) (b.take k) ++ [a[k] ^^^ b[k]] := by
  unfold flip2
  rw [List.take_succ_eq_append_getElem h1, List.take_succ_eq_append_getElem h2, List.zipWith_append (by simp; omega)]
  rfl
theorem flip2_len (a b : List UInt8) (k : Nat) (h1 : k ≤ a.length) (h2 : k ≤ b.length) : (flip2 (a.take k) (b.take k)).length = k := by
  simp [flip2]; omega
end Go.Proofs.YtdjilmcpkeckoabDoor
