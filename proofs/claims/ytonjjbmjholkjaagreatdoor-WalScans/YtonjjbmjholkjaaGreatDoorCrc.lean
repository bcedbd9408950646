/-
  Plain facts on the sum (CRC-64): a step of four bits by the table, a step of one bit by the polynomial, and that four of the one are the other; the sum is linear. Nothing of the program is in it.
-/
import Derived.Test.YtonjjbmjholkjaaGreatDoorPlain
namespace Go.Proofs.YtonjjbmjholkjaaGreatDoor
open Go.RowKit

def tabN : List Nat := [0, 4823603603198064275, 9647207206396128550, 14344283933443513269, 5274672035359026399, 847670339082705484, 14759040976900489721, 10241823793177474922,
  10549344070718052798, 15030250704074698541, 1695340678165410968, 6158653484774949387, 15804726273676621153, 11071337880091427826, 6824194888265062471, 2036903512645398228]
def tab (k : Nat) : BitVec 64 := BitVec.ofNat 64 (tabN.getD k 0)
def nib (r : BitVec 64) : BitVec 64 := (r <<< 4) ^^^ tab (r >>> 60).toNat
def byteStep (r : BitVec 64) (x : UInt8) : BitVec 64 := nib (nib (r ^^^ (BitVec.ofNat 64 x.toNat <<< 56)))
def crc (bs : List UInt8) : BitVec 64 := bs.foldl byteStep 0

theorem crc_snoc (bs : List UInt8) (x : UInt8) : crc (bs ++ [x]) = byteStep (crc bs) x := by simp [crc]
theorem crc_nil : crc [] = 0 := rfl

/-! ### words as the walk writes them -/
theorem xor_word (a b : BitVec 64) : bits .xor .u64 (a.toNat : Int) (b.toNat : Int) = ((a ^^^ b).toNat : Int) := by
  rw [u64_xor_nat _ _ a.isLt b.isLt, BitVec.toNat_xor]
theorem shl_word (a : BitVec 64) (k : Nat) : IntKind.u64.wrap ((a.toNat : Int) * ((2 ^ k : Nat) : Int)) = ((a <<< k).toNat : Int) := by
  rw [IntKind.wrap_u64, BitVec.toNat_shiftLeft, Nat.shiftLeft_eq, ← Int.natCast_mul]
  generalize a.toNat * 2 ^ k = m
  omega
theorem shr_word (a : BitVec 64) : (a.toNat : Int) / 1152921504606846976 = ((a >>> 60).toNat : Int) := by
  rw [BitVec.toNat_ushiftRight, Nat.shiftRight_eq_div_pow]
  generalize a.toNat = m
  omega
theorem shr60_lt (a : BitVec 64) : (a >>> 60).toNat < 16 := by
  have := a.isLt
  rw [BitVec.toNat_ushiftRight, Nat.shiftRight_eq_div_pow]
  omega
theorem byte_word (x : UInt8) : IntKind.u64.wrap (x.toNat : Int) = ((BitVec.ofNat 64 x.toNat).toNat : Int) := by
  have h : x.toNat < 256 := x.toNat_lt
  rw [IntKind.wrap_u64, BitVec.toNat_ofNat, Nat.mod_eq_of_lt (by omega)]
  omega

theorem nib_facts (r : BitVec 64) : ∃ (k : Nat) (s : BitVec 64), k < 16 ∧ (r.toNat : Int) / 1152921504606846976 = (k : Int) ∧
    bits .xor .u64 (IntKind.u64.wrap ((r.toNat : Int) * 16)) ((tab k).toNat : Int) = (s.toNat : Int) ∧ s = nib r := by
  refine ⟨(r >>> 60).toNat, nib r, shr60_lt r, shr_word r, ?_, rfl⟩
  have := shl_word r 4
  rw [show ((2 ^ 4 : Nat) : Int) = 16 from rfl] at this
  rw [this, xor_word]
  rfl

theorem round_facts (u : BitVec 64) (x : UInt8) : ∃ (r1 r2 r3 : BitVec 64) (k1 k2 : Nat), k1 < 16 ∧ k2 < 16 ∧
    bits .xor .u64 (u.toNat : Int) (IntKind.u64.wrap (IntKind.u64.wrap (x.toNat : Int) * 72057594037927936)) = (r1.toNat : Int) ∧
    (r1.toNat : Int) / 1152921504606846976 = (k1 : Int) ∧ bits .xor .u64 (IntKind.u64.wrap ((r1.toNat : Int) * 16)) ((tab k1).toNat : Int) = (r2.toNat : Int) ∧
    (r2.toNat : Int) / 1152921504606846976 = (k2 : Int) ∧ bits .xor .u64 (IntKind.u64.wrap ((r2.toNat : Int) * 16)) ((tab k2).toNat : Int) = (r3.toNat : Int) ∧
    r3 = byteStep u x := by
  obtain ⟨k1, r2, hk1, h1, h2, e2⟩ := nib_facts (u ^^^ (BitVec.ofNat 64 x.toNat <<< 56))
  obtain ⟨k2, r3, hk2, h3, h4, e3⟩ := nib_facts r2
  refine ⟨_, r2, r3, k1, k2, hk1, hk2, ?_, h1, h2, h3, h4, by rw [e3, e2]; rfl⟩
  rw [byte_word]
  have := shl_word (BitVec.ofNat 64 x.toNat) 56
  rw [show ((2 ^ 56 : Nat) : Int) = 72057594037927936 from rfl] at this
  rw [this, xor_word]

/-! ### bit by bit -/
def polyB : BitVec 64 := 4823603603198064275#64
def bitStep (r : BitVec 64) : BitVec 64 := (r <<< 1) ^^^ (if r.msb then polyB else 0)

theorem bitStep_xor (a b : BitVec 64) : bitStep (a ^^^ b) = bitStep a ^^^ bitStep b := by
  unfold bitStep
  rw [BitVec.msb_xor, BitVec.shiftLeft_xor_distrib]
  generalize a <<< 1 = x
  generalize b <<< 1 = y
  cases a.msb <;> cases b.msb <;> simp
  · ac_rfl
  · ac_rfl
  · rw [BitVec.xor_assoc, ← BitVec.xor_assoc polyB y, BitVec.xor_comm polyB y, BitVec.xor_assoc y, BitVec.xor_self, BitVec.xor_zero]

theorem bitStep_small (r : BitVec 64) (h : r.msb = false) : bitStep r = r <<< 1 := by simp [bitStep, h]

/-- The low sixty bits move up by four; of the high four the table tells. -/
theorem split4 (r : BitVec 64) : r = (r <<< 4 >>> 4) ^^^ ((r >>> 60) <<< 60) := by
  apply BitVec.eq_of_getLsbD_eq
  intro i hi
  simp only [BitVec.getLsbD_xor, BitVec.getLsbD_ushiftRight, BitVec.getLsbD_shiftLeft]
  by_cases h : i < 60
  · have h1 : 4 + i < 64 := by omega
    simp [h, h1]
  · have h1 : ¬ 4 + i < 64 := by omega
    have h2 : 60 + (i - 60) = i := by omega
    simp [h, h1, hi, h2]

theorem low4 (r : BitVec 64) : bitStep (bitStep (bitStep (bitStep (r <<< 4 >>> 4)))) = r <<< 4 := by
  have m0 : (r <<< 4 >>> 4).msb = false := by simp [BitVec.msb_eq_getLsbD_last]
  have m1 : (r <<< 4 >>> 4 <<< 1).msb = false := by simp [BitVec.msb_eq_getLsbD_last]
  have m2 : (r <<< 4 >>> 4 <<< 2).msb = false := by simp [BitVec.msb_eq_getLsbD_last]
  have m3 : (r <<< 4 >>> 4 <<< 3).msb = false := by simp [BitVec.msb_eq_getLsbD_last]
  rw [bitStep_small _ m0, bitStep_small _ m1, ← BitVec.shiftLeft_add, bitStep_small _ m2, ← BitVec.shiftLeft_add, bitStep_small _ m3, ← BitVec.shiftLeft_add]
  apply BitVec.eq_of_getLsbD_eq
  intro i hi
  simp only [BitVec.getLsbD_ushiftRight, BitVec.getLsbD_shiftLeft]
  by_cases h : i < 4
  · simp [h]
  · have h2 : 4 + (i - 4) = i := by omega
    simp [h, hi]
    rw [h2]
    simp [hi]

theorem high4 (k : Nat) (hk : k < 16) : bitStep (bitStep (bitStep (bitStep (BitVec.ofNat 64 k <<< 60)))) = tab k := by
  have key : ∀ k : Fin 16, bitStep (bitStep (bitStep (bitStep (BitVec.ofNat 64 k.val <<< 60)))) = tab k.val := by decide +kernel
  exact key ⟨k, hk⟩

theorem nib_bits (r : BitVec 64) : nib r = bitStep (bitStep (bitStep (bitStep r))) := by
  have e : r >>> 60 = BitVec.ofNat 64 (r >>> 60).toNat := by rw [BitVec.ofNat_toNat, BitVec.setWidth_eq]
  conv => rhs; rw [split4 r, e]
  rw [bitStep_xor, bitStep_xor, bitStep_xor, bitStep_xor, low4, high4 _ (shr60_lt r)]
  rfl
end Go.Proofs.YtonjjbmjholkjaaGreatDoor
