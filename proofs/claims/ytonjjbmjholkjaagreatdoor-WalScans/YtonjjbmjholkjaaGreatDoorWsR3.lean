/-
  The contract of the document's answer longstopref01.Sum: bit by bit it comes to the same sum.
-/
import Derived.Test.YtonjjbmjholkjaaGreatDoorWsR2
namespace Go.Proofs.YtonjjbmjholkjaaGreatDoor
open Go.RowKit

def bitN : Nat → BitVec 64 → BitVec 64
  | 0, r => r
  | j + 1, r => bitStep (bitN j r)

theorem byteStep_bits (c : BitVec 64) (x : UInt8) : byteStep c x = bitN 8 (c ^^^ (BitVec.ofNat 64 x.toNat <<< 56)) := by
  unfold byteStep
  rw [nib_bits, nib_bits]
  rfl

/-- The k-th bit of a byte. -/
def bitOf (x : UInt8) (k : Nat) : Bool := x.toNat / 2 ^ k % 2 == 1
/-- One step of the document's sum: with the bit that comes in. -/
def inStep (c : BitVec 64) (t : Bool) : BitVec 64 := (c <<< 1) ^^^ (if c.msb != t then polyB else 0)

theorem msb_byte (x : UInt8) (j : Nat) (hj : j < 8) : ((BitVec.ofNat 64 x.toNat <<< 56) <<< j).msb = bitOf x (7 - j) := by
  have key : ∀ (x : _root_.Fin 256) (j : _root_.Fin 8), ((BitVec.ofNat 64 x.val <<< 56) <<< j.val).msb = (x.val / 2 ^ (7 - j.val) % 2 == 1) := by decide +kernel
  exact key ⟨x.toNat, x.toNat_lt⟩ ⟨j, hj⟩

theorem in_step (c y : BitVec 64) (j : Nat) (z : BitVec 64) (h : z = c ^^^ (y <<< j)) : bitStep z = inStep c ((y <<< j).msb) ^^^ (y <<< (j + 1)) := by
  subst h
  unfold bitStep inStep
  rw [BitVec.msb_xor, BitVec.shiftLeft_xor_distrib, ← BitVec.shiftLeft_add]
  generalize c <<< 1 = p
  generalize y <<< (j + 1) = q
  have e : (c.msb ^^ (y <<< j).msb) = (c.msb != (y <<< j).msb) := by cases c.msb <;> cases (y <<< j).msb <;> rfl
  rw [e]
  generalize (if (c.msb != (y <<< j).msb) = true then polyB else 0) = r
  ac_rfl

theorem byte_out (x : UInt8) : (BitVec.ofNat 64 x.toNat <<< 56) <<< 8 = 0 := by
  have key : ∀ x : _root_.Fin 256, (BitVec.ofNat 64 x.val <<< 56) <<< 8 = 0 := by decide +kernel
  exact key ⟨x.toNat, x.toNat_lt⟩

theorem bit_start (u : BitVec 64) (x : UInt8) : Hid (bitN (8 - 8) (u ^^^ (BitVec.ofNat 64 x.toNat <<< 56)) = u ^^^ ((BitVec.ofNat 64 x.toNat <<< 56) <<< (8 - 8))) := by
  unfold Hid
  rw [Nat.sub_self, BitVec.shiftLeft_zero]
  rfl

/-! ### as the walk writes it -/
theorem top_bit (c : BitVec 64) : (c.toNat : Int) / 9223372036854775808 = if c.msb then 1 else 0 := by
  have := c.isLt
  rw [BitVec.msb_eq_decide]
  by_cases h : 2 ^ (64 - 1) ≤ c.toNat
  · simp only [h, decide_true, if_true]; omega
  · simp only [h, decide_false]; simp; omega
theorem low_bit (x : UInt8) (k : Nat) : bits .and .u64 ((x.toNat : Int) / 2 ^ k) 1 = if bitOf x k then 1 else 0 := by
  have hx : x.toNat < 256 := x.toNat_lt
  have e : (x.toNat : Int) / 2 ^ k = ((x.toNat / 2 ^ k : Nat) : Int) := by simp
  have hle : x.toNat / 2 ^ k ≤ x.toNat := Nat.div_le_self _ _
  rw [e, show (1 : Int) = ((1 : Nat) : Int) from rfl, u64_and_nat _ _ (by omega) (by decide), nat_mask1]
  unfold bitOf
  by_cases h : x.toNat / 2 ^ k % 2 = 1
  · simp [h]
  · have : x.toNat / 2 ^ k % 2 = 0 := by omega
    simp [this]
theorem both_bits (a b : Bool) : bits .xor .u64 (if a then 1 else 0) (if b then 1 else 0) = if a != b then 1 else 0 := by
  cases a <;> cases b <;> decide +kernel
theorem bit_fact (c : BitVec 64) (x : UInt8) (k : Nat) : bits .xor .u64 ((c.toNat : Int) / 9223372036854775808) (bits .and .u64 ((x.toNat : Int) / 2 ^ k) 1) = if c.msb != bitOf x k then 1 else 0 := by
  rw [top_bit, low_bit, both_bits]
theorem shl1_word (c : BitVec 64) : IntKind.u64.wrap ((c.toNat : Int) * 2) = ((c <<< 1).toNat : Int) := by
  have := shl_word c 1
  rw [show ((2 ^ 1 : Nat) : Int) = 2 from rfl] at this
  exact this
theorem poly_word (r : BitVec 64) : bits .xor .u64 (r.toNat : Int) 4823603603198064275 = ((r ^^^ polyB).toNat : Int) := by
  have := xor_word r polyB
  rw [show ((polyB.toNat : Nat) : Int) = 4823603603198064275 from by decide +kernel] at this
  exact this

set_option maxRecDepth 20000 in
set_option maxHeartbeats 1000000 in
theorem rsum_some (b off n cap : Nat) (bs : List UInt8) (w : World) (hn : n ≤ 9223372036854775807) (hl : bs.length = n) (hc : ∀ i (h : i < bs.length), w.cell? ⟨b, off + i, none⟩ = some (.int .u8 (bs[i].toNat : Int))) :
    Calls Tryz.prog 42 #[.slice (some ⟨b, off, none⟩) n cap] w fun e w' => e = .returned (.int .u64 ((crc bs).toNat : Int)) ∧ w = w' := by
  go_enter Tryz.func42, Tryz.ntmps42
  go_wp2
  go_loop [3, 4] (fun r i => ∃ (k : Nat) (u : BitVec 64), k ≤ n ∧ i = .int .i64 k ∧ r = .int .u64 (u.toNat : Int) ∧ Hid (u = crc (bs.take k))) (fun _ i => n - (intOf i).toNat)
  case atStart => exact ⟨0, 0, Nat.zero_le _, rfl, rfl, rfl⟩
  case round =>
    obtain ⟨k, u, hk, rfl, rfl, hu⟩ := hrel
    by_cases hlt : k < n
    · have hck := hc k (by omega)
      have hs : bs.take (k + 1) = bs.take k ++ [bs[k]] := by rw [List.take_succ_eq_append_getElem (by omega)]
      have hcr : Hid (crc (bs.take (k + 1)) = byteStep u bs[k]) := by rw [hs, crc_snoc, ← hu.out]; rfl
      clear hs hc hu
      generalize bs[k] = x at hck hcr
      have hx255 : (x.toNat : Int) ≤ 255 := by have := x.toNat_lt; omega
      go_wp2
      go_loop [3, 5] (fun r q => ∃ (m : Nat) (c : BitVec 64), m ≤ 8 ∧ q = .int .i64 ((m : Int) - 1) ∧ r = .int .u64 (c.toNat : Int) ∧ Hid (bitN (8 - m) (u ^^^ (BitVec.ofNat 64 x.toNat <<< 56)) = c ^^^ ((BitVec.ofNat 64 x.toNat <<< 56) <<< (8 - m)))) (fun _ q => (intOf q + 1).toNat)
      case atStart => exact ⟨8, u, by omega, rfl, rfl, bit_start u x⟩
      case round =>
        obtain ⟨m, c, hm, rfl, rfl, hinv⟩ := hrel
        by_cases hm0 : 0 < m
        · have hm1 : (0 : Int) ≤ (m : Int) - 1 := by omega
          have ef := bit_fact c x (m - 1)
          have es := shl1_word c
          have hstep := in_step c (BitVec.ofNat 64 x.toNat <<< 56) (8 - m) _ hinv.out
          rw [msb_byte x (8 - m) (by omega), show 7 - (8 - m) = m - 1 from by omega] at hstep
          have HI : Hid (bitN (8 - (m - 1)) (u ^^^ (BitVec.ofNat 64 x.toNat <<< 56)) = inStep c (bitOf x (m - 1)) ^^^ ((BitVec.ofNat 64 x.toNat <<< 56) <<< (8 - (m - 1)))) := by
            rw [show 8 - (m - 1) = 8 - m + 1 from by omega]
            exact hstep
          clear hstep hinv
          by_cases hb : (c.msb != bitOf x (m - 1)) = true
          · rw [if_pos hb] at ef
            have ep := poly_word (c <<< 1)
            have hin : inStep c (bitOf x (m - 1)) = (c <<< 1) ^^^ polyB := by unfold inStep; rw [if_pos hb]
            rw [hin] at HI
            generalize (c <<< 1) ^^^ polyB = c2 at HI ep
            generalize c <<< 1 = c1 at es ep
            clear hin hb
            go_wp2
            go_round
            case rel => exact ⟨m - 1, c2, by omega, by go_num, rfl, HI⟩
            case measure => simp [intOf]; omega
          · rw [if_neg hb] at ef
            have hin : inStep c (bitOf x (m - 1)) = c <<< 1 := by unfold inStep; rw [if_neg hb]; simp
            rw [hin] at HI
            generalize c <<< 1 = c1 at es HI
            clear hin hb
            go_wp2
            go_round
            case rel => exact ⟨m - 1, c1, by omega, by go_num, rfl, HI⟩
            case measure => simp [intOf]; omega
        · have hm1 : (m : Int) - 1 < 0 := by omega
          have hmz : m = 0 := by omega
          subst hmz
          have hfin : c = byteStep u x := by
            have := hinv.out
            rw [show 8 - 0 = 8 from rfl, byte_out x] at this
            rw [byteStep_bits, this]
            simp
          have HF : Hid (c = byteStep u x) := hfin
          clear hfin hinv
          go_wp2
          go_round
          case rel => exact ⟨k + 1, c, by omega, by go_num, rfl, by rw [hcr.out]; exact HF.out⟩
          case measure => simp [intOf]; omega
    · clear hc
      go_wp2
      go_ret
      have e : bs.take k = bs := List.take_of_length_le (by omega)
      have hu' := hu.out
      rw [e] at hu'
      exact ⟨ret_int (congrArg (fun z : BitVec 64 => (z.toNat : Int)) hu'), rfl⟩

set_option maxRecDepth 20000 in
set_option maxHeartbeats 400000 in
theorem rsum_none (ao : Option Addr) (cap : Nat) (w : World) :
    Calls Tryz.prog 42 #[.slice ao 0 cap] w fun e w' => e = .returned (.int .u64 ((crc []).toNat : Int)) ∧ w = w' := by
  go_enter Tryz.func42, Tryz.ntmps42
  go_wp2
  refine wp_loop_rounds 1 ?_
  rw [rounds_succ]
  go_wp2
  go_ret
  exact ⟨rfl, rfl⟩

theorem rsum_any (ao : Option Addr) (n cap : Nat) (bs : List UInt8) (w : World) (h : Rd w ao n cap bs) :
    Calls Tryz.prog 42 #[.slice ao n cap] w fun e w' => e = .returned (.int .u64 ((crc bs).toNat : Int)) ∧ w = w' := by
  obtain ⟨h1, h2, h3, h4, h5⟩ := h
  unfold maxLen at h3
  rcases Nat.eq_zero_or_pos n with hz | hz
  · subst hz
    have : bs = [] := List.eq_nil_of_length_eq_zero h1
    subst this
    exact rsum_none ao cap w
  · obtain ⟨b, off, rfl, hc⟩ := h5 hz
    exact rsum_some b off n cap bs w (by omega) h1 hc

set_option maxRecDepth 20000 in
set_option maxHeartbeats 400000 in
theorem rtake_none (ao : Option Addr) (cap : Nat) (w : World) :
    Calls Tryz.prog 40 #[.slice ao 0 cap] w fun e w' => e = .returned (.tuple #[.int .i64 0, .int .i64 0, .int .i64 20]) ∧ w = w' := by
  go_enter Tryz.func40, Tryz.ntmps40
  go_wp2
  refine wp_loop_rounds 1 ?_
  rw [rounds_succ]
  go_wp2
  go_ret3
  exact ⟨rfl, rfl⟩

theorem rtake_any (ao : Option Addr) (n cap : Nat) (bs : List UInt8) (w : World) (h : Rd w ao n cap bs) :
    Calls Tryz.prog 40 #[.slice ao n cap] w fun e w' => e = .returned (.tuple #[.int .i64 (numOf (takeN bs)), .int .i64 ((takeN bs).2.1 : Int), .int .i64 ((takeN bs).2.2 : Int)]) ∧ w = w' := by
  obtain ⟨h1, h2, h3, h4, h5⟩ := h
  unfold maxLen at h3
  rcases Nat.eq_zero_or_pos n with hz | hz
  · subst hz
    have : bs = [] := List.eq_nil_of_length_eq_zero h1
    subst this
    exact rtake_none ao cap w
  · obtain ⟨b, off, rfl, hc⟩ := h5 hz
    exact rtake_some b off n cap bs w (by omega) h1 hc
end Go.Proofs.YtonjjbmjholkjaaGreatDoor
