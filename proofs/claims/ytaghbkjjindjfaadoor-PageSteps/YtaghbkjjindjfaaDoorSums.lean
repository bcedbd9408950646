/-
  The contracts of codec.Sum, codec.appendSum, codec.Record, codec.Text: what each call gives, for every list of bytes and every text.
-/
import Derived.Test.YtaghbkjjindjfaaDoorProg
import Derived.Test.YtaghbkjjindjfaaDoorLaws
import Derived.Test.YtaghbkjjindjfaaDoorNums
import Derived.Test.YtaghbkjjindjfaaDoorCrc
import Derived.WalkKit
import Derived.WalkSpells
import Derived.WalkLawsBesides
namespace Go.Proofs.YtaghbkjjindjfaaDoor
open Go.RowKit

/-- The program's table of sums lies as its text lays it. -/
def Tab (w : World) : Prop := ∀ k, k < 16 → w.cell? ⟨0, k, none⟩ = some (.int .u64 ((tab k).toNat : Int))
theorem Tab.later {w w' : World} (h : Tab w) {B : Nat} (hb : Below B w w') (hB : 0 < B) : Tab w' := fun k hk => by
  rw [hb.cell (p := ⟨0, k, none⟩) hB]
  exact h k hk
theorem Tab.pos {w : World} (h : Tab w) : 0 < w.heap.size := World.block_lt_of_cell? w _ (h 0 (by decide))

set_option maxHeartbeats 400000 in
theorem sum_some (b off n cap : Nat) (bs : List UInt8) (w : World) (hT : Tab w) (hn : n ≤ 9223372036854775807) (hl : bs.length = n) (hc : ∀ i (h : i < bs.length), w.cell? ⟨b, off + i, none⟩ = some (.int .u8 (bs[i].toNat : Int))) :
    Calls Tryd.prog 43 #[.slice (some ⟨b, off, none⟩) n cap] w fun e w' => e = .returned (.int .u64 ((crc bs).toNat : Int)) ∧ w = w' := by
  go_enter Tryd.func43, Tryd.ntmps43
  go_wp2
  go_loop [3, 8] (fun r i => ∃ (k : Nat) (u : BitVec 64), k ≤ n ∧ i = .int .i64 k ∧ r = .int .u64 (u.toNat : Int) ∧ Hid (u = crc (bs.take k))) (fun _ i => n - (intOf i).toNat)
  case atStart => exact ⟨0, 0, Nat.zero_le _, rfl, rfl, rfl⟩
  case round =>
    obtain ⟨k, u, hk, rfl, rfl, hu⟩ := hrel
    by_cases hlt : k < n
    · have hck := hc k (by omega)
      have hs : bs.take (k + 1) = bs.take k ++ [bs[k]] := by rw [List.take_succ_eq_append_getElem (by omega)]
      have hcr : Hid (crc (bs.take (k + 1)) = byteStep u bs[k]) := by rw [hs, crc_snoc, ← hu.out]; rfl
      clear hs hc hu
      generalize bs[k] = x at hck hcr
      obtain ⟨r1, r2, r3, k1, k2, hk1, hk2, e1, e2, e3, e4, e5, e6⟩ := round_facts u x
      have H6 : Hid (r3 = byteStep u x) := e6
      clear e6
      have c1 := hT k1 hk1
      have c2 := hT k2 hk2
      clear hT
      go_wp2
      go_round
      case rel => exact ⟨k + 1, r3, by omega, by go_num, rfl, by rw [hcr.out]; exact H6.out⟩
      case measure => simp [intOf]; omega
    · clear hc
      go_wp2
      go_ret
      have e : bs.take k = bs := List.take_of_length_le (by omega)
      have hu' := hu.out
      rw [e] at hu'
      exact ⟨ret_int (congrArg (fun z : BitVec 64 => (z.toNat : Int)) hu'), rfl⟩

set_option maxHeartbeats 400000 in
theorem sum_none (ao : Option Addr) (cap : Nat) (w : World) :
    Calls Tryd.prog 43 #[.slice ao 0 cap] w fun e w' => e = .returned (.int .u64 ((crc []).toNat : Int)) ∧ w = w' := by
  go_enter Tryd.func43, Tryd.ntmps43
  go_wp2
  refine wp_loop_rounds 1 ?_
  rw [rounds_succ]
  go_wp2
  go_ret
  exact ⟨rfl, rfl⟩

theorem sum_any (ao : Option Addr) (n cap : Nat) (bs : List UInt8) (w : World) (hT : Tab w) (h : Rd w ao n cap bs) :
    Calls Tryd.prog 43 #[.slice ao n cap] w fun e w' => e = .returned (.int .u64 ((crc bs).toNat : Int)) ∧ w = w' := by
  obtain ⟨h1, h2, h3, h4, h5⟩ := h
  unfold maxLen at h3
  rcases Nat.eq_zero_or_pos n with hz | hz
  · subst hz
    have : bs = [] := List.eq_nil_of_length_eq_zero h1
    subst this
    exact sum_none ao cap w
  · obtain ⟨b, off, rfl, hc⟩ := h5 hz
    exact sum_some b off n cap bs w hT (by omega) h1 hc

/-! ### appendSum -/
def sumByte (s : BitVec 64) (k : Nat) : UInt8 := UInt8.ofNat ((s >>> (8 * k)).toNat)
/-- The bytes of a sum: the highest first. -/
def eight (s : BitVec 64) : List UInt8 := [7, 6, 5, 4, 3, 2, 1, 0].map (sumByte s)

theorem sumByte_is (s : BitVec 64) (k : Nat) (hc : 0 < k) : (s.toNat : Int) / 2 ^ (8 * k - 8) % 256 = ((sumByte s (k - 1)).toNat : Int) := by
  unfold sumByte
  rw [UInt8.toNat_ofNat', BitVec.toNat_ushiftRight, Nat.shiftRight_eq_div_pow, show 8 * (k - 1) = 8 * k - 8 from by omega]
  have e : (2 : Int) ^ (8 * k - 8) = ((2 ^ (8 * k - 8) : Nat) : Int) := by simp
  rw [e, ← Int.natCast_ediv]
  generalize s.toNat / 2 ^ (8 * k - 8) = m
  omega
theorem eight_take (s : BitVec 64) (k : Nat) (hc : 0 < k) (hk : k ≤ 8) : (eight s).take (8 - k) ++ [sumByte s (k - 1)] = (eight s).take (8 - k + 1) := by
  match k, hc, hk with
  | 1, _, _ => rfl
  | 2, _, _ => rfl
  | 3, _, _ => rfl
  | 4, _, _ => rfl
  | 5, _, _ => rfl
  | 6, _, _ => rfl
  | 7, _, _ => rfl
  | 8, _, _ => rfl
theorem eight_length (s : BitVec 64) : (eight s).length = 8 := rfl

end Go.Proofs.YtaghbkjjindjfaaDoor
