/-
  The contracts of codec.Sum, codec.appendSum, codec.Record, codec.Text: what each call gives, for every list of bytes and every text.
-/
import Derived.Test.YtonjjbmjholkjaaGreatDoorProg
import Derived.Test.YtonjjbmjholkjaaGreatDoorLaws
import Derived.Test.YtonjjbmjholkjaaGreatDoorNums
import Derived.Test.YtonjjbmjholkjaaGreatDoorCrc
import Derived.WalkKit
import Derived.WalkSpells
import Derived.WalkLawsBesides
namespace Go.Proofs.YtonjjbmjholkjaaGreatDoor
open Go.RowKit

/-- The program's table of sums lies as its text lays it. -/
def Tab (w : World) : Prop := ∀ k, k < 16 → w.cell? ⟨0, k, none⟩ = some (.int .u64 ((tab k).toNat : Int))
theorem Tab.later {w w' : World} (h : Tab w) {B : Nat} (hb : Below B w w') (hB : 0 < B) : Tab w' := fun k hk => by
  rw [hb.cell (p := ⟨0, k, none⟩) hB]
  exact h k hk
theorem Tab.pos {w : World} (h : Tab w) : 0 < w.heap.size := World.block_lt_of_cell? w _ (h 0 (by decide))

set_option maxHeartbeats 400000 in
theorem sum_some (b off n cap : Nat) (bs : List UInt8) (w : World) (hT : Tab w) (hn : n ≤ 9223372036854775807) (hl : bs.length = n) (hc : ∀ i (h : i < bs.length), w.cell? ⟨b, off + i, none⟩ = some (.int .u8 (bs[i].toNat : Int))) :
    Calls Tryz.prog 50 #[.slice (some ⟨b, off, none⟩) n cap] w fun e w' => e = .returned (.int .u64 ((crc bs).toNat : Int)) ∧ w = w' := by
  go_enter Tryz.func50, Tryz.ntmps50
  go_wp2
  go_loop [3, 8] (fun r i => ∃ (k : Nat) (u : BitVec 64), k ≤ n ∧ i = .int .i64 k ∧ r = .int .u64 (u.toNat : Int) ∧ Hid (u = crc (bs.take k))) (fun _ i => n - (intOf i).toNat)
  case atStart => exact ⟨0, 0, Nat.zero_le _, rfl, rfl, rfl⟩
  case round =>
    obtain ⟨k, u, hk, rfl, rfl, hu⟩ := hrel
    by_cases hlt : k < n
    · have hck := hc k (by omega)
      have hs : bs.take (k + 1) = bs.take k ++ [bs[k]] := by rw [List.take_succ_eq_append_getElem (by omega)]
      have hcr : Hid (crc (bs.take (k + 1)) = byteStep u bs[k]) := by rw [hs, crc_snoc, ← hu.out]; rfl
      clear hs hc hu
      generalize bs[k] = x at hck hcr
      obtain ⟨r1, r2, r3, k1, k2, hk1, hk2, e1, e2, e3, e4, e5, e6⟩ := round_facts u x
      have H6 : Hid (r3 = byteStep u x) := e6
      clear e6
      have c1 := hT k1 hk1
      have c2 := hT k2 hk2
      clear hT
      go_wp2
      go_round
      case rel => exact ⟨k + 1, r3, by omega, by go_num, rfl, by rw [hcr.out]; exact H6.out⟩
      case measure => simp [intOf]; omega
    · clear hc
      go_wp2
      go_ret
      have e : bs.take k = bs := List.take_of_length_le (by omega)
      have hu' := hu.out
      rw [e] at hu'
      exact ⟨ret_int (congrArg (fun z : BitVec 64 => (z.toNat : Int)) hu'), rfl⟩

set_option maxHeartbeats 400000 in
theorem sum_none (ao : Option Addr) (cap : Nat) (w : World) :
    Calls Tryz.prog 50 #[.slice ao 0 cap] w fun e w' => e = .returned (.int .u64 ((crc []).toNat : Int)) ∧ w = w' := by
  go_enter Tryz.func50, Tryz.ntmps50
  go_wp2
  refine wp_loop_rounds 1 ?_
  rw [rounds_succ]
  go_wp2
  go_ret
  exact ⟨rfl, rfl⟩

theorem sum_any (ao : Option Addr) (n cap : Nat) (bs : List UInt8) (w : World) (hT : Tab w) (h : Rd w ao n cap bs) :
    Calls Tryz.prog 50 #[.slice ao n cap] w fun e w' => e = .returned (.int .u64 ((crc bs).toNat : Int)) ∧ w = w' := by
  obtain ⟨h1, h2, h3, h4, h5⟩ := h
  unfold maxLen at h3
  rcases Nat.eq_zero_or_pos n with hz | hz
  · subst hz
    have : bs = [] := List.eq_nil_of_length_eq_zero h1
    subst this
    exact sum_none ao cap w
  · obtain ⟨b, off, rfl, hc⟩ := h5 hz
    exact sum_some b off n cap bs w hT (by omega) h1 hc

/-! ### appendSum -/
def sumByte (s : BitVec 64) (k : Nat) : UInt8 := UInt8.ofNat ((s >>> (8 * k)).toNat)
/-- The bytes of a sum: the highest first. -/
def eight (s : BitVec 64) : List UInt8 := [7, 6, 5, 4, 3, 2, 1, 0].map (sumByte s)

theorem sumByte_is (s : BitVec 64) (k : Nat) (hc : 0 < k) : (s.toNat : Int) / 2 ^ (8 * k - 8) % 256 = ((sumByte s (k - 1)).toNat : Int) := by
  unfold sumByte
  rw [UInt8.toNat_ofNat', BitVec.toNat_ushiftRight, Nat.shiftRight_eq_div_pow, show 8 * (k - 1) = 8 * k - 8 from by omega]
  have e : (2 : Int) ^ (8 * k - 8) = ((2 ^ (8 * k - 8) : Nat) : Int) := by simp
  rw [e, ← Int.natCast_ediv]
  generalize s.toNat / 2 ^ (8 * k - 8) = m
  omega
theorem eight_take (s : BitVec 64) (k : Nat) (hc : 0 < k) (hk : k ≤ 8) : (eight s).take (8 - k) ++ [sumByte s (k - 1)] = (eight s).take (8 - k + 1) := by
  match k, hc, hk with
  | 1, _, _ => rfl
  | 2, _, _ => rfl
  | 3, _, _ => rfl
  | 4, _, _ => rfl
  | 5, _, _ => rfl
  | 6, _, _ => rfl
  | 7, _, _ => rfl
  | 8, _, _ => rfl
theorem eight_length (s : BitVec 64) : (eight s).length = 8 := rfl

set_option maxRecDepth 20000 in
set_option maxHeartbeats 400000 in
theorem appendSum_any (v : Value) (bs : List UInt8) (s : BitVec 64) (base : Nat) (w : World) (hown : Own w base v bs) (hb : base ≤ w.heap.size) (hl : bs.length ≤ 70368744177664) :
    Calls Tryz.prog 49 #[v, .int .u64 (s.toNat : Int)] w fun e w' => ∃ v', e = .returned v' ∧ Own w' base v' (bs ++ eight s) ∧ Below base w w' := by
  obtain ⟨i0, hi, hz0, hz1, hz2⟩ := info_parts Tryz.info5
  go_enter Tryz.func49, Tryz.ntmps49
  go_wp2
  go_loopw [0, 5] (fun vr r wr => ∃ (k : Nat), k ≤ 8 ∧ r = .int .i64 (8 * (k : Int) - 8) ∧ Own wr base vr (bs ++ (eight s).take (8 - k)) ∧ Below base w wr)
    (fun _ r _ => (intOf r + 8).toNat)
  case atStart => exact ⟨8, by omega, rfl, by simpa using hown, Below.refl _ _⟩
  case round =>
    obtain ⟨k, hk, rfl, ho, hbl⟩ := hrel
    have hsz := hbl.size
    have hll : (bs ++ (eight s).take (8 - k)).length ≤ 70368744177672 := by simp; omega
    by_cases hc : 0 < k
    · have hc' : (0 : Int) ≤ 8 * (k : Int) - 8 := by omega
      go_wp2_with (at_builtin; refine wpList_append_own _ rfl _ _ 22 rfl base 5 i0 (.int .u8 0) 1 1 Tryz.underlying22 hi hz0 hz1 hz2 rfl (by decide) _ _ _ rfl (World.ownsRow.alloc ho _) ⟨wr.heap.size, 0, none⟩ 1 1 [.int .u8 ((s.toNat : Int) / 2 ^ (8 * k - 8) % 256)] rfl rfl (cell_one_new _ _ _) (one_cell _ _) (by unfold maxLen; omega) (by omega) (by simp; omega) ?_)
      intro v' w1 hown' hgrow _
      have hB : Below base w w1 := ((hbl.alloc (by omega) _).grown hgrow (by simp; omega) (fun k hk => (World.ownsRow.lt ho k hk).1))
      rw [sumByte_is s k hc] at hown'
      have hO := own_push hown'
      rw [List.append_assoc, eight_take s k hc hk] at hO
      clear hown' hgrow ho hbl hll
      go_wp2
      go_roundw
      case rel => exact ⟨k - 1, by omega, by go_num, by rw [show 8 - (k - 1) = 8 - k + 1 from by omega]; exact hO, hB⟩
      case measure => simp [intOf]; omega
    · have hc' : 8 * (k : Int) - 8 < 0 := by omega
      have hk0 : k = 0 := by omega
      subst hk0
      clear hll
      go_wp2
      go_ret
      exact ⟨_, rfl, by simpa [eight] using ho, hbl⟩
end Go.Proofs.YtonjjbmjholkjaaGreatDoor
