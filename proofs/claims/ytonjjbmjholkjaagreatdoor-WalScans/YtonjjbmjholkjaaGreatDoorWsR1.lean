/-
  The contracts of the document's answers longstopref01.fold, unfold, Number, eight, number: what each call gives.
-/
import Derived.Test.YtonjjbmjholkjaaGreatDoorWlK
import Derived.BigQuiet
import Derived.Laws.StructEq
namespace Go.Proofs.YtonjjbmjholkjaaGreatDoor
open Go.RowKit

set_option maxRecDepth 20000 in
set_option maxHeartbeats 400000 in
theorem runfold_any (u : Nat) (w : World) (h1 : u < 18446744073709551616) :
    Calls Tryz.prog 70 #[.int .u64 (u : Int)] w fun e w' => e = .returned (.int .i64 (unfoldN u)) ∧ w = w' := by
  by_cases hp : u % 2 = 0
  · have hp' : ((u : Int) % 2 == 0) = true := by simp; omega
    have e : (u : Int) / 2 = unfoldN u := by unfold unfoldN; split <;> omega
    go_enter Tryz.func70, Tryz.ntmps70
    go_wp2
    all_goals go_ret
    all_goals exact ⟨rfl, rfl⟩
  · have hp' : ((u : Int) % 2 == 0) = false := by simp; omega
    have e : -((u : Int) / 2) - 1 = unfoldN u := by unfold unfoldN; split <;> omega
    go_enter Tryz.func70, Tryz.ntmps70
    go_wp2
    all_goals go_ret
    all_goals exact ⟨rfl, rfl⟩

theorem rbyte (u : Nat) : (u : Int) % 128 + 128 = ((UInt8.ofNat (u % 128 + 128)).toNat : Int) := by
  rw [UInt8.toNat_ofNat']; omega

set_option maxRecDepth 20000 in
set_option maxHeartbeats 400000 in
theorem reight_any (s : BitVec 64) (w : World) :
    Calls Tryz.prog 41 #[.int .u64 (s.toNat : Int)] w fun e w' => ∃ v', e = .returned v' ∧ Own w' w.heap.size v' (eight s) ∧ Below w.heap.size w w' := by
  obtain ⟨i0, hi, hz0, hz1, hz2⟩ := info_parts Tryz.info5
  go_enter Tryz.func41, Tryz.ntmps41
  go_wp2
  go_loopw [3, 4] (fun vr r wr => ∃ (k : Nat), k ≤ 8 ∧ r = .int .i64 (8 * (k : Int) - 8) ∧ Own wr w.heap.size vr ((eight s).take (8 - k)) ∧ Below w.heap.size w wr)
    (fun _ r _ => (intOf r + 8).toNat)
  case atStart => exact ⟨8, by omega, rfl, World.ownsRow_nil _ _ _ _, Below.refl _ _⟩
  case round =>
    obtain ⟨k, hk, rfl, ho, hbl⟩ := hrel
    have hsz := hbl.size
    have hll : ((eight s).take (8 - k)).length ≤ 8 := by simp; omega
    by_cases hc : 0 < k
    · have hc' : (0 : Int) ≤ 8 * (k : Int) - 8 := by omega
      go_wp2_with (at_builtin; refine wpList_append_own _ rfl _ _ 22 rfl w.heap.size 5 i0 (.int .u8 0) 1 1 Tryz.underlying22 hi hz0 hz1 hz2 rfl (by decide) _ _ _ rfl (World.ownsRow.alloc ho _) ⟨wr.heap.size, 0, none⟩ 1 1 [.int .u8 ((s.toNat : Int) / 2 ^ (8 * k - 8) % 256)] rfl rfl (cell_one_new _ _ _) (one_cell _ _) (by unfold maxLen; omega) (by omega) (by simp; omega) ?_)
      intro v' w1 hown' hgrow _
      have hB : Below w.heap.size w w1 := ((hbl.alloc (by omega) _).grown hgrow (by simp; omega) (fun k hk => (World.ownsRow.lt ho k hk).1))
      rw [sumByte_is s k hc] at hown'
      have hO := own_push hown'
      rw [eight_take s k hc hk] at hO
      clear hown' hgrow ho hbl hll
      go_wp2
      go_roundw
      case rel => exact ⟨k - 1, by omega, by go_num, by rw [show 8 - (k - 1) = 8 - k + 1 from by omega]; exact hO, hB⟩
      case measure => simp [intOf]; omega
    · have hc' : 8 * (k : Int) - 8 < 0 := by omega
      have hk0 : k = 0 := by omega
      subst hk0
      clear hll
      go_wp2
      go_ret
      exact ⟨_, rfl, by simpa [eight] using ho, hbl⟩
end Go.Proofs.YtonjjbmjholkjaaGreatDoor
