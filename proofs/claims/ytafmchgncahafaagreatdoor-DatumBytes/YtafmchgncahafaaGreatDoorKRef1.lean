/-
  The contracts of the document's answers longstopref01.fold, unfold, Number, eight, number: what each call gives.
-/
import Derived.Test.YtafmchgncahafaaGreatDoorMfKRdr
namespace Go.Proofs.YtafmchgncahafaaGreatDoor.Co
open Go.RowKit

set_option maxHeartbeats 400000 in
theorem rfold_any (n : Int) (w : World) (h0 : -9223372036854775808 ≤ n) (h1 : n ≤ 9223372036854775807) :
    Calls Tryz.prog 70 #[.int .i64 n] w fun e w' => e = .returned (.int .u64 (foldN n : Int)) ∧ w = w' := by
  by_cases h : 0 ≤ n
  · have e : 2 * n = (foldN n : Int) := by unfold foldN; split <;> omega
    go_enter Tryz.func70, Tryz.ntmps70
    go_wp2
    all_goals go_ret
    all_goals exact ⟨rfl, rfl⟩
  · have e : 2 * -(n + 1) + 1 = (foldN n : Int) := by unfold foldN; split <;> omega
    have h' : ¬ n ≥ 0 := h
    go_enter Tryz.func70, Tryz.ntmps70
    go_wp2
    all_goals go_ret
    all_goals exact ⟨rfl, rfl⟩

set_option maxHeartbeats 400000 in
theorem runfold_any (u : Nat) (w : World) (h1 : u < 18446744073709551616) :
    Calls Tryz.prog 89 #[.int .u64 (u : Int)] w fun e w' => e = .returned (.int .i64 (unfoldN u)) ∧ w = w' := by
  by_cases hp : u % 2 = 0
  · have hp' : ((u : Int) % 2 == 0) = true := by simp; omega
    have e : (u : Int) / 2 = unfoldN u := by unfold unfoldN; split <;> omega
    go_enter Tryz.func89, Tryz.ntmps89
    go_wp2
    all_goals go_ret
    all_goals exact ⟨rfl, rfl⟩
  · have hp' : ((u : Int) % 2 == 0) = false := by simp; omega
    have e : -((u : Int) / 2) - 1 = unfoldN u := by unfold unfoldN; split <;> omega
    go_enter Tryz.func89, Tryz.ntmps89
    go_wp2
    all_goals go_ret
    all_goals exact ⟨rfl, rfl⟩

theorem rbyte (u : Nat) : (u : Int) % 128 + 128 = ((UInt8.ofNat (u % 128 + 128)).toNat : Int) := by
  rw [UInt8.toNat_ofNat']; omega

set_option maxHeartbeats 400000 in
theorem rnumber_any (n : Int) (w : World) (h0 : -9223372036854775808 ≤ n) (h1 : n ≤ 9223372036854775807) :
    Calls Tryz.prog 44 #[.int .i64 n] w fun e w' => ∃ v', e = .returned v' ∧ Own w' w.heap.size v' (numBytes n) ∧ Below w.heap.size w w' := by
  obtain ⟨i0, hi, hz0, hz1, hz2⟩ := info_parts Tryz.info5
  have hlt := foldN_lt n h0 h1
  go_enter Tryz.func44, Tryz.ntmps44
  go_wp2_with (go_at_call 70; refine (rfold_any _ _ h0 h1).mono ?_; rintro e w' ⟨rfl, rfl⟩)
  go_loopw [3, 4] (fun r vr wr => ∃ (u f : Nat) (dn : List UInt8), r = .int .u64 (u : Int) ∧ u < 18446744073709551616 ∧ u < 128 ^ (f + 1) ∧ dn.length + f = 9 ∧ dn ++ nb f u = nb 9 (foldN n) ∧ Own wr w.heap.size vr dn ∧ Below w.heap.size w wr)
    (fun r _ _ => (intOf r).toNat)
  case atStart => exact ⟨foldN n, 9, [], rfl, hlt, Nat.lt_trans hlt (by decide), rfl, rfl, World.ownsRow_nil _ _ _ _, Below.refl _ _⟩
  case round =>
    obtain ⟨u, f, dn, rfl, hu, hf, hdn, heq, ho, hbl⟩ := hrel
    have hsz := hbl.size
    have hll : dn.length ≤ 9 := by omega
    by_cases hc : u < 128
    · have hc' : ¬ (128 : Int) ≤ (u : Int) := by omega
      go_wp2_with (at_builtin; refine wpList_append_own _ rfl _ _ 23 rfl w.heap.size 5 i0 (.int .u8 0) 1 1 Tryz.underlying23 hi hz0 hz1 hz2 rfl (by decide) _ _ _ rfl (World.ownsRow.alloc ho _) ⟨wr.heap.size, 0, none⟩ 1 1 [.int .u8 (u : Int)] rfl rfl (cell_one_new _ _ _) (one_cell _ _) (by unfold maxLen; omega) (by omega) (by simp; omega) ?_)
      intro v' w1 hown' hgrow _
      have hB : Below w.heap.size w w1 := ((hbl.alloc (by omega) _).grown hgrow (by simp; omega) (fun k hk => (World.ownsRow.lt ho k hk).1))
      rw [byte_small' u hc] at hown'
      have hO := own_push hown'
      clear hown' hgrow ho hbl
      go_wp2
      go_ret
      rw [nb_small f u hc] at heq
      rw [heq] at hO
      exact ⟨_, rfl, hO, hB⟩
    · have hc' : (128 : Int) ≤ (u : Int) := by omega
      go_wp2_with (at_builtin; refine wpList_append_own _ rfl _ _ 23 rfl w.heap.size 5 i0 (.int .u8 0) 1 1 Tryz.underlying23 hi hz0 hz1 hz2 rfl (by decide) _ _ _ rfl (World.ownsRow.alloc ho _) ⟨wr.heap.size, 0, none⟩ 1 1 [.int .u8 ((u : Int) % 128 + 128)] rfl rfl (cell_one_new _ _ _) (one_cell _ _) (by unfold maxLen; omega) (by omega) (by simp; omega) ?_)
      intro v' w1 hown' hgrow _
      have hB : Below w.heap.size w w1 := ((hbl.alloc (by omega) _).grown hgrow (by simp; omega) (fun k hk => (World.ownsRow.lt ho k hk).1))
      rw [rbyte u] at hown'
      have hO := own_push hown'
      clear hown' hgrow ho hbl
      go_wp2
      go_roundw
      case rel =>
        obtain ⟨f, rfl⟩ : ∃ g, f = g + 1 := by
          cases f with
          | zero => simp at hf; omega
          | succ g => exact ⟨g, rfl⟩
        rw [nb_big _ _ hc] at heq
        refine ⟨u / 128, f, dn ++ [UInt8.ofNat (u % 128 + 128)], by go_num, by omega, ?_, by simp; omega, by simpa using heq, hO, hB⟩
        rw [Nat.div_lt_iff_lt_mul (by decide)]
        simpa [Nat.pow_succ] using hf
      case measure => simp [intOf]; omega

end Go.Proofs.YtafmchgncahafaaGreatDoor.Co
