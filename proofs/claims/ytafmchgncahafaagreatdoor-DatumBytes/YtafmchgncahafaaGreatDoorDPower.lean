/-
  The contracts of the document's Power and Right, as the statements call them.
-/
import Derived.Test.YtafmchgncahafaaGreatDoorDArith
namespace Go.Proofs.YtafmchgncahafaaGreatDoor
open Go.RowKit

set_option maxHeartbeats 1000000 in
theorem power_any (k : Nat) (w : World) (hk : k < 13) : Calls Tryz.prog 32 #[.int .i64 (k : Int)] w fun e w' => e = .returned (.int .i64 ((10 ^ k : Nat) : Int)) ∧ w = w' := by
  go_enter Tryz.func32, Tryz.ntmps32
  go_wp2
  go_loop [3, 4] (fun p i => ∃ j q : Nat, i = .int .i64 (j : Int) ∧ p = .int .i64 (q : Int) ∧ j ≤ k ∧ Hid (q = 10 ^ j)) (fun _ i => k - (intOf i).toNat)
  case atStart => exact ⟨0, 1, rfl, rfl, Nat.zero_le _, rfl⟩
  case round =>
    obtain ⟨j, q, rfl, rfl, hj, hq⟩ := hrel
    by_cases hlt : j < k
    · have hb : q ≤ 1000000000000 := by
        rw [hq.out]
        have : 10 ^ j ≤ 10 ^ 12 := Nat.pow_le_pow_right (by decide) (by omega)
        omega
      have e1 : IntKind.i64.wrap (10 * (q : Int)) = ((10 * q : Nat) : Int) := by rw [IntKind.wrap_i64]; omega
      have hq' : Hid (10 * q = 10 ^ (j + 1)) := (by rw [hq.out, Nat.pow_succ, Nat.mul_comm] : 10 * q = 10 ^ (j + 1))
      obtain ⟨q2, hq2⟩ : ∃ q2, q2 = 10 * q := ⟨_, rfl⟩
      rw [← hq2] at e1
      have HQ : Hid (q2 = 10 ^ (j + 1)) := (by rw [hq2]; exact hq'.out : q2 = 10 ^ (j + 1))
      clear hb hq2 hq' hq
      go_wp2
      go_round
      case rel => exact ⟨j + 1, q2, by go_num, rfl, by omega, HQ⟩
      case measure => simp [intOf]; omega
    · obtain rfl : j = k := by omega
      clear hk hj
      go_wp2
      go_ret
      exact ⟨ret_int (by rw [hq.out]; simp), rfl⟩

end Go.Proofs.YtafmchgncahafaaGreatDoor
