/-
  The contracts of package decimal's wide numbers: magnitude, widened, product, nearerZero, sum, difference, sign, narrowed: for every number.
-/
import Derived.Test.YtnpdecbgakgbgaaGreatDoorMcDBits
import Derived.RowKit3
import Derived.StillTactics
namespace Go.Proofs.YtnpdecbgakgbgaaGreatDoor
open Go.RowKit

/-- A wide number as a value. -/
abbrev wd (b : Bool) (h l : Nat) : Value := .agg #[.bool b, .int .u64 (h : Int), .int .u64 (l : Int)]

theorem mag_neg (n : Int) (h0 : -9223372036854775808 ≤ n) (h : n < 0) : IntKind.u64.wrap (-IntKind.u64.wrap n) = (n.natAbs : Int) := by
  rw [IntKind.wrap_u64, IntKind.wrap_u64]; omega
theorem mag_pos (n : Int) (h1 : n ≤ 9223372036854775807) (h : 0 ≤ n) : IntKind.u64.wrap n = (n.natAbs : Int) := by
  rw [IntKind.wrap_u64]; omega

theorem ret_int {k : IntKind} {a b : Int} (h : a = b) : Ending.returned (.int k a) = .returned (.int k b) := by rw [h]

set_option maxHeartbeats 400000 in
theorem magnitude_any (n : Int) (w : World) (h0 : -9223372036854775808 ≤ n) (h1 : n ≤ 9223372036854775807) :
    Calls Tryz.prog 210 #[.int .i64 n] w fun e w' => e = .returned (.int .u64 (n.natAbs : Int)) ∧ w = w' := by
  go_enter Tryz.func210, Tryz.ntmps210
  go_wp2
  all_goals go_ret
  · exact ⟨ret_int (mag_neg n h0 (by assumption)), rfl⟩
  · exact ⟨ret_int (by omega), rfl⟩

set_option maxHeartbeats 400000 in
theorem widened_any (n : Int) (w : World) (h0 : -9223372036854775808 ≤ n) (h1 : n ≤ 9223372036854775807) :
    Calls Tryz.prog 163 #[.int .i64 n] w fun e w' => e = .returned (wd (decide (n < 0)) 0 n.natAbs) ∧ Grew w w' := by
  go_enter Tryz.func163, Tryz.ntmps163
  go_wp2_with (go_at_call 210; refine (magnitude_any _ _ h0 h1).mono ?_; rintro e w' ⟨rfl, rfl⟩)
  simp [bodyPost, results, Tryz.results163, go_sem]
  exact (Grew.refl _).alloc _

set_option maxHeartbeats 400000 in
theorem product_any (a b : Int) (w : World) (a0 : -9223372036854775808 ≤ a) (a1 : a ≤ 9223372036854775807) (b0 : -9223372036854775808 ≤ b) (b1 : b ≤ 9223372036854775807) :
    Calls Tryz.prog 164 #[.int .i64 a, .int .i64 b] w fun e w' =>
      e = .returned (wd (!(decide (a < 0) == decide (b < 0))) (a.natAbs * b.natAbs / 18446744073709551616) (a.natAbs * b.natAbs % 18446744073709551616)) ∧ Grew w w' := by
  go_enter Tryz.func164, Tryz.ntmps164
  go_wp2_with fail
  refine (magnitude_any _ _ a0 a1).mono ?_
  rintro e w' ⟨rfl, rfl⟩
  go_wp2_with fail
  refine (magnitude_any _ _ b0 b1).mono ?_
  rintro e w' ⟨rfl, rfl⟩
  go_wp2_with fail
  refine (mul64_any a.natAbs b.natAbs (by omega) (by omega) _).mono ?_
  rintro e w' ⟨rfl, rfl⟩
  go_wp2
  simp [bodyPost, results, Tryz.results164, go_sem]
  exact (Grew.refl _).alloc _

theorem ret_bool {a b : Bool} (h : a = b) : Ending.returned (.bool a) = .returned (.bool b) := by rw [h]

set_option maxHeartbeats 400000 in
theorem nearer_any (b1 b2 : Bool) (h1 l1 h2 l2 : Nat) (w : World) (k1 : l1 < 18446744073709551616) (k2 : l2 < 18446744073709551616) :
    Calls Tryz.prog 208 #[wd b1 h1 l1, wd b2 h2 l2] w fun e w' => e = .returned (.bool (decide (h1 * 18446744073709551616 + l1 < h2 * 18446744073709551616 + l2))) ∧ ∃ c1 c2 : Array Value, w' = (w.alloc (.cells c1 180)).alloc (.cells c2 180) := by
  go_enter Tryz.func208, Tryz.ntmps208
  go_wp2
  all_goals go_ret
  all_goals refine ⟨ret_bool ?_, _, _, rfl⟩
  all_goals rw [Bool.eq_iff_iff]
  all_goals simp
  all_goals omega

set_option maxHeartbeats 400000 in
theorem sum_same (b : Bool) (h1 l1 h2 l2 : Nat) (w : World)
    (hs : h1 + h2 + (l1 + l2) / 18446744073709551616 < 18446744073709551616) (k1 : l1 < 18446744073709551616) (k2 : l2 < 18446744073709551616) :
    Calls Tryz.prog 162 #[wd b h1 l1, wd b h2 l2] w fun e w' => e = .returned (wd b (h1 + h2 + (l1 + l2) / 18446744073709551616) ((l1 + l2) % 18446744073709551616)) ∧ Grew w w' := by
  have c0 : (0 : Int) ≤ ((l1 : Int) + l2) / 18446744073709551616 := by omega
  have c1 : ((l1 : Int) + l2) / 18446744073709551616 ≤ 1 := by omega
  have c2 : ((h1 : Int) + h2 + ((l1 : Int) + l2) / 18446744073709551616) % 18446744073709551616 = (h1 : Int) + h2 + ((l1 : Int) + l2) / 18446744073709551616 := by omega
  go_enter Tryz.func162, Tryz.ntmps162
  go_wp2_with (first | simp only [add64_0 (l1 : Int) (l2 : Int) (by omega) (by omega)] | simp only [add64_at (h1 : Int) (h2 : Int) _ (by omega) (by omega) c0 c1])
  simp [bodyPost, results, Tryz.results162, go_sem]
  exact (((Grew.refl _).alloc _).alloc _).alloc _

end Go.Proofs.YtnpdecbgakgbgaaGreatDoor
