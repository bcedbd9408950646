/-
  The contracts of codec.Record and codec.Text: what each call gives, for every list of bytes and every text.
-/
import Derived.Test.YtonjjbmjholkjaaGreatDoorSums
namespace Go.Proofs.YtonjjbmjholkjaaGreatDoor
open Go.RowKit

def recBytes (bs : List UInt8) : List UInt8 := numBytes (bs.length : Int) ++ bs ++ eight (crc bs)
def textBytes (s : ByteArray) : List UInt8 := numBytes (s.size : Int) ++ s.data.toList

theorem own_append {w : World} {base n : Nat} {v : Value} {a b : List UInt8} (h : w.ownsRow base 5 1 v n (bv a ++ bv b)) : Own w base v (a ++ b) :=
  own_of (bs := a ++ b) (by rw [bv_append]; exact h)
theorem own_start {w : World} {base : Nat} {v : Value} (h : w.ownsRow base 5 1 v 0 []) : Own w base v [] := h

theorem ret_two {v a b : Value} (h : a = b) : Ending.returned (.tuple #[v, a]) = .returned (.tuple #[v, b]) := by rw [h]

set_option maxHeartbeats 400000 in
theorem record_big (ao : Option Addr) (n cap : Nat) (w : World) (hb : 1048576 < n) (hm : n ≤ 9223372036854775807) :
    Calls Tryz.prog 26 #[.slice ao n cap] w fun e w' => e = .returned (.tuple #[.slice none 0 0, .int .i64 6]) ∧ w = w' := by
  have hb' : (1048576 : Int) < (n : Int) := by omega
  go_enter Tryz.func26, Tryz.ntmps26
  go_wp2
  go_ret2
  exact ⟨rfl, rfl⟩

set_option maxHeartbeats 400000 in
theorem record_fits (ao : Option Addr) (n cap : Nat) (bs : List UInt8) (w : World) (hT : Tab w) (hr : Rd w ao n cap bs) (hb : n ≤ 1048576) :
    Calls Tryz.prog 26 #[.slice ao n cap] w fun e w' => ∃ v', e = .returned (.tuple #[v', .int .i64 0]) ∧ Own w' w.heap.size v' (recBytes bs) ∧ Below w.heap.size w w' := by
  have hb' : ¬ (1048576 : Int) < (n : Int) := by omega
  have hlen := hr.1
  obtain ⟨i0, hi, hz0, hz1, hz2⟩ := info_parts Tryz.info5
  go_enter Tryz.func26, Tryz.ntmps26
  go_wp2_with (at_make; refine wpList_make_own _ rfl _ _ 22 rfl w.heap.size 5 i0 (.int .u8 0) 1 Tryz.underlying22 hi hz0 hz1 _ _ _ (10 + n + 8) rfl rfl (by omega) (by rw [hz2]; omega) (by unfold maxLen; omega) (Nat.le_refl _) ?_)
  intro w1 hown1 hgrow1
  have B1 : Below w.heap.size w w1 := (Below.refl _ _).grown hgrow1 (Nat.le_refl _) (fun k hk => by cases hk)
  have s1 := B1.size
  clear hgrow1
  go_wp2_with fail
  refine (appendNumber_any _ [] (n : Int) w.heap.size _ (own_start hown1) (by omega) (by simp) (by omega) (by omega)).mono ?_
  rintro e w2 ⟨v2, rfl, ho2, b2⟩
  have B2 := B1.trans b2
  have s2 := B2.size
  have nl := numBytes_len (n : Int)
  have hr2 := hr.later B2
  have hT2 := hT.later B2 hT.pos
  clear hown1 b2 B1 s1
  go_wp2_with (at_builtin; refine wpList_append_from rfl _ _ 22 22 rfl w.heap.size 5 i0 (.int .u8 0) 1 1 Tryz.underlying22 hi hz0 hz1 hz2 rfl _ _ _ rfl ho2 _ n (bv bs) rfl (src_of_rd Tryz.underlying22 hr2) (by simp [maxLen]; omega) (by simp; omega) (by omega) ?_)
  intro v3 w3 ho3 hgrow3
  have B3 : Below w.heap.size w w3 := B2.grown hgrow3 (by omega) (fun k hk => (World.ownsRow.lt ho2 k hk).1)
  have s3 := B3.size
  have hO3 := own_append ho3
  have hr3 := hr.later B3
  have hT3 := hT.later B3 hT.pos
  clear ho3 hgrow3 ho2 B2 s2 hr2 hT2
  go_wp2_with fail
  refine (sum_any _ _ _ bs _ hT3 hr3).mono ?_
  rintro e w' ⟨rfl, rfl⟩
  go_wp2_with fail
  refine (appendSum_any _ _ _ w.heap.size _ hO3 (by omega) (by simp; omega)).mono ?_
  rintro e w4 ⟨v4, rfl, ho4, b4⟩
  go_wp2
  go_ret2
  refine ⟨_, rfl, ?_, B3.trans b4⟩
  unfold recBytes
  rw [hlen]
  exact ho4

end Go.Proofs.YtonjjbmjholkjaaGreatDoor
