/-
  The contracts of the document's answers longstopref01.Text, Record, Unrecord: what each call gives.
-/
import Derived.Test.YtdjilmcpkeckoaaDoorRef3
import Derived.Deep.RegionWith
namespace Go.Proofs.YtdjilmcpkeckoaaDoor
open Go.RowKit

set_option maxHeartbeats 400000 in
theorem rtext_any (s : ByteArray) (w : World) (hb : s.size ≤ 1048576) :
    Calls Tryd.prog 11 #[.string s] w fun e w' => ∃ v', e = .returned v' ∧ Own w' w.heap.size v' (textBytes s) ∧ Below w.heap.size w w' := by
  obtain ⟨i0, hi, hz0, hz1, hz2⟩ := info_parts Tryd.info5
  have nl := numBytes_len (s.size : Int)
  go_enter Tryd.func11, Tryd.ntmps11
  go_wp2_with fail
  refine (rnumber_any (s.size : Int) _ (by omega) (by omega)).mono ?_
  rintro e w2 ⟨v2, rfl, ho2, B2⟩
  have s2 := B2.size
  go_wp2_with (at_builtin; refine wpList_append_from rfl _ _ 22 9 rfl w.heap.size 5 i0 (.int .u8 0) 1 1 Tryd.underlying22 hi hz0 hz1 hz2 rfl _ _ _ rfl ho2 _ s.size (byteCells s) rfl (Src.ofString _ Tryd.underlying9 s) (by simp [maxLen]; omega) (by simp; omega) (by omega) ?_)
  intro v3 w3 ho3 hgrow3
  have B3 : Below w.heap.size w w3 := B2.grown hgrow3 (by omega) (fun k hk => (World.ownsRow.lt ho2 k hk).1)
  rw [byteCells_bv] at ho3
  have hO3 := own_append ho3
  clear ho3 hgrow3 ho2 B2 s2
  go_wp2
  go_ret
  exact ⟨_, rfl, hO3, B3⟩

set_option maxHeartbeats 400000 in
theorem rrecord_big (ao : Option Addr) (n cap : Nat) (w : World) (hb : 1048576 < n) (hm : n ≤ 9223372036854775807) :
    Calls Tryd.prog 13 #[.slice ao n cap] w fun e w' => e = .returned (.tuple #[.slice none 0 0, .int .i64 6]) ∧ w = w' := by
  have hb' : (1048576 : Int) < (n : Int) := by omega
  go_enter Tryd.func13, Tryd.ntmps13
  go_wp2
  go_ret2
  exact ⟨rfl, rfl⟩

set_option maxHeartbeats 400000 in
theorem rrecord_fits (ao : Option Addr) (n cap : Nat) (bs : List UInt8) (w : World) (hr : Rd w ao n cap bs) (hb : n ≤ 1048576) :
    Calls Tryd.prog 13 #[.slice ao n cap] w fun e w' => ∃ v', e = .returned (.tuple #[v', .int .i64 0]) ∧ Own w' w.heap.size v' (recBytes bs) ∧ Below w.heap.size w w' := by
  have hb' : ¬ (1048576 : Int) < (n : Int) := by omega
  have hlen := hr.1
  obtain ⟨i0, hi, hz0, hz1, hz2⟩ := info_parts Tryd.info5
  have nl := numBytes_len (n : Int)
  go_enter Tryd.func13, Tryd.ntmps13
  go_wp2_with fail
  refine (rnumber_any (n : Int) _ (by omega) (by omega)).mono ?_
  rintro e w2 ⟨v2, rfl, ho2, B2⟩
  have s2 := B2.size
  have hr2 := hr.later B2
  go_wp2_with (at_builtin; refine wpList_append_from rfl (.tmp 9) (.tmp 10) 22 22 rfl w.heap.size 5 i0 (.int .u8 0) 1 1 Tryd.underlying22 hi hz0 hz1 hz2 rfl _ _ _ rfl ho2 _ n (bv bs) rfl (src_of_rd Tryd.underlying22 hr2) (by simp [maxLen]; omega) (by simp; omega) (by omega) ?_)
  intro v3 w3 ho3 hgrow3
  have B3 : Below w.heap.size w w3 := B2.grown hgrow3 (by omega) (fun k hk => (World.ownsRow.lt ho2 k hk).1)
  have s3 := B3.size
  have hO3 := own_append ho3
  have hr3 := hr.later B3
  clear ho3 hgrow3 ho2 B2 s2 hr2
  go_wp2_with fail
  refine (rsum_any _ _ _ bs _ hr3).mono ?_
  rintro e w' ⟨rfl, rfl⟩
  go_wp2_with fail
  refine (reight_any _ _).mono ?_
  rintro e w4 ⟨v4, rfl, ho4, b4⟩
  have hO3' := hO3.later b4
  have B4 := B3.trans (b4.mono s3)
  have s4 := B4.size
  obtain ⟨a4, c4, rfl, hr4, _⟩ := ho4.rd
  rw [eight_length] at hr4 ⊢
  clear hO3 ho4 b4 hr3
  go_wp2_with (at_builtin; refine wpList_append_from rfl (.tmp 11) (.tmp 14) 22 22 rfl w.heap.size 5 i0 (.int .u8 0) 1 1 Tryd.underlying22 hi hz0 hz1 hz2 rfl _ _ _ rfl hO3' _ 8 (bv (eight (crc bs))) rfl (src_of_rd Tryd.underlying22 hr4) (by simp [maxLen]; omega) (by simp; omega) (by omega) ?_)
  intro v5 w5 ho5 hgrow5
  have B5 : Below w.heap.size w w5 := B4.grown hgrow5 (by omega) (fun k hk => (World.ownsRow.lt hO3' k hk).1)
  have hO5 := own_append ho5
  clear ho5 hgrow5 hO3' hr4
  go_wp2
  go_ret2
  refine ⟨_, rfl, ?_, B5⟩
  unfold recBytes
  rw [hlen]
  exact hO5
end Go.Proofs.YtdjilmcpkeckoaaDoor
