/-
  The contract of codec.Text (texts that fit); a value's bytes.
-/
import Derived.Test.YtkfnmblfaaabkaaGreatDoorLaws
import Derived.Test.YtkfnmblfaaabkaaGreatDoorNums
import Derived.Test.YtkfnmblfaaabkaaGreatDoorVRow
namespace Go.Proofs.YtkfnmblfaaabkaaGreatDoor
open Go.RowKit

def textBytes (s : ByteArray) : List UInt8 := numBytes (s.size : Int) ++ s.data.toList

theorem own_append {w : World} {base n : Nat} {v : Value} {a b : List UInt8} (h : w.ownsRow base 5 1 v n (bv a ++ bv b)) : Own w base v (a ++ b) :=
  own_of (bs := a ++ b) (by rw [bv_append]; exact h)
theorem own_start {w : World} {base : Nat} {v : Value} (h : w.ownsRow base 5 1 v 0 []) : Own w base v [] := h

set_option maxHeartbeats 400000 in
theorem text_fits (s : ByteArray) (w : World) (hb : s.size ≤ 1048576) :
    Calls Tryz.prog 97 #[.string s] w fun e w' => ∃ v', e = .returned (.tuple #[v', .int .i64 0]) ∧ Own w' w.heap.size v' (textBytes s) ∧ Below w.heap.size w w' := by
  have hb' : ¬ (1048576 : Int) < (s.size : Int) := by omega
  obtain ⟨i0, hi, hz0, hz1, hz2⟩ := info_parts Tryz.info5
  go_enter Tryz.func97, Tryz.ntmps97
  go_wp2_with (at_make; refine wpList_make_own _ rfl _ _ 34 rfl w.heap.size 5 i0 (.int .u8 0) 1 Tryz.underlying34 hi hz0 hz1 _ _ _ (10 + s.size) rfl rfl (by omega) (by rw [hz2]; omega) (by unfold maxLen; omega) (Nat.le_refl _) ?_)
  intro w1 hown1 hgrow1
  have B1 : Below w.heap.size w w1 := (Below.refl _ _).grown hgrow1 (Nat.le_refl _) (fun k hk => by cases hk)
  have s1 := B1.size
  clear hgrow1
  go_wp2_with fail
  refine (appendNumber_any _ [] (s.size : Int) w.heap.size _ (own_start hown1) (by omega) (by simp) (by omega) (by omega)).mono ?_
  rintro e w2 ⟨v2, rfl, ho2, b2⟩
  have B2 := B1.trans b2
  have s2 := B2.size
  have nl := numBytes_len (s.size : Int)
  clear hown1 b2 B1 s1
  go_wp2_with (at_builtin; refine wpList_append_from rfl _ _ 34 9 rfl w.heap.size 5 i0 (.int .u8 0) 1 1 Tryz.underlying34 hi hz0 hz1 hz2 rfl _ _ _ rfl ho2 _ s.size (byteCells s) rfl (Src.ofString _ Tryz.underlying9 s) (by simp [maxLen]; omega) (by simp; omega) (by omega) ?_)
  intro v3 w3 ho3 hgrow3
  have B3 : Below w.heap.size w w3 := B2.grown hgrow3 (by omega) (fun k hk => (World.ownsRow.lt ho2 k hk).1)
  rw [byteCells_bv] at ho3
  have hO3 := own_append ho3
  clear ho3 hgrow3 ho2 B2 s2
  go_wp2
  go_ret2
  exact ⟨_, rfl, hO3, B3⟩

/-- A value's bytes. -/
def vbytes (v : Va) : List UInt8 :=
  numBytes v.k ++ (if v.k = 1 ∨ v.k = 4 then numBytes v.n else if v.k = 2 ∨ v.k = 5 then numBytes v.n ++ numBytes v.m else if v.k = 3 then textBytes ⟨v.b.toArray⟩ else [])

end Go.Proofs.YtkfnmblfaaabkaaGreatDoor
