/-
  The contracts of codec.NewReader and of (*codec.Reader).Left and Done, also of no Reader and of one that nobody made.
-/
import Derived.Test.YtdjilmcpkeckoabDoorRdr2
namespace Go.Proofs.YtdjilmcpkeckoabDoor
open Go.RowKit

set_option maxHeartbeats 400000 in
theorem newReader_any (ao : Option Addr) (n cap : Nat) (bs : List UInt8) (w : World) (h : Rd w ao n cap bs) (hl : n ≤ 70368744177664) :
    Calls Tryd.prog 15 #[.slice ao n cap] w fun x w' => ∃ p, x = .returned (.pointer (some ⟨p, 0, none⟩)) ∧ w.heap.size ≤ p ∧ Rdr w' p bs 0 0 ∧ Below w.heap.size w w' := by
  obtain ⟨i0, hi, hz0, hz1, hz2⟩ := info_parts Tryd.info5
  obtain rfl := h.1
  go_enter Tryd.func15, Tryd.ntmps15
  go_wp2_with (at_builtin; refine wpList_append_from rfl _ _ 22 22 rfl w.heap.size 5 i0 (.int .u8 0) 1 1 Tryd.underlying22 hi hz0 hz1 hz2 rfl _ 0 [] rfl (World.ownsRow_nil _ _ _ _) _ bs.length (bv bs) rfl (src_of_rd Tryd.underlying22 h) (by unfold maxLen; omega) (by omega) (Nat.le_refl _) ?_)
  intro v1 w1 ho1 hgrow
  have B1 : Below w.heap.size w w1 := (Below.refl _ _).grown hgrow (Nat.le_refl _) (fun k hk => by cases hk)
  have hO : Own w1 w.heap.size v1 bs := own_of ho1
  obtain ⟨a1, c1, rfl, hr1, hg1⟩ := hO.rd
  have s1 := B1.size
  clear ho1 hgrow
  clear hO h
  go_wp2
  go_ret
  have BA : Below w1.heap.size w1 (w1.alloc (.cells (rCells a1 bs.length c1 0 0) 50)) := (Below.refl _ _).alloc (Nat.le_refl _) _
  refine ⟨w1.heap.size, rfl, s1, ⟨a1, c1, heap_alloc_new w1 _, hr1.later BA, Nat.zero_le _, ?_⟩, B1.alloc s1 _⟩
  rcases hg1 with h | ⟨g, h, _, hlt, _⟩
  · exact .inl h
  · exact .inr ⟨g, h, by omega⟩

def rDone (bs : List UInt8) (k e : Nat) : Nat := if e ≠ 0 then e else if 0 < bs.length - k then 21 else 0

end Go.Proofs.YtdjilmcpkeckoabDoor
