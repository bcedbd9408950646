/-
  The contracts of codec.NewReader and of (*codec.Reader).Left and Done, also of no Reader and of one that nobody made.
-/
import Derived.Test.YtdjilmcpkeckoaaDoorRdr2
namespace Go.Proofs.YtdjilmcpkeckoaaDoor
open Go.RowKit

set_option maxHeartbeats 400000 in
theorem newReader_any (ao : Option Addr) (n cap : Nat) (bs : List UInt8) (w : World) (h : Rd w ao n cap bs) (hl : n ≤ 70368744177664) :
    Calls Tryd.prog 21 #[.slice ao n cap] w fun x w' => ∃ p, x = .returned (.pointer (some ⟨p, 0, none⟩)) ∧ w.heap.size ≤ p ∧ Rdr w' p bs 0 0 ∧ Below w.heap.size w w' := by
  obtain ⟨i0, hi, hz0, hz1, hz2⟩ := info_parts Tryd.info5
  obtain rfl := h.1
  go_enter Tryd.func21, Tryd.ntmps21
  go_wp2_with (at_builtin; refine wpList_append_from rfl _ _ 22 22 rfl w.heap.size 5 i0 (.int .u8 0) 1 1 Tryd.underlying22 hi hz0 hz1 hz2 rfl _ 0 [] rfl (World.ownsRow_nil _ _ _ _) _ bs.length (bv bs) rfl (src_of_rd Tryd.underlying22 h) (by unfold maxLen; omega) (by omega) (Nat.le_refl _) ?_)
  intro v1 w1 ho1 hgrow
  have B1 : Below w.heap.size w w1 := (Below.refl _ _).grown hgrow (Nat.le_refl _) (fun k hk => by cases hk)
  have hO : Own w1 w.heap.size v1 bs := own_of ho1
  obtain ⟨a1, c1, rfl, hr1, hg1⟩ := hO.rd
  have s1 := B1.size
  clear ho1 hgrow
  clear hO h
  go_wp2
  go_ret
  have BA : Below w1.heap.size w1 (w1.alloc (.cells (rCells a1 bs.length c1 0 0) 57)) := (Below.refl _ _).alloc (Nat.le_refl _) _
  refine ⟨w1.heap.size, rfl, s1, ⟨a1, c1, heap_alloc_new w1 _, hr1.later BA, Nat.zero_le _, ?_⟩, B1.alloc s1 _⟩
  rcases hg1 with h | ⟨g, h, _, hlt, _⟩
  · exact .inl h
  · exact .inr ⟨g, h, by omega⟩

set_option maxHeartbeats 400000 in
theorem left_nil (w : World) :
    Calls Tryd.prog 27 #[.pointer none] w fun e w' => e = .returned (.int .i64 0) ∧ w = w' := by
  go_enter Tryd.func27, Tryd.ntmps27
  go_wp2_with (go_at_call 43; refine (wasMade_nil _).mono ?_; rintro e w' ⟨rfl, rfl⟩)
  go_ret
  exact ⟨rfl, rfl⟩

set_option maxHeartbeats 400000 in
theorem left_not (p : Nat) (w : World) (c1 : w.cell? ⟨p, 1, none⟩ = some (.bool false)) (c2 : w.cell? ⟨p, 2, none⟩ = some (.int .i64 0)) (c3 : w.cell? ⟨p, 3, none⟩ = some (.int .i64 0)) :
    Calls Tryd.prog 27 #[.pointer (some ⟨p, 0, none⟩)] w fun e w' => e = .returned (.int .i64 0) ∧ w = w' := by
  go_enter Tryd.func27, Tryd.ntmps27
  go_wp2_with (go_at_call 43; refine (wasMade_not p _ c1 c2 c3).mono ?_; rintro e w' ⟨rfl, rfl⟩)
  go_ret
  exact ⟨rfl, rfl⟩

set_option maxHeartbeats 400000 in
theorem left_any (p : Nat) (bs : List UInt8) (k e : Nat) (w : World) (h : Rdr w p bs k e) :
    Calls Tryd.prog 27 #[.pointer (some ⟨p, 0, none⟩)] w fun x w' => x = .returned (.int .i64 ((bs.length - k : Nat) : Int)) ∧ ∃ nq, w' = w.drewN nq := by
  obtain ⟨ao, cap, hb, hr0, hk, hg⟩ := id h
  obtain ⟨c0, c1, c2, c3⟩ := rCell w hb
  clear hb hr0 hg
  go_enter Tryd.func27, Tryd.ntmps27
  go_wp2_with fail
  refine (wasMade_yes p _ _ _ c1 c2 c3).mono ?_
  rintro x w' ⟨rfl, rfl⟩
  go_wp2_with fail
  refine (rest_any p bs k e _ h).mono ?_
  rintro x w1 ⟨a1, cap1, nq, rfl, rfl, hr⟩
  clear hr h
  go_wp2
  go_ret
  exact ⟨rfl, nq, rfl⟩

set_option maxHeartbeats 400000 in
theorem done_nil (w : World) :
    Calls Tryd.prog 30 #[.pointer none] w fun e w' => e = .returned (.int .i64 1) ∧ w = w' := by
  go_enter Tryd.func30, Tryd.ntmps30
  go_wp2_with (go_at_call 29; refine (err_nil _).mono ?_; rintro e w' ⟨rfl, rfl⟩)
  go_ret
  exact ⟨rfl, rfl⟩

set_option maxHeartbeats 400000 in
theorem done_not (p : Nat) (w : World) (c1 : w.cell? ⟨p, 1, none⟩ = some (.bool false)) (c2 : w.cell? ⟨p, 2, none⟩ = some (.int .i64 0)) (c3 : w.cell? ⟨p, 3, none⟩ = some (.int .i64 0)) :
    Calls Tryd.prog 30 #[.pointer (some ⟨p, 0, none⟩)] w fun e w' => e = .returned (.int .i64 1) ∧ w = w' := by
  go_enter Tryd.func30, Tryd.ntmps30
  go_wp2_with (go_at_call 29; refine (err_not p _ c1 c2 c3).mono ?_; rintro e w' ⟨rfl, rfl⟩)
  go_ret
  exact ⟨rfl, rfl⟩

def rDone (bs : List UInt8) (k e : Nat) : Nat := if e ≠ 0 then e else if 0 < bs.length - k then 21 else 0

set_option maxHeartbeats 400000 in
theorem done_any (p : Nat) (bs : List UInt8) (k e : Nat) (w : World) (h : Rdr w p bs k e) :
    Calls Tryd.prog 30 #[.pointer (some ⟨p, 0, none⟩)] w fun x w' => x = .returned (.int .i64 (rDone bs k e : Int)) ∧ ∃ nq, w' = w.drewN nq := by
  by_cases he : e = 0
  · subst he
    by_cases hl : 0 < bs.length - k
    · have hD : rDone bs k 0 = 21 := by unfold rDone; rw [if_neg (by simp), if_pos hl]
      rw [hD]
      clear hD
      have hl' : (0 : Int) < ((bs.length - k : Nat) : Int) := by omega
      have HL := left_any p bs k 0 w h
      generalize bs.length - k = m at HL hl'
      go_enter Tryd.func30, Tryd.ntmps30
      go_wp2_with fail
      refine (err_yes p bs k 0 _ h).mono ?_
      rintro x w' ⟨rfl, rfl⟩
      go_wp2_with fail
      refine HL.mono ?_
      rintro x w1 ⟨rfl, nq, rfl⟩
      clear HL h
      go_wp2
      go_ret
      exact ⟨rfl, nq, rfl⟩
    · have hD : rDone bs k 0 = 0 := by unfold rDone; rw [if_neg (by simp), if_neg hl]
      rw [hD]
      clear hD
      have hl' : ((bs.length - k : Nat) : Int) ≤ 0 := by omega
      have HL := left_any p bs k 0 w h
      generalize bs.length - k = m at HL hl'
      go_enter Tryd.func30, Tryd.ntmps30
      go_wp2_with fail
      refine (err_yes p bs k 0 _ h).mono ?_
      rintro x w' ⟨rfl, rfl⟩
      go_wp2_with fail
      refine HL.mono ?_
      rintro x w1 ⟨rfl, nq, rfl⟩
      clear HL h
      go_wp2
      go_ret
      exact ⟨rfl, nq, rfl⟩
  · have hD : rDone bs k e = e := by unfold rDone; rw [if_pos he]
    rw [hD]
    have he2 : ((e : Int) != 0) = true := by simp; omega
    clear hD he
    go_enter Tryd.func30, Tryd.ntmps30
    go_wp2_with fail
    refine (err_yes p bs k e _ h).mono ?_
    rintro x w' ⟨rfl, rfl⟩
    clear h
    go_wp2
    go_ret
    exact ⟨rfl, 0, rfl⟩
end Go.Proofs.YtdjilmcpkeckoaaDoor
