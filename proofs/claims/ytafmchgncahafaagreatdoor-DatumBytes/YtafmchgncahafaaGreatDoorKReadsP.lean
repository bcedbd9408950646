/-
  The document's Reader as it lies in memory, and the contracts of its NewReader, Left and Done; codec.NewReader of the longest bytes.
-/
import Derived.Test.YtafmchgncahafaaGreatDoorMgLJumps
import Derived.Test.YtafmchgncahafaaGreatDoorMiKLent
namespace Go.Proofs.YtafmchgncahafaaGreatDoor.Co
open Go.RowKit

/-- The cells of the document's Reader. -/
def rrCells (ao : Option Addr) (n cap : Nat) (k e : Int) : Array Value := #[.slice ao n cap, .int .i64 k, .int .i64 e]

/-- Block p holds the document's Reader over the bytes bs; k of them are passed; e is the first error. -/
def RRdr (w : World) (p : Nat) (bs : List UInt8) (k e : Nat) : Prop :=
  ∃ ao cap, w.heap[p]? = some (.cells (rrCells ao bs.length cap (k : Int) (e : Int)) 81 (0, 0)) ∧ Rd w ao bs.length cap bs ∧ k ≤ bs.length ∧ (ao = none ∨ ∃ g, ao = some ⟨g, 0, none⟩ ∧ g ≠ p)

theorem rrCell (w : World) {p : Nat} {ao : Option Addr} {n cap : Nat} {k e : Int} {t : TypeId} (h : w.heap[p]? = some (.cells (rrCells ao n cap k e) t (0, 0))) :
    w.cell? ⟨p, 0, none⟩ = some (.slice ao n cap) ∧ w.cell? ⟨p, 1, none⟩ = some (.int .i64 k) ∧ w.cell? ⟨p, 2, none⟩ = some (.int .i64 e) := by
  refine ⟨?_, ?_, ?_⟩
  all_goals
    rw [cell_of_row w p _ _ t (0, 0) h]
    rfl

theorem RRdr.drewN {w : World} {p : Nat} {bs : List UInt8} {k e : Nat} (h : RRdr w p bs k e) (q : Nat) : RRdr (w.drewN q) p bs k e := by
  obtain ⟨ao, cap, hb, hr, hk, hg⟩ := h
  exact ⟨ao, cap, by simpa using hb, hr.drewN q, hk, hg⟩

/-- A Reader that another call does not reach is as it was. -/
theorem RRdr.kept {w w' : World} {p q : Nat} {bs : List UInt8} {k e : Nat} (h : RRdr w p bs k e) (hg : w.grownBy w' (some q)) (hp : p < w.heap.size) (hpq : p ≠ q) (hq : ∀ ao cap, w.heap[p]? = some (.cells (rrCells ao bs.length cap (k : Int) (e : Int)) 81 (0, 0)) → ao ≠ some ⟨q, 0, none⟩) : RRdr w' p bs k e := by
  obtain ⟨ao, cap, hb, hr, hk, hgg⟩ := h
  refine ⟨ao, cap, ?_, hr.kept fun b off hao hlt => hg.block b hlt ?_, hk, hgg⟩
  · rw [hg.block p hp (fun e => hpq (Option.some.inj e))]
    exact hb
  · intro e
    have e' := Option.some.inj e
    subst e'
    rcases hgg with h | ⟨g, h, _⟩
    · rw [h] at hao; cases hao
    · rw [h] at hao
      cases hao
      exact hq _ _ hb h

set_option maxHeartbeats 400000 in
theorem newReader_wide (ao : Option Addr) (n cap : Nat) (bs : List UInt8) (w : World) (h : Rd w ao n cap bs) (hl : n ≤ 140737488351232) :
    Calls Tryz.prog 21 #[.slice ao n cap] w fun x w' => ∃ p, x = .returned (.pointer (some ⟨p, 0, none⟩)) ∧ w.heap.size ≤ p ∧ Rdr w' p bs 0 0 ∧ Below w.heap.size w w' := by
  obtain ⟨i0, hi, hz0, hz1, hz2⟩ := info_parts Tryz.info5
  obtain rfl := h.1
  go_enter Tryz.func21, Tryz.ntmps21
  go_wp2_with (at_builtin; refine wpList_append_from rfl _ _ 23 23 rfl w.heap.size 5 i0 (.int .u8 0) 1 1 Tryz.underlying23 hi hz0 hz1 hz2 rfl _ 0 [] rfl (World.ownsRow_nil _ _ _ _) _ bs.length (bv bs) rfl (src_of_rd Tryz.underlying23 h) (by unfold maxLen; omega) (by omega) (Nat.le_refl _) ?_)
  intro v1 w1 ho1 hgrow
  have B1 : Below w.heap.size w w1 := (Below.refl _ _).grown hgrow (Nat.le_refl _) (fun k hk => by cases hk)
  have hO : Own w1 w.heap.size v1 bs := own_of ho1
  obtain ⟨a1, c1, rfl, hr1, hg1⟩ := hO.rd
  have s1 := B1.size
  clear ho1 hgrow
  clear hO h
  go_wp2
  go_ret
  have BA : Below w1.heap.size w1 (w1.alloc (.cells (rCells a1 bs.length c1 0 0) 74)) := (Below.refl _ _).alloc (Nat.le_refl _) _
  refine ⟨w1.heap.size, rfl, s1, ⟨a1, c1, heap_alloc_new w1 _, hr1.later BA, Nat.zero_le _, ?_⟩, B1.alloc s1 _⟩
  rcases hg1 with h | ⟨g, h, _, hlt, _⟩
  · exact .inl h
  · exact .inr ⟨g, h, by omega⟩

set_option maxHeartbeats 400000 in
theorem rnewReader_wide (ao : Option Addr) (n cap : Nat) (bs : List UInt8) (w : World) (h : Rd w ao n cap bs) (hl : n ≤ 140737488351232) :
    Calls Tryz.prog 26 #[.slice ao n cap] w fun x w' => ∃ p, x = .returned (.pointer (some ⟨p, 0, none⟩)) ∧ w.heap.size ≤ p ∧ RRdr w' p bs 0 0 ∧ Below w.heap.size w w' := by
  obtain ⟨i0, hi, hz0, hz1, hz2⟩ := info_parts Tryz.info5
  obtain rfl := h.1
  have A1 : Below w.heap.size w (w.alloc (.cells #[] 5)) := (Below.refl _ _).alloc (Nat.le_refl _) _
  have hra := h.later A1
  go_enter Tryz.func26, Tryz.ntmps26
  go_wp2_with (at_builtin; refine wpList_append_from rfl _ _ 23 23 rfl w.heap.size 5 i0 (.int .u8 0) 1 1 Tryz.underlying23 hi hz0 hz1 hz2 rfl _ 0 [] rfl (own_made (base := w.heap.size) w #[] 0 (Nat.le_refl _) (by decide) rfl) _ bs.length (bv bs) rfl (src_of_rd Tryz.underlying23 hra) (by unfold maxLen; omega) (by omega) (by simp) ?_)
  intro v1 w1 ho1 hgrow
  have B1 : Below w.heap.size w w1 := A1.grown hgrow (by simp) (fun k hk => by cases hk; exact Nat.le_refl _)
  have hO : Own w1 w.heap.size v1 bs := own_of ho1
  obtain ⟨a1, c1, rfl, hr1, hg1⟩ := hO.rd
  have s1 := B1.size
  clear ho1 hgrow A1 hra
  clear hO h
  go_wp2
  go_ret
  have BA : Below w1.heap.size w1 (w1.alloc (.cells (rrCells a1 bs.length c1 0 0) 81)) := (Below.refl _ _).alloc (Nat.le_refl _) _
  refine ⟨w1.heap.size, rfl, s1, ⟨a1, c1, heap_alloc_new w1 _, hr1.later BA, Nat.zero_le _, ?_⟩, B1.alloc s1 _⟩
  rcases hg1 with h | ⟨g, h, _, hlt, _⟩
  · exact .inl h
  · exact .inr ⟨g, h, by omega⟩

set_option maxHeartbeats 400000 in
theorem rleft_any (p : Nat) (bs : List UInt8) (k e : Nat) (w : World) (h : RRdr w p bs k e) :
    Calls Tryz.prog 54 #[.pointer (some ⟨p, 0, none⟩)] w fun x w' => x = .returned (.int .i64 ((bs.length - k : Nat) : Int)) ∧ ∃ nq, w' = w.drewN nq := by
  obtain ⟨ao, cap, hb, hr, hk, hg⟩ := h
  obtain ⟨c0, c1, c2⟩ := rrCell w hb
  have hn := hr.2.2.1
  have hnc := hr.2.1
  unfold maxLen at hn
  have hd : ((bs.length - k : Nat) : Int) = (bs.length : Int) - (k : Int) := by omega
  have hlo : (0 : Int) ≤ (bs.length : Int) - (k : Int) := by omega
  have hhi : (bs.length : Int) - (k : Int) ≤ 9223372036854775807 := by omega
  rw [hd]
  clear hb hr hg hd
  go_enter Tryz.func54, Tryz.ntmps54
  go_wp2
  go_quiet (fail)
  go_wp2
  go_ret
  exact ⟨rfl, nq, rfl⟩

set_option maxHeartbeats 400000 in
theorem rdone_any (p : Nat) (bs : List UInt8) (k e : Nat) (w : World) (h : RRdr w p bs k e) :
    Calls Tryz.prog 28 #[.pointer (some ⟨p, 0, none⟩)] w fun x w' => x = .returned (.int .i64 (rDone bs k e : Int)) ∧ ∃ nq, w' = w.drewN nq := by
  obtain ⟨ao, cap, hb, _, _, _⟩ := id h
  obtain ⟨c0, c1, c2⟩ := rrCell w hb
  clear hb
  by_cases he : e = 0
  · subst he
    have HL := rleft_any p bs k 0 w h
    by_cases hl : 0 < bs.length - k
    · have hD : rDone bs k 0 = 21 := by unfold rDone; rw [if_neg (by simp), if_pos hl]
      rw [hD]
      clear hD
      have hl' : (0 : Int) < ((bs.length - k : Nat) : Int) := by omega
      generalize bs.length - k = m at HL hl'
      go_enter Tryz.func28, Tryz.ntmps28
      go_wp2_with fail
      refine HL.mono ?_
      rintro x w1 ⟨rfl, nq, rfl⟩
      clear HL h
      go_wp2
      go_ret
      exact ⟨rfl, nq, rfl⟩
    · have hD : rDone bs k 0 = 0 := by unfold rDone; rw [if_neg (by simp), if_neg hl]
      rw [hD]
      clear hD
      have hl' : ((bs.length - k : Nat) : Int) ≤ 0 := by omega
      generalize bs.length - k = m at HL hl'
      go_enter Tryz.func28, Tryz.ntmps28
      go_wp2_with fail
      refine HL.mono ?_
      rintro x w1 ⟨rfl, nq, rfl⟩
      have c2' : (w.drewN nq).cell? ⟨p, 2, none⟩ = some (.int .i64 0) := by simpa using c2
      clear HL h
      go_wp2
      go_ret
      exact ⟨rfl, nq, rfl⟩
  · have hD : rDone bs k e = e := by unfold rDone; rw [if_pos he]
    rw [hD]
    have he2 : ((e : Int) == 0) = false := by simp; omega
    have he3 : ¬ (e : Int) = 0 := by omega
    clear hD he h
    go_enter Tryz.func28, Tryz.ntmps28
    go_wp2
    go_ret
    exact ⟨rfl, 0, rfl⟩
end Go.Proofs.YtafmchgncahafaaGreatDoor.Co
