/-
  A codec.Reader as it lies in memory, and the contracts of its methods: what each call tells, and what it leaves.
-/
import Derived.Test.YtdjilmcpkeckoaaDoorTexts
import Derived.BigQuiet
import Derived.Laws.StructEq
namespace Go.Proofs.YtdjilmcpkeckoaaDoor
open Go.RowKit

/-- The cells of a Reader. -/
def rCells (ao : Option Addr) (n cap : Nat) (k e : Int) : Array Value := #[.slice ao n cap, .bool true, .int .i64 k, .int .i64 e]

/-- Block p holds a Reader that NewReader made, over the bytes bs; k of them are passed; e is the first error. -/
def Rdr (w : World) (p : Nat) (bs : List UInt8) (k e : Nat) : Prop :=
  ∃ ao cap, w.heap[p]? = some (.cells (rCells ao bs.length cap (k : Int) (e : Int)) 57 (0, 0)) ∧ Rd w ao bs.length cap bs ∧ k ≤ bs.length ∧ (ao = none ∨ ∃ g, ao = some ⟨g, 0, none⟩ ∧ g ≠ p)

theorem rCells_free {w : World} {p : Nat} {C : Array Value} {t : TypeId} (h : w.heap[p]? = some (.cells C t (0, 0))) (j : Nat) : w.frozen? ⟨p, j, none⟩ = false := by
  simp [World.frozen?, h]

theorem rCell (w : World) {p : Nat} {ao : Option Addr} {n cap : Nat} {k e : Int} {t : TypeId} (h : w.heap[p]? = some (.cells (rCells ao n cap k e) t (0, 0))) :
    w.cell? ⟨p, 0, none⟩ = some (.slice ao n cap) ∧ w.cell? ⟨p, 1, none⟩ = some (.bool true) ∧ w.cell? ⟨p, 2, none⟩ = some (.int .i64 k) ∧ w.cell? ⟨p, 3, none⟩ = some (.int .i64 e) := by
  refine ⟨?_, ?_, ?_, ?_⟩
  all_goals
    rw [cell_of_row w p _ _ t (0, 0) h]
    rfl

set_option maxHeartbeats 400000 in
theorem wasMade_nil (w : World) :
    Calls Tryd.prog 43 #[.pointer none] w fun e w' => e = .returned (.bool false) ∧ w = w' := by
  go_enter Tryd.func43, Tryd.ntmps43
  go_wp2
  go_ret
  exact ⟨rfl, rfl⟩

set_option maxHeartbeats 400000 in
theorem wasMade_not (p : Nat) (w : World) (c1 : w.cell? ⟨p, 1, none⟩ = some (.bool false)) (c2 : w.cell? ⟨p, 2, none⟩ = some (.int .i64 0)) (c3 : w.cell? ⟨p, 3, none⟩ = some (.int .i64 0)) :
    Calls Tryd.prog 43 #[.pointer (some ⟨p, 0, none⟩)] w fun e w' => e = .returned (.bool false) ∧ w = w' := by
  go_enter Tryd.func43, Tryd.ntmps43
  go_wp2
  go_ret
  exact ⟨rfl, rfl⟩

set_option maxHeartbeats 400000 in
theorem wasMade_yes (p : Nat) (k e : Int) (w : World) (c1 : w.cell? ⟨p, 1, none⟩ = some (.bool true)) (c2 : w.cell? ⟨p, 2, none⟩ = some (.int .i64 k)) (c3 : w.cell? ⟨p, 3, none⟩ = some (.int .i64 e)) :
    Calls Tryd.prog 43 #[.pointer (some ⟨p, 0, none⟩)] w fun e w' => e = .returned (.bool true) ∧ w = w' := by
  go_enter Tryd.func43, Tryd.ntmps43
  go_wp2
  go_ret
  exact ⟨rfl, rfl⟩

set_option maxHeartbeats 400000 in
theorem err_nil (w : World) :
    Calls Tryd.prog 29 #[.pointer none] w fun e w' => e = .returned (.int .i64 1) ∧ w = w' := by
  go_enter Tryd.func29, Tryd.ntmps29
  go_wp2_with (go_at_call 43; refine (wasMade_nil _).mono ?_; rintro e w' ⟨rfl, rfl⟩)
  go_ret
  exact ⟨rfl, rfl⟩

set_option maxHeartbeats 400000 in
theorem err_not (p : Nat) (w : World) (c1 : w.cell? ⟨p, 1, none⟩ = some (.bool false)) (c2 : w.cell? ⟨p, 2, none⟩ = some (.int .i64 0)) (c3 : w.cell? ⟨p, 3, none⟩ = some (.int .i64 0)) :
    Calls Tryd.prog 29 #[.pointer (some ⟨p, 0, none⟩)] w fun e w' => e = .returned (.int .i64 1) ∧ w = w' := by
  go_enter Tryd.func29, Tryd.ntmps29
  go_wp2_with (go_at_call 43; refine (wasMade_not p _ c1 c2 c3).mono ?_; rintro e w' ⟨rfl, rfl⟩)
  go_ret
  exact ⟨rfl, rfl⟩

set_option maxHeartbeats 400000 in
theorem err_yes (p : Nat) (bs : List UInt8) (k e : Nat) (w : World) (h : Rdr w p bs k e) :
    Calls Tryd.prog 29 #[.pointer (some ⟨p, 0, none⟩)] w fun x w' => x = .returned (.int .i64 (e : Int)) ∧ w = w' := by
  obtain ⟨ao, cap, hb, _, _, _⟩ := h
  obtain ⟨c0, c1, c2, c3⟩ := rCell w hb
  clear hb
  go_enter Tryd.func29, Tryd.ntmps29
  go_wp2_with (go_at_call 43; refine (wasMade_yes p _ _ _ c1 c2 c3).mono ?_; rintro e w' ⟨rfl, rfl⟩)
  go_ret
  exact ⟨rfl, rfl⟩

theorem Rd.drewN {w : World} {ao : Option Addr} {n cap : Nat} {bs : List UInt8} (h : Rd w ao n cap bs) (q : Nat) : Rd (w.drewN q) ao n cap bs := by
  obtain ⟨h1, h2, h3, h4, h5⟩ := h
  refine ⟨h1, h2, h3, h4, fun hn => ?_⟩
  obtain ⟨b, off, hao, hc⟩ := h5 hn
  exact ⟨b, off, hao, fun i hi => by simpa using hc i hi⟩

theorem Rdr.drewN {w : World} {p : Nat} {bs : List UInt8} {k e : Nat} (h : Rdr w p bs k e) (q : Nat) : Rdr (w.drewN q) p bs k e := by
  obtain ⟨ao, cap, hb, hr, hk, hg⟩ := h
  exact ⟨ao, cap, by simpa using hb, hr.drewN q, hk, hg⟩

set_option maxHeartbeats 400000 in
theorem rest_any (p : Nat) (bs : List UInt8) (k e : Nat) (w : World) (h : Rdr w p bs k e) :
    Calls Tryd.prog 39 #[.pointer (some ⟨p, 0, none⟩)] w fun x w' => ∃ ao cap nq, x = .returned (.slice ao (bs.length - k) cap) ∧ w' = w.drewN nq ∧ Rd w ao (bs.length - k) cap (bs.drop k) := by
  obtain ⟨ao, cap, hb, hr, hk, hg⟩ := h
  obtain ⟨c0, c1, c2, c3⟩ := rCell w hb
  have hn := hr.2.2.1
  have hnc := hr.2.1
  unfold maxLen at hn
  clear hb
  rcases hg with rfl | ⟨g, rfl, _⟩
  · have h0 := hr.2.2.2.1 rfl
    obtain ⟨h0, rfl⟩ := h0
    have hk0 : k = 0 := by omega
    subst hk0
    have : bs = [] := List.eq_nil_of_length_eq_zero h0
    subst this
    go_enter Tryd.func39, Tryd.ntmps39
    go_wp2
    go_quiet (fail)
    go_wp2
    go_ret
    exact ⟨_, _, nq, rfl, rfl, Rd.nil w⟩
  · by_cases hc : cap = k
    · have hlen : bs.length = k := by omega
      have hR : Rd w (some ⟨g, 0, none⟩) (bs.length - k) (cap - k) (bs.drop k) := ⟨by simp, by omega, by unfold maxLen; omega, (fun h => by cases h), fun h => by omega⟩
      have HL : Hid (bs.length = k) := hlen
      have HC : Hid (cap = k) := hc
      have hc' : ((cap : Nat) = k) = True := by simp [hc]
      clear hlen hc hr
      go_enter Tryd.func39, Tryd.ntmps39
      go_wp2
      go_quiet (fail)
      go_wp2
      go_ret
      exact ⟨_, _, nq, rfl, rfl, hR⟩
    · have hR := hr.cut k (bs.length - k) (by omega)
      rw [List.take_of_length_le (by simp), Nat.zero_add] at hR
      clear hr
      go_enter Tryd.func39, Tryd.ntmps39
      go_wp2
      go_quiet (fail)
      go_wp2
      go_ret
      exact ⟨_, _, nq, rfl, rfl, hR⟩
end Go.Proofs.YtdjilmcpkeckoaaDoor
