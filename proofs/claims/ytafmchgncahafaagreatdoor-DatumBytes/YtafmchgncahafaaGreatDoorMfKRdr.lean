/-
  The contract of codec.takeText: what the call tells of any bytes.
  A codec.Reader as it lies in memory, and the contracts of its methods: what each call tells, and what it leaves.
-/
import Derived.Test.YtafmchgncahafaaGreatDoorKReads
import Derived.BigQuiet
import Derived.Laws.StructEq
namespace Go.Proofs.YtafmchgncahafaaGreatDoor.Co
open Go.RowKit

/-- The text that bytes begin with, how many bytes it has with its length, which error. -/
def takeT (bs : List UInt8) : List UInt8 × Nat × Nat :=
  if (takeL bs).2.2 ≠ 0 then ([], 0, (takeL bs).2.2)
  else if bs.length - (takeL bs).2.1 < (takeL bs).1 then ([], 0, 20)
  else ((bs.drop (takeL bs).2.1).take (takeL bs).1, (takeL bs).2.1 + (takeL bs).1, 0)

theorem _root_.Go.Proofs.YtafmchgncahafaaGreatDoor.Rd.cut {w : World} {b off n cap : Nat} {bs : List UInt8} (h : Rd w (some ⟨b, off, none⟩) n cap bs) (l m : Nat) (hlm : l + m ≤ n) : Rd w (some ⟨b, off + l, none⟩) m (cap - l) ((bs.drop l).take m) := by
  obtain ⟨h1, h2, h3, h4, h5⟩ := h
  refine ⟨by simp; omega, by omega, by omega, (fun h => by cases h), fun hm => ?_⟩
  obtain ⟨b', off', hao, hc⟩ := h5 (by omega)
  cases hao
  refine ⟨b, off + l, rfl, fun i hi => ?_⟩
  have hi' : i < m := by simp at hi; omega
  have := hc (l + i) (by omega)
  rw [Nat.add_assoc, this]
  simp

set_option maxRecDepth 20000 in
set_option maxHeartbeats 400000 in
theorem takeText_any (ao : Option Addr) (n cap : Nat) (bs : List UInt8) (w : World) (h : Rd w ao n cap bs) :
    Calls Tryz.prog 73 #[.slice ao n cap] w fun e w' => e = .returned (.tuple #[.string ⟨(takeT bs).1.toArray⟩, .int .i64 ((takeT bs).2.1 : Int), .int .i64 ((takeT bs).2.2 : Int)]) ∧ w = w' := by
  have hcall := takeLength_any ao n cap bs w h
  have hsz := takeL_size bs
  have hT : takeT bs = if (takeL bs).2.2 ≠ 0 then ([], 0, (takeL bs).2.2) else if bs.length - (takeL bs).2.1 < (takeL bs).1 then ([], 0, 20) else ((bs.drop (takeL bs).2.1).take (takeL bs).1, (takeL bs).2.1 + (takeL bs).1, 0) := rfl
  generalize takeT bs = t at hT
  generalize (takeL bs).1 = m at hcall hT hsz
  generalize (takeL bs).2.1 = k at hcall hT hsz
  generalize (takeL bs).2.2 = er at hcall hT hsz
  have HC : Hid (Calls Tryz.prog 88 #[.slice ao n cap] w fun e w' => e = .returned (.tuple #[.int .i64 (m : Int), .int .i64 (k : Int), .int .i64 (er : Int)]) ∧ w = w') := hcall
  clear hcall
  have hn := h.2.2.1
  have hnc := h.2.1
  have hbl := h.1
  unfold maxLen at hn
  by_cases he : er = 0
  · subst he
    obtain ⟨hk0, hkn, hm1⟩ := hsz rfl
    clear hsz
    rw [if_neg (by simp)] at hT
    by_cases hlt : bs.length - k < m
    · rw [if_pos hlt] at hT
      subst hT
      clear h
      have hlt' : (n : Int) - (k : Int) < (m : Int) := by omega
      go_enter Tryz.func73, Tryz.ntmps73
      go_wp2_with (go_at_call 88; refine HC.out.mono ?_; rintro e w' ⟨rfl, rfl⟩)
      go_ret3
      exact ⟨rfl, rfl⟩
    · rw [if_neg hlt] at hT
      subst hT
      have hlt' : ¬ (n : Int) - (k : Int) < (m : Int) := by omega
      obtain ⟨b, off, rfl, _⟩ := h.2.2.2.2 (by omega)
      by_cases hcap : cap = k
      · have hm0 : m = 0 := by omega
        subst hm0
        subst hcap
        have hcv := fun W : World => run_string_of (P := Tryz.prog) (w := W) (ao := some ⟨b, off, none⟩) (n := 0) (cap := 0) (bs := []) 23 9 5 Tryz.underlying23 Tryz.underlying5 Tryz.underlying9 ⟨rfl, Nat.le_refl _, Nat.zero_le _, (fun h => by cases h), fun h => by omega⟩
        clear h
        go_enter Tryz.func73, Tryz.ntmps73
        go_wp2_with (go_at_call 88; refine HC.out.mono ?_; rintro e w' ⟨rfl, rfl⟩)
        go_ret3
        exact ⟨rfl, rfl⟩
      · have hcv := run_string_of (P := Tryz.prog) 23 9 5 Tryz.underlying23 Tryz.underlying5 Tryz.underlying9 (h.cut k m (by omega))
        clear h
        go_enter Tryz.func73, Tryz.ntmps73
        go_wp2_with (go_at_call 88; refine HC.out.mono ?_; rintro e w' ⟨rfl, rfl⟩)
        go_ret3
        exact ⟨ret_three rfl rfl rfl, rfl⟩
  · rw [if_pos he] at hT
    subst hT
    clear hsz h
    have he2 : ((er : Int) != 0) = true := by simp; omega
    clear he
    go_enter Tryz.func73, Tryz.ntmps73
    go_wp2_with (go_at_call 88; refine HC.out.mono ?_; rintro e w' ⟨rfl, rfl⟩)
    go_ret3
    exact ⟨rfl, rfl⟩
end Go.Proofs.YtafmchgncahafaaGreatDoor.Co

namespace Go.Proofs.YtafmchgncahafaaGreatDoor.Co
open Go.RowKit

/-- The cells of a Reader. -/
def rCells (ao : Option Addr) (n cap : Nat) (k e : Int) : Array Value := #[.slice ao n cap, .bool true, .int .i64 k, .int .i64 e]

/-- Block p holds a Reader that NewReader made, over the bytes bs; k of them are passed; e is the first error. -/
def Rdr (w : World) (p : Nat) (bs : List UInt8) (k e : Nat) : Prop :=
  ∃ ao cap, w.heap[p]? = some (.cells (rCells ao bs.length cap (k : Int) (e : Int)) 74 (0, 0)) ∧ Rd w ao bs.length cap bs ∧ k ≤ bs.length ∧ (ao = none ∨ ∃ g, ao = some ⟨g, 0, none⟩ ∧ g ≠ p)

theorem rCells_free {w : World} {p : Nat} {C : Array Value} {t : TypeId} (h : w.heap[p]? = some (.cells C t (0, 0))) (j : Nat) : w.frozen? ⟨p, j, none⟩ = false := by
  simp [World.frozen?, h]

theorem rCell (w : World) {p : Nat} {ao : Option Addr} {n cap : Nat} {k e : Int} {t : TypeId} (h : w.heap[p]? = some (.cells (rCells ao n cap k e) t (0, 0))) :
    w.cell? ⟨p, 0, none⟩ = some (.slice ao n cap) ∧ w.cell? ⟨p, 1, none⟩ = some (.bool true) ∧ w.cell? ⟨p, 2, none⟩ = some (.int .i64 k) ∧ w.cell? ⟨p, 3, none⟩ = some (.int .i64 e) := by
  refine ⟨?_, ?_, ?_, ?_⟩
  all_goals
    rw [cell_of_row w p _ _ t (0, 0) h]
    rfl

set_option maxHeartbeats 400000 in
theorem wasMade_yes (p : Nat) (k e : Int) (w : World) (c1 : w.cell? ⟨p, 1, none⟩ = some (.bool true)) (c2 : w.cell? ⟨p, 2, none⟩ = some (.int .i64 k)) (c3 : w.cell? ⟨p, 3, none⟩ = some (.int .i64 e)) :
    Calls Tryz.prog 71 #[.pointer (some ⟨p, 0, none⟩)] w fun e w' => e = .returned (.bool true) ∧ w = w' := by
  go_enter Tryz.func71, Tryz.ntmps71
  go_wp2
  go_ret
  exact ⟨rfl, rfl⟩

set_option maxHeartbeats 400000 in
theorem err_yes (p : Nat) (bs : List UInt8) (k e : Nat) (w : World) (h : Rdr w p bs k e) :
    Calls Tryz.prog 46 #[.pointer (some ⟨p, 0, none⟩)] w fun x w' => x = .returned (.int .i64 (e : Int)) ∧ w = w' := by
  obtain ⟨ao, cap, hb, _, _, _⟩ := h
  obtain ⟨c0, c1, c2, c3⟩ := rCell w hb
  clear hb
  go_enter Tryz.func46, Tryz.ntmps46
  go_wp2_with (go_at_call 71; refine (wasMade_yes p _ _ _ c1 c2 c3).mono ?_; rintro e w' ⟨rfl, rfl⟩)
  go_ret
  exact ⟨rfl, rfl⟩

theorem _root_.Go.Proofs.YtafmchgncahafaaGreatDoor.Rd.drewN {w : World} {ao : Option Addr} {n cap : Nat} {bs : List UInt8} (h : Rd w ao n cap bs) (q : Nat) : Rd (w.drewN q) ao n cap bs := by
  obtain ⟨h1, h2, h3, h4, h5⟩ := h
  refine ⟨h1, h2, h3, h4, fun hn => ?_⟩
  obtain ⟨b, off, hao, hc⟩ := h5 hn
  exact ⟨b, off, hao, fun i hi => by simpa using hc i hi⟩

theorem Rdr.drewN {w : World} {p : Nat} {bs : List UInt8} {k e : Nat} (h : Rdr w p bs k e) (q : Nat) : Rdr (w.drewN q) p bs k e := by
  obtain ⟨ao, cap, hb, hr, hk, hg⟩ := h
  exact ⟨ao, cap, by simpa using hb, hr.drewN q, hk, hg⟩

set_option maxHeartbeats 400000 in
theorem rest_any (p : Nat) (bs : List UInt8) (k e : Nat) (w : World) (h : Rdr w p bs k e) :
    Calls Tryz.prog 48 #[.pointer (some ⟨p, 0, none⟩)] w fun x w' => ∃ ao cap nq, x = .returned (.slice ao (bs.length - k) cap) ∧ w' = w.drewN nq ∧ Rd w ao (bs.length - k) cap (bs.drop k) := by
  obtain ⟨ao, cap, hb, hr, hk, hg⟩ := h
  obtain ⟨c0, c1, c2, c3⟩ := rCell w hb
  have hn := hr.2.2.1
  have hnc := hr.2.1
  unfold maxLen at hn
  clear hb
  rcases hg with rfl | ⟨g, rfl, _⟩
  · have h0 := hr.2.2.2.1 rfl
    obtain ⟨h0, rfl⟩ := h0
    have hk0 : k = 0 := by omega
    subst hk0
    have : bs = [] := List.eq_nil_of_length_eq_zero h0
    subst this
    go_enter Tryz.func48, Tryz.ntmps48
    go_wp2
    go_quiet (fail)
    go_wp2
    go_ret
    exact ⟨_, _, nq, rfl, rfl, Rd.nil w⟩
  · by_cases hc : cap = k
    · have hlen : bs.length = k := by omega
      have hR : Rd w (some ⟨g, 0, none⟩) (bs.length - k) (cap - k) (bs.drop k) := ⟨by simp, by omega, by unfold maxLen; omega, (fun h => by cases h), fun h => by omega⟩
      have HL : Hid (bs.length = k) := hlen
      have HC : Hid (cap = k) := hc
      have hc' : ((cap : Nat) = k) = True := by simp [hc]
      clear hlen hc hr
      go_enter Tryz.func48, Tryz.ntmps48
      go_wp2
      go_quiet (fail)
      go_wp2
      go_ret
      exact ⟨_, _, nq, rfl, rfl, hR⟩
    · have hR := hr.cut k (bs.length - k) (by omega)
      rw [List.take_of_length_le (by simp), Nat.zero_add] at hR
      clear hr
      go_enter Tryz.func48, Tryz.ntmps48
      go_wp2
      go_quiet (fail)
      go_wp2
      go_ret
      exact ⟨_, _, nq, rfl, rfl, hR⟩
end Go.Proofs.YtafmchgncahafaaGreatDoor.Co
