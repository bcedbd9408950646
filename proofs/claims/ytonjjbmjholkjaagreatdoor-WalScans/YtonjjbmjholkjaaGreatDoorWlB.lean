/-
  The contract of slices.BinarySearch at ints, as far as its place goes: it is one of the list's, or its end; of image.countBelow.
-/
import Derived.Test.YtonjjbmjholkjaaGreatDoorWlS
namespace Go.Proofs.YtonjjbmjholkjaaGreatDoor
open Go.RowKit

def ivs (L : List Int) : List Value := L.map fun x => .int .i64 x

theorem ivs_len (L : List Int) : (ivs L).length = L.length := by simp [ivs]

/-- A row of whole numbers of one's own. -/
def Oi (w : World) (n₀ : Nat) (v : Value) (L : List Int) : Prop := w.ownsRow n₀ 3 1 v L.length (ivs L)

theorem Oi.form {w : World} {n₀ : Nat} {v : Value} {L : List Int} (h : Oi w n₀ v L) : ∃ ao cap, v = .slice ao L.length cap ∧ L.length ≤ cap ∧ cap ≤ maxLen ∧ (0 < L.length → ∃ g, ao = some ⟨g, 0, none⟩ ∧ ∀ i (hi : i < L.length), w.cell? ⟨g, i, none⟩ = some (.int .i64 L[i])) := by
  rcases h.2 with ⟨rfl, hn⟩ | ⟨g, cap, cur, rfl, hb, hg, hnc, hcm, hcs, htake⟩
  · exact ⟨none, 0, by rw [hn], by omega, Nat.zero_le _, fun h => by omega⟩
  · refine ⟨_, cap, rfl, hnc, hcm, fun _ => ⟨g, rfl, fun i hi => ?_⟩⟩
    have := World.ownsRow.cells h (g := g) rfl i (.int .i64 L[i]) (by simp [ivs, hi])
    rw [Addr.add_lit, Nat.zero_add] at this
    exact this

set_option maxHeartbeats 400000 in
theorem inan_any (a : Int) (w : World) : Calls Tryz.prog 92 #[.int .i64 a] w fun e w' => e = .returned (.bool false) ∧ w = w' := by
  go_enter Tryz.func92, Tryz.ntmps92
  go_wp2
  go_ret
  exact ⟨by simp, rfl⟩

set_option maxHeartbeats 400000 in
theorem snan_any (a : Int) (w : World) : Calls Tryz.prog 83 #[.int .i64 a] w fun e w' => e = .returned (.bool false) ∧ w = w' := by
  go_enter Tryz.func83, Tryz.ntmps83
  go_wp2
  go_ret
  exact ⟨by simp, rfl⟩

set_option maxHeartbeats 400000 in
theorem less_any (a b : Int) (w : World) : Calls Tryz.prog 82 #[.int .i64 a, .int .i64 b] w fun e w' => e = .returned (.bool (decide (a < b))) ∧ w = w' := by
  go_enter Tryz.func82, Tryz.ntmps82
  go_wp2_with (go_at_call 92; refine (inan_any _ _).mono ?_; rintro e w' ⟨rfl, rfl⟩)
  go_ret
  exact ⟨rfl, rfl⟩

set_option maxRecDepth 20000 in
set_option maxHeartbeats 2000000 in
theorem bsearch_any (n₀ : Nat) (v : Value) (L : List Int) (x : Int) (w : World) (h : Oi w n₀ v L) (hl : L.length ≤ 16777217) :
    Calls Tryz.prog 55 #[v, .int .i64 x] w fun e w' => ∃ (k : Nat) (b : Bool), e = .returned (.tuple #[.int .i64 (k : Int), .bool b]) ∧ k ≤ L.length ∧ w = w' := by
  obtain ⟨ao, cap, rfl, -, -, hcl⟩ := h.form
  obtain ⟨n, hnl⟩ : ∃ n, L.length = n := ⟨_, rfl⟩
  have HN : Hid (L.length = n) := hnl
  rw [hnl] at hl ⊢
  clear hnl h
  go_enter Tryz.func55, Tryz.ntmps55
  go_wp2_with fail
  go_loopw [7, 8] (fun vi vj wr => ∃ i j : Nat, vi = .int .i64 i ∧ vj = .int .i64 j ∧ i ≤ j ∧ j ≤ n ∧ w = wr) (fun vi vj _ => (intOf vj).toNat - (intOf vi).toNat)
  case atStart => exact ⟨0, n, rfl, rfl, Nat.zero_le _, Nat.le_refl _, rfl⟩
  case round =>
    obtain ⟨i, j, rfl, rfl, hij, hj, rfl⟩ := hrel
    by_cases hlt : i < j
    · obtain ⟨m, hm⟩ : ∃ m, m = (i + j) / 2 := ⟨_, rfl⟩
      have him : i ≤ m := by omega
      have hmj : m < j := by omega
      obtain ⟨g, rfl, hc⟩ := hcl (by rw [HN.out]; omega)
      obtain ⟨y, c0⟩ : ∃ y, w.cell? ⟨g, m, none⟩ = some (.int .i64 y) := ⟨_, hc m (by rw [HN.out]; omega)⟩
      have hmi : ((i : Int) + (j : Int)) / 2 = (m : Int) := by omega
      have hij2 : (i : Int) < (j : Int) := by omega
      have hmn2 : (m : Int) < (n : Int) := by omega
      clear hm hc hcl
      by_cases hyx : y < x
      · have hd : decide (y < x) = true := by simpa using hyx
        go_wp2_with (go_at_call 82; refine (less_any _ _ _).mono ?_; rintro e w' ⟨rfl, rfl⟩)
        refine ⟨⟨m + 1, j, by go_num, rfl, by omega, hj, trivial⟩, ?_⟩
        simp [RowKit.intOf]
        omega
      · have hd : decide (y < x) = false := by simpa using hyx
        go_wp2_with (go_at_call 82; refine (less_any _ _ _).mono ?_; rintro e w' ⟨rfl, rfl⟩)
        refine ⟨⟨i, m, rfl, rfl, by omega, by omega, trivial⟩, ?_⟩
        simp [RowKit.intOf]
        omega
    · obtain rfl : i = j := by omega
      by_cases hin : i < n
      · obtain ⟨g, rfl, hc⟩ := hcl (by rw [HN.out]; omega)
        obtain ⟨y, c0⟩ : ∃ y, w.cell? ⟨g, i, none⟩ = some (.int .i64 y) := ⟨_, hc i (by rw [HN.out]; omega)⟩
        have hin2 : (i : Int) < (n : Int) := by omega
        clear hc hcl
        by_cases hyx : y = x
        · subst hyx
          go_wp2_with (go_at_call 83; refine (snan_any _ _).mono ?_; rintro e w' ⟨rfl, rfl⟩)
          go_ret2
          exact ⟨i, true, rfl, hj, rfl⟩
        · have hyx' : (y == x) = false := by simpa using hyx
          go_wp2_with (go_at_call 83; refine (snan_any _ _).mono ?_; rintro e w' ⟨rfl, rfl⟩)
          go_ret2
          exact ⟨i, false, rfl, hj, rfl⟩
      · go_wp2_with (go_at_call 83; refine (snan_any _ _).mono ?_; rintro e w' ⟨rfl, rfl⟩)
        go_ret2
        exact ⟨i, false, rfl, hj, rfl⟩
end Go.Proofs.YtonjjbmjholkjaaGreatDoor
