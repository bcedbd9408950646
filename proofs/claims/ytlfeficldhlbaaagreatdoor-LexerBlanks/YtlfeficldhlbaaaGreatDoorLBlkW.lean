/-
  The walk of LexerBlanks: for every text and number.
-/
import Derived.Test.YtlfeficldhlbaaaGreatDoorLTwoW
namespace Go.Proofs.YtlfeficldhlbaaaGreatDoor
open Go.RowKit Go.Shelf
attribute [local go_sem] cell?_more frozen?_more setCell_more more_lt more_more more_drew more_drewN setCell_drewN alloc_drewN

/-- Blanks and line ends, as often as that. -/
def padN : Nat → List UInt8
  | 0 => []
  | n + 1 => padN n ++ [32, 10]
theorem padN_len (n : Nat) : (padN n).length = 2 * n := by
  induction n with
  | zero => rfl
  | succ n ih => simp [padN, ih]; omega
theorem padN_blank (n : Nat) : (padN n).all isB = true := by
  induction n with
  | zero => rfl
  | succ n ih =>
    rw [padN, List.all_append, ih]
    rfl

set_option maxHeartbeats 4000000 in
theorem blk_long (S : ByteArray) (n : Int) (w : World) (_hn : -9223372036854775808 ≤ n ∧ n ≤ 9223372036854775807) (hS : 4000 < S.size) (hS2 : S.size ≤ 140737488351232) (E : Int) (K : Know w)
    (CS : ∀ W, Below w.heap.size w W → Calls Tryz.prog 9 #[.string S] W fun e w' => (∃ ao n cap, e = .returned (.tuple #[.slice ao n cap, .int .i64 E])) ∧ Below W.heap.size W w') :
    Calls Tryz.prog 7 #[.string S, .int .i64 n] w fun e w' => e = .returned (.bool true) ∧ Below w.heap.size w w' := by
  have hS' : (4000 : Int) < (S.size : Int) := by omega
  go_enter Tryz.func7, Tryz.ntmps7
  go_wp2_with (first
    | (go_at_call 9; refine (CS _ (by first | exact Below.refl _ _ | assumption)).mono ?_; rintro e w1 ⟨⟨ao, n1, cap, rfl⟩, b1⟩)
    | (go_at_call 13; refine (K _ b1).mono ?_; rintro e w3 ⟨rfl, b3⟩))
  go_ret
  exact ⟨rfl, below_trans b1 b3⟩

theorem nine (n : Int) (hn : -9223372036854775808 ≤ n ∧ n ≤ 9223372036854775807) : ∃ m : Nat, m ≤ 8 ∧ (wrap64 (n.tmod 9 + 9)).tmod 9 = (m : Int) := by
  have h1 : -9 < n.tmod 9 ∧ n.tmod 9 < 9 := by
    rcases Int.le_total 0 n with h | h
    · have a := Int.tmod_nonneg 9 h
      have b := Int.tmod_lt_of_pos n (show (0 : Int) < 9 by decide)
      omega
    · have a := Int.tmod_nonneg 9 (show 0 ≤ -n by omega)
      have b := Int.tmod_lt_of_pos (-n) (show (0 : Int) < 9 by decide)
      rw [Int.neg_tmod] at a b
      omega
  have h2 : wrap64 (n.tmod 9 + 9) = n.tmod 9 + 9 := by
    have := IntKind.wrap_i64 (n.tmod 9 + 9)
    unfold wrap64
    omega
  rw [h2]
  have a := Int.tmod_nonneg 9 (show 0 ≤ n.tmod 9 + 9 by omega)
  have b := Int.tmod_lt_of_pos (n.tmod 9 + 9) (show (0 : Int) < 9 by decide)
  exact ⟨((n.tmod 9 + 9).tmod 9).toNat, by omega, by omega⟩

set_option maxRecDepth 20000 in
set_option maxHeartbeats 4000000 in
theorem blk_ok (S Z : ByteArray) (n : Int) (m : Nat) (x : List Tok) (w : World) (hm : m ≤ 8) (hnm : (wrap64 (n.tmod 9 + 9)).tmod 9 = (m : Int)) (hS : S.size ≤ 4000) (hZ : (ByteArray.mk (padN m).toArray ++ S) ++ ⟨(padN m).toArray⟩ = Z) (hZ1 : (ByteArray.mk (padN m).toArray ++ S).size = 2 * m + S.size) (hxl : x.length ≤ 4096) (hxa : ∀ t ∈ x, t.a ≤ 4096) (E : Int) (K : Know w)
    (CS : ∀ W, Below w.heap.size w W → Calls Tryz.prog 9 #[.string S] W fun e w' => (∃ v, e = .returned (.tuple #[v, .int .i64 E]) ∧ Towns w' W.heap.size v x) ∧ Below W.heap.size W w')
    (CZ : ∀ W, Below w.heap.size w W → Calls Tryz.prog 9 #[.string Z] W fun e w' => (∃ v, e = .returned (.tuple #[v, .int .i64 E]) ∧ Towns w' W.heap.size v (x.map (tshift (2 * m)))) ∧ Below W.heap.size W w') :
    Calls Tryz.prog 7 #[.string S, .int .i64 n] w fun e w' => e = .returned (.bool true) ∧ Below w.heap.size w w' := by
  have hS' : ¬ (4000 : Int) < (S.size : Int) := by omega
  have N := fun n W => num5_any n W
  have hn2 : (x.map (tshift (2 * m))).length = x.length := List.length_map _
  go_enter Tryz.func7, Tryz.ntmps7
  go_wp2_with (first
    | (go_at_call_of 9 (Value.string S); refine (CS _ (by first | exact Below.refl _ _ | assumption)).mono ?_; rintro e w1 ⟨⟨v1, rfl, ho1⟩, b1⟩; obtain ⟨ao, cap, rfl, hw1⟩ := ho1.shape; clear ho1))
  go_loopw [7, 8] (fun r7 r8 wr => ∃ k : Nat, r8 = .int .i64 (k : Int) ∧ r7 = .string ⟨(padN k).toArray⟩ ∧ k ≤ m ∧ w1 = wr) (fun _ r _ => m - (intOf r).toNat)
  case atStart => exact ⟨0, rfl, rfl, Nat.zero_le _, rfl⟩
  case round =>
    obtain ⟨k, rfl, rfl, hk, rfl⟩ := hrel
    by_cases hlt : k < m
    · as_aux_lemma =>
        have hlt' : (k : Int) < (m : Int) := by omega
        have hadd : (ByteArray.mk (padN k).toArray) ++ (ByteArray.mk #[32, 10]) = ⟨(padN (k + 1)).toArray⟩ := ba_app (padN k) [32, 10]
        have hsz : ¬ 9223372036854775807 < (ByteArray.mk (padN k).toArray).size + 2 := by
          show ¬ 9223372036854775807 < (padN k).length + 2
          rw [padN_len]; omega
        have hsz2 : (ByteArray.mk (padN k).toArray).size = 2 * k := padN_len k
        generalize ByteArray.mk (padN k).toArray = P at *
        go_wp2
        exact ⟨⟨k + 1, by rw [cast1], rfl, by omega, trivial⟩, by simp [intOf] <;> omega⟩
    · have hlt' : ¬ (k : Int) < (m : Int) := by omega
      obtain rfl : k = m := by omega
      have hpl : (ByteArray.mk (padN k).toArray).size = 2 * k := padN_len k
      generalize ByteArray.mk (padN k).toArray = P at *
      go_wp2_with (first
        | (go_at_call_of 9 (Value.string Z); refine (CZ _ b1).mono ?_; rintro e w2 ⟨⟨v2, rfl, ho2⟩, b2⟩; have B2 := below_trans b1 b2; obtain ⟨ao2, cap2, rfl, hw2⟩ := ho2.shape; clear ho2; rw [hn2])
        | (go_at_call 12; refine (N _ _).mono ?_; rintro e w' ⟨rfl, rfl⟩))
      have hx2 : Tw w2 ao (x.map tin) := hw1.later b2
      clear hw1 b1 b2 CS CZ hZ
      go_loopw [11] (fun r wr => ∃ j : Nat, r = .int .i64 (j : Int) ∧ j ≤ x.length ∧ Below w2.heap.size w2 wr) (fun r _ => x.length - (intOf r).toNat)
      case atStart => exact ⟨0, rfl, Nat.zero_le _, Below.refl _ _⟩
      case round =>
        obtain ⟨j, rfl, hj, hbw⟩ := hrel
        have sB := hbw.size
        by_cases hlt2 : j < x.length
        · as_aux_lemma =>
            have hlt2' : (j : Int) < (x.length : Int) := by omega
            have j0 : (0 : Int) ≤ (j : Int) := by omega
            obtain ⟨b, off, rfl, hc⟩ := hx2 (by rw [List.length_map]; omega)
            obtain ⟨b2, off2, rfl, hc2⟩ := hw2 (by rw [List.length_map, hn2]; omega)
            have h1 := (hc j (by rw [List.length_map]; exact hlt2)).later hbw
            have h2 := (hc2 j (by rw [List.length_map, hn2]; exact hlt2)).later hbw
            have hb := h1.lt
            have hb2 := h2.lt
            rw [List.getElem_map] at h1
            rw [List.getElem_map, List.getElem_map] at h2
            obtain ⟨t, ht⟩ : ∃ t, t = x[j] := ⟨_, rfl⟩
            have hta := hxa x[j] (List.getElem_mem _)
            rw [← ht] at h1 h2 hta
            obtain ⟨tk, tt, tvv, ta⟩ := t
            have e3 : tin (tshift (2 * k) ⟨tk, tt, tvv, ta⟩) = ⟨tk, tt, tvv, (ta : Int) + 2 * (k : Int)⟩ := by
              show (⟨(tk : Int), tt, tvv, ((ta + 2 * k : Nat) : Int)⟩ : Ti) = _
              rw [show ((ta + 2 * k : Nat) : Int) = (ta : Int) + 2 * (k : Int) by omega]
            rw [e3] at h2
            obtain ⟨c0, c1, c2, c3, c4, c5, c6⟩ := h1
            obtain ⟨d0, d1, d2, d3, d4, d5, d6⟩ := h2
            have hta' : (ta : Int) ≤ 4096 := by simp at hta; omega
            have hpl' : ((2 * k : Nat) : Int) = 2 * (k : Int) := by omega
            clear hx2 hw2 hc hc2 ht hxa hta
            go_wp2
            go_region
            all_goals go_wp2
            all_goals exact ⟨⟨j + 1, by rw [cast1], by omega, by first | exact hbw.drew | exact hbw⟩, by simp [intOf] <;> omega⟩
        · as_aux_lemma =>
            have hlt2' : ¬ (j : Int) < (x.length : Int) := by omega
            clear hx2 hw2
            have B4 := below_trans B2 hbw
            go_wp2_with (go_at_call 13; refine (K _ B4).mono ?_; rintro e w4 ⟨rfl, b4⟩)
            go_ret
            exact ⟨rfl, below_trans B4 b4⟩

theorem lex_pads (l : List UInt8) (m : Nat) : lexL vz dpv ((padN m ++ l) ++ padN m) 0 = (lexL vz dpv l 0).map (List.map (tshift (2 * m))) := by
  rw [lex_behind (padN m) (padN_blank m), lex_ahead (padN m) (padN_blank m), padN_len, lex_at]

theorem blk_any (l : List UInt8) (n : Int) (w : World) (hl : l.length ≤ 140737488351232) (hn : -9223372036854775808 ≤ n ∧ n ≤ 9223372036854775807) (hT : Tabs w) (hP : Ptab w) :
    Calls Tryz.prog 7 #[.string ⟨l.toArray⟩, .int .i64 n] w fun e w' => e = .returned (.bool true) ∧ Below w.heap.size w w' := by
  have K := know_of hT hP
  by_cases h4 : l.length ≤ 4000
  · obtain ⟨m, hm, hnm⟩ := nine n hn
    have hz := lex_pads l m
    have hzl : ((padN m ++ l) ++ padN m).length ≤ 4096 := by
      rw [List.length_append, List.length_append, padN_len]; omega
    have hZ : (ByteArray.mk (padN m).toArray ++ ⟨l.toArray⟩) ++ ⟨(padN m).toArray⟩ = ⟨((padN m ++ l) ++ padN m).toArray⟩ := by rw [ba_app, ba_app]
    have hZ1 : (ByteArray.mk (padN m).toArray ++ ⟨l.toArray⟩).size = 2 * m + (ByteArray.mk l.toArray).size := by
      rw [ba_app]
      show (padN m ++ l).length = 2 * m + l.length
      rw [List.length_append, padN_len]
    rcases split_ends l w hT hP with ⟨_, x, hx, CS⟩ | ⟨h, E, hE, hE2, CS⟩
    · rw [hx] at hz
      rcases split_ends ((padN m ++ l) ++ padN m) w hT hP with ⟨_, z, hz', CZ⟩ | ⟨h, _⟩
      · rw [hz] at hz'
        obtain rfl := Option.some.inj hz'
        exact blk_ok _ _ n m x w hm hnm h4 hZ hZ1 (by have := lex_count l 0 x hx; omega) (fun t ht => by have := lex_places l 0 x hx t ht; omega) 0 K CS CZ
      · rcases h with h | h
        · omega
        · rw [hz] at h; cases h
    · have hx : lexL vz dpv l 0 = none := by
        rcases h with h | h
        · omega
        · exact h
      rw [hx] at hz
      have e30 : E = 30 := by
        rcases hE2 with ⟨h, _⟩ | ⟨_, h⟩
        · exact h
        · omega
      subst e30
      have nilT : ∀ {S : ByteArray}, (∀ W, Below w.heap.size w W → Calls Tryz.prog 9 #[.string S] W fun e w' => e = .returned (.tuple #[.slice none 0 0, .int .i64 30]) ∧ Below W.heap.size W w') → ∀ W, Below w.heap.size w W → Calls Tryz.prog 9 #[.string S] W fun e w' => (∃ v, e = .returned (.tuple #[v, .int .i64 30]) ∧ Towns w' W.heap.size v []) ∧ Below W.heap.size W w' := fun C W h => (C W h).mono fun e w' ⟨h1, h2⟩ => ⟨⟨_, h1, World.ownsRow_nil _ _ _ _⟩, h2⟩
      rcases split_ends ((padN m ++ l) ++ padN m) w hT hP with ⟨_, z, hz', _⟩ | ⟨_, F, _, hF2, CZ⟩
      · rw [hz] at hz'; cases hz'
      · have f30 : F = 30 := by
          rcases hF2 with ⟨h, _⟩ | ⟨_, h⟩
          · exact h
          · omega
        subst f30
        exact blk_ok _ _ n m [] w hm hnm h4 hZ hZ1 (by simp) (by simp) 30 K (nilT CS) (nilT CZ)
  · rcases split_ends l w hT hP with ⟨_, x, hx, CS⟩ | ⟨h, E, hE, hE2, CS⟩
    · refine blk_long _ n w hn (by show 4000 < l.length; omega) hl 0 K fun W h => (CS W h).mono fun e w' ⟨⟨v, h1, ho⟩, h2⟩ => ?_
      obtain ⟨ao, cap, rfl, _⟩ := ho.shape
      exact ⟨⟨_, _, _, h1⟩, h2⟩
    · exact blk_long _ n w hn (by show 4000 < l.length; omega) hl E K fun W h => (CS W h).mono fun e w' ⟨h1, h2⟩ => ⟨⟨_, _, _, h1⟩, h2⟩

theorem blk_anyB (S : ByteArray) (n : Int) (w : World) (hl : S.size ≤ 140737488351232) (hn : -9223372036854775808 ≤ n ∧ n ≤ 9223372036854775807) (hT : Tabs w) (hP : Ptab w) :
    Calls Tryz.prog 7 #[.string S, .int .i64 n] w fun e w' => e = .returned (.bool true) ∧ Below w.heap.size w w' := by
  obtain ⟨⟨l⟩⟩ := S
  exact blk_any l n w hl hn hT hP
end Go.Proofs.YtlfeficldhlbaaaGreatDoor
