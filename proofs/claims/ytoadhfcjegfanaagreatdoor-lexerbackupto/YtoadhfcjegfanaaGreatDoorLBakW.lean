/-
  The walk of LexerBack: for every row of tokens.
-/
import Derived.Test.YtoadhfcjegfanaaGreatDoorMWLOwn
import Derived.Test.YtoadhfcjegfanaaGreatDoorLSame2
namespace Go.Proofs.YtoadhfcjegfanaaGreatDoor
open Go.RowKit Go.Shelf
attribute [local go_sem] cell?_more frozen?_more setCell_more more_lt more_more more_drew more_drewN setCell_drewN alloc_drewN

set_option maxRecDepth 20000 in
set_option maxHeartbeats 4000000 in
theorem bak_any (ao : Option Addr) (cap : Nat) (xs : List Ti) (w : World) (hv : Tw w ao xs) (hn : xs.length ≤ 1048576) (hs : (joinN (xs.map (·.t))).length ≤ 1048576) (hT : Tabs w) (hP : Ptab w) :
    Calls Tryz.prog 4 #[.slice ao xs.length cap] w fun e w' => e = .returned (.bool true) ∧ Below w.heap.size w w' := by
  have K := know_of hT hP
  have O := own5_any ao cap xs w hv (by omega)
  have JA : ∀ (a2 : Option Addr) (c2 : Nat) W, Below w.heap.size w W → Tw W a2 xs → Calls Tryz.prog 12 #[.slice a2 xs.length c2] W fun e w' => e = .returned (.string ⟨(joinT xs).toArray⟩) ∧ Below W.heap.size W w' := fun a2 c2 W h h2 => join_any a2 c2 xs W (hT.later h) (hP.later h) h2 (by omega) (by omega)
  have JB : ∀ W, Below w.heap.size w W → Calls Tryz.prog 13 #[.slice ao xs.length cap] W fun e w' => e = .returned (.string ⟨(joinT xs).toArray⟩) ∧ Below W.heap.size W w' := fun W h => rjoin_any ao cap xs W (hv.later h) (by omega) (by omega)
  have N := fun n W => num5_any n W
  have hsz : (ByteArray.mk (joinT xs).toArray).size = (joinT xs).length := rfl
  have hem : (ByteArray.mk (joinT xs).toArray).toList.isEmpty = (joinT xs).isEmpty := by rw [Lib.toList_data]
  by_cases hbig : 4096 < (joinT xs).length
  · have hbig' : (4096 : Int) < ((joinT xs).length : Int) := by omega
    clear JB N hv hs hem
    generalize ByteArray.mk (joinT xs).toArray = J at *
    generalize xs.length = n at *
    go_enter Tryz.func4, Tryz.ntmps4
    go_wp2_with (first
      | (go_at_call 9; refine O.mono ?_; rintro e w1 ⟨⟨a1, c1, rfl, hw1⟩, b1⟩)
      | (go_at_call 12; refine (JA a1 c1 _ b1 hw1).mono ?_; rintro e w2 ⟨rfl, b2⟩; have B2 := below_trans b1 b2)
      | (go_at_call 17; refine (K _ B2).mono ?_; rintro e w6 ⟨rfl, b6⟩))
    go_ret
    exact ⟨rfl, below_trans B2 b6⟩
  have hbig' : ¬ (4096 : Int) < ((joinT xs).length : Int) := by omega
  by_cases hall : xs.all rtok = true
  case neg =>
    have hj : joinT xs = [] := by unfold joinT; rw [if_neg hall]
    have hpos : 0 < xs.length := by
      rcases Nat.eq_zero_or_pos xs.length with h | h
      · have : xs = [] := List.length_eq_zero_iff.1 h
        rw [this] at hall; exact absurd rfl hall
      · exact h
    have hpos' : (0 : Int) < (xs.length : Int) := by omega
    rw [hj] at JA JB hbig' hsz hem
    clear N hv hs hsz hem hbig'
    generalize xs.length = n at *
    go_enter Tryz.func4, Tryz.ntmps4
    go_wp2_with (first
      | (go_at_call 9; refine O.mono ?_; rintro e w1 ⟨⟨a1, c1, rfl, hw1⟩, b1⟩)
      | (go_at_call 12; refine (JA a1 c1 _ b1 hw1).mono ?_; rintro e w2 ⟨rfl, b2⟩; have B2 := below_trans b1 b2)
      | (go_at_call 13; refine (JB _ B2).mono ?_; rintro e w3 ⟨rfl, b3⟩; have B3 := below_trans B2 b3)
      | (go_at_call 17; refine (K _ B3).mono ?_; rintro e w6 ⟨rfl, b6⟩))
    go_ret
    exact ⟨rfl, below_trans B3 b6⟩
  · have hj : joinT xs = joinN (xs.map (·.t)) := by unfold joinT; rw [if_pos hall]
    have hall' : ∀ x ∈ xs, rtok x = true := List.all_eq_true.1 hall
    obtain ⟨ys, hy1, hy2⟩ := lex_join xs hall' 0
    have CS : ∀ W, Below w.heap.size w W → Calls Tryz.prog 18 #[.string ⟨(joinT xs).toArray⟩] W fun e w' => (∃ v, e = .returned (.tuple #[v, .int .i64 0]) ∧ Towns w' W.heap.size v ys) ∧ Below W.heap.size W w' := fun W h => by
      have := split_any (joinT xs) W (by omega) (hT.later h) (hP.later h)
      rw [hj, hy1] at this
      rw [hj]
      exact this
    have hlen : ys.length = xs.length := by
      have := congrArg List.length hy2
      simpa using this
    have SM : ∀ (a2 : Option Addr) (c2 : Nat) W, Below w.heap.size w W → Tw W a2 (ys.map tin) → Calls Tryz.prog 16 #[.slice a2 xs.length c2, .slice ao xs.length cap, .bool false] W fun e w' => e = .returned (.bool true) ∧ Below W.heap.size W w' := fun a2 c2 W h h2 => by
      have := same5_but a2 ao c2 cap (ys.map tin) xs W h2 (hv.later h) (by rw [List.length_map, hlen]; omega) (by rw [List.length_map, hlen]) (fun i h1 h2 => by
        rw [List.length_map] at h1
        have e := congrArg (fun l => l[i]?) hy2
        simp only [List.getElem?_map, List.getElem?_eq_getElem h1, List.getElem?_eq_getElem h2, Option.map_some, Option.some.injEq, Prod.mk.injEq] at e
        rw [List.getElem_map]
        exact e)
      rw [List.length_map, hlen] at this
      exact this
    have hne : ((joinT xs).isEmpty && decide (0 < xs.length)) = false := by
      rcases Nat.eq_zero_or_pos xs.length with h | h
      · rw [h]; simp
      · have := join_pos xs hall' h
        rw [hj]
        cases hq : joinN (xs.map (·.t)) with
        | nil => exact absurd hq this
        | cons => rfl
    clear JB hv hs hy1 hy2 hj hall' hall
    have HL : Hid (ys.length = xs.length) := hlen
    clear hlen
    generalize ByteArray.mk (joinT xs).toArray = J at *
    generalize (joinT xs).length = m at *
    cases hE : (joinT xs).isEmpty with
    | true =>
      rw [hE] at hem hne
      have hn0 : ¬ (0 : Int) < (xs.length : Int) := by
        simp at hne; rw [hne]; simp
      clear hne hE
      generalize xs.length = n at *
      go_enter Tryz.func4, Tryz.ntmps4
      go_wp2_with (first
        | (go_at_call 9; refine O.mono ?_; rintro e w1 ⟨⟨a1, c1, rfl, hw1⟩, b1⟩)
        | (go_at_call 12; refine (JA a1 c1 _ b1 hw1).mono ?_; rintro e w2 ⟨rfl, b2⟩; have B2 := below_trans b1 b2)
        | (go_at_call 18; refine (CS _ B2).mono ?_; rintro e w3 ⟨⟨v3, rfl, ho3⟩, b3⟩; have B3 := below_trans B2 b3; obtain ⟨a3, c3, rfl, hw3⟩ := ho3.shape; rw [HL.out]; clear ho3)
        | (go_at_call 19; refine (N _ _).mono ?_; rintro e w' ⟨rfl, rfl⟩)
        | (go_at_call 16; refine (SM a3 c3 _ B3 hw3).mono ?_; rintro e w5 ⟨rfl, b5⟩; have B5 := below_trans B3 b5)
        | (go_at_call 17; refine (K _ B5).mono ?_; rintro e w6 ⟨rfl, b6⟩))
      go_ret
      exact ⟨rfl, below_trans B5 b6⟩
    | false =>
      rw [hE] at hem
      clear hne hE
      generalize xs.length = n at *
      go_enter Tryz.func4, Tryz.ntmps4
      go_wp2_with (first
        | (go_at_call 9; refine O.mono ?_; rintro e w1 ⟨⟨a1, c1, rfl, hw1⟩, b1⟩)
        | (go_at_call 12; refine (JA a1 c1 _ b1 hw1).mono ?_; rintro e w2 ⟨rfl, b2⟩; have B2 := below_trans b1 b2)
        | (go_at_call 18; refine (CS _ B2).mono ?_; rintro e w3 ⟨⟨v3, rfl, ho3⟩, b3⟩; have B3 := below_trans B2 b3; obtain ⟨a3, c3, rfl, hw3⟩ := ho3.shape; rw [HL.out]; clear ho3)
        | (go_at_call 19; refine (N _ _).mono ?_; rintro e w' ⟨rfl, rfl⟩)
        | (go_at_call 16; refine (SM a3 c3 _ B3 hw3).mono ?_; rintro e w5 ⟨rfl, b5⟩; have B5 := below_trans B3 b5)
        | (go_at_call 17; refine (K _ B5).mono ?_; rintro e w6 ⟨rfl, b6⟩))
      go_ret
      exact ⟨rfl, below_trans B5 b6⟩
end Go.Proofs.YtoadhfcjegfanaaGreatDoor
