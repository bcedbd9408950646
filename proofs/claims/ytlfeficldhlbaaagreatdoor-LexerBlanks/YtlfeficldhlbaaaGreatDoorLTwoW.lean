/-
  The walk of LexerTwo: for every two texts.
-/
import Derived.Test.YtlfeficldhlbaaaGreatDoorLAllW
namespace Go.Proofs.YtlfeficldhlbaaaGreatDoor
open Go.RowKit Go.Shelf
attribute [local go_sem] cell?_more frozen?_more setCell_more more_lt more_more more_drew more_drewN setCell_drewN alloc_drewN

set_option maxHeartbeats 4000000 in
theorem two_err (S T : ByteArray) (E F : Int) (w : World) (hS : S.size ≤ 140737488351232) (hT : T.size ≤ 140737488351232)
    (hE : ¬ E = 0 ∨ ¬ F = 0 ∨ 2000 < S.size ∨ 2000 < T.size) (K : Know w)
    (CS : ∀ W, Below w.heap.size w W → Calls Tryz.prog 9 #[.string S] W fun e w' => (∃ ao n cap, e = .returned (.tuple #[.slice ao n cap, .int .i64 E])) ∧ Below W.heap.size W w')
    (CT : ∀ W, Below w.heap.size w W → Calls Tryz.prog 9 #[.string T] W fun e w' => (∃ ao n cap, e = .returned (.tuple #[.slice ao n cap, .int .i64 F])) ∧ Below W.heap.size W w') :
    Calls Tryz.prog 8 #[.string S, .string T] w fun e w' => e = .returned (.bool true) ∧ Below w.heap.size w w' := by
  have N := fun n W => num5_any n W
  by_cases h1 : E = 0
  · subst h1
    by_cases h2 : F = 0
    · subst h2
      by_cases h3 : 2000 < S.size
      · have h3' : (2000 : Int) < (S.size : Int) := by omega
        clear hE hT
        go_enter Tryz.func8, Tryz.ntmps8
        go_wp2_with (first
          | (go_at_call_of 9 (Value.string S); refine (CS _ (by first | exact Below.refl _ _ | assumption)).mono ?_; rintro e w1 ⟨⟨ao, n, cap, rfl⟩, b1⟩)
          | (go_at_call_of 9 (Value.string T); refine (CT _ b1).mono ?_; rintro e w2 ⟨⟨ao2, n2, cap2, rfl⟩, b2⟩; have B2 := below_trans b1 b2)
          | (go_at_call 12; refine (N _ _).mono ?_; rintro e w' ⟨rfl, rfl⟩)
          | (go_at_call 13; refine (K _ B2).mono ?_; rintro e w3 ⟨rfl, b3⟩))
        go_ret
        exact ⟨rfl, below_trans B2 b3⟩
      · have h3' : ¬ (2000 : Int) < (S.size : Int) := by omega
        have h4 : (2000 : Int) < (T.size : Int) := by
          rcases hE with h | h | h | h
          · exact absurd rfl h
          · exact absurd rfl h
          · exact absurd h h3
          · omega
        clear hE hT hS
        go_enter Tryz.func8, Tryz.ntmps8
        go_wp2_with (first
          | (go_at_call_of 9 (Value.string S); refine (CS _ (by first | exact Below.refl _ _ | assumption)).mono ?_; rintro e w1 ⟨⟨ao, n, cap, rfl⟩, b1⟩)
          | (go_at_call_of 9 (Value.string T); refine (CT _ b1).mono ?_; rintro e w2 ⟨⟨ao2, n2, cap2, rfl⟩, b2⟩; have B2 := below_trans b1 b2)
          | (go_at_call 12; refine (N _ _).mono ?_; rintro e w' ⟨rfl, rfl⟩)
          | (go_at_call 13; refine (K _ B2).mono ?_; rintro e w3 ⟨rfl, b3⟩))
        go_ret
        exact ⟨rfl, below_trans B2 b3⟩
    · clear hE hT hS
      go_enter Tryz.func8, Tryz.ntmps8
      go_wp2_with (first
        | (go_at_call_of 9 (Value.string S); refine (CS _ (by first | exact Below.refl _ _ | assumption)).mono ?_; rintro e w1 ⟨⟨ao, n, cap, rfl⟩, b1⟩)
        | (go_at_call_of 9 (Value.string T); refine (CT _ b1).mono ?_; rintro e w2 ⟨⟨ao2, n2, cap2, rfl⟩, b2⟩; have B2 := below_trans b1 b2)
        | (go_at_call 12; refine (N _ _).mono ?_; rintro e w' ⟨rfl, rfl⟩)
        | (go_at_call 13; refine (K _ B2).mono ?_; rintro e w3 ⟨rfl, b3⟩))
      go_ret
      exact ⟨rfl, below_trans B2 b3⟩
  · clear hE hT hS
    go_enter Tryz.func8, Tryz.ntmps8
    go_wp2_with (first
      | (go_at_call_of 9 (Value.string S); refine (CS _ (by first | exact Below.refl _ _ | assumption)).mono ?_; rintro e w1 ⟨⟨ao, n, cap, rfl⟩, b1⟩)
      | (go_at_call_of 9 (Value.string T); refine (CT _ b1).mono ?_; rintro e w2 ⟨⟨ao2, n2, cap2, rfl⟩, b2⟩; have B2 := below_trans b1 b2)
      | (go_at_call 12; refine (N _ _).mono ?_; rintro e w' ⟨rfl, rfl⟩)
      | (go_at_call 13; refine (K _ B2).mono ?_; rintro e w3 ⟨rfl, b3⟩))
    go_ret
    exact ⟨rfl, below_trans B2 b3⟩

set_option maxRecDepth 20000 in
set_option maxHeartbeats 4000000 in
theorem two_ok (S T Z : ByteArray) (x y : List Tok) (w : World) (hS : S.size ≤ 2000) (hT : T.size ≤ 2000) (hxl : x.length ≤ 2000) (hyl : y.length ≤ 2000) (hZ : (S ++ ⟨#[32]⟩) ++ T = Z) (hZ1 : (S ++ ⟨#[32]⟩).size = S.size + 1) (hya : ∀ t ∈ y, t.a ≤ 4096) (K : Know w)
    (CS : ∀ W, Below w.heap.size w W → Calls Tryz.prog 9 #[.string S] W fun e w' => (∃ v, e = .returned (.tuple #[v, .int .i64 0]) ∧ Towns w' W.heap.size v x) ∧ Below W.heap.size W w')
    (CT : ∀ W, Below w.heap.size w W → Calls Tryz.prog 9 #[.string T] W fun e w' => (∃ v, e = .returned (.tuple #[v, .int .i64 0]) ∧ Towns w' W.heap.size v y) ∧ Below W.heap.size W w')
    (CZ : ∀ W, Below w.heap.size w W → Calls Tryz.prog 9 #[.string Z] W fun e w' => (∃ v, e = .returned (.tuple #[v, .int .i64 0]) ∧ Towns w' W.heap.size v (x ++ y.map (tshift (S.size + 1)))) ∧ Below W.heap.size W w') :
    Calls Tryz.prog 8 #[.string S, .string T] w fun e w' => e = .returned (.bool true) ∧ Below w.heap.size w w' := by
  have N := fun n W => num5_any n W
  have hS' : ¬ (2000 : Int) < (S.size : Int) := by omega
  have hT' : ¬ (2000 : Int) < (T.size : Int) := by omega
  have hn : (x ++ y.map (tshift (S.size + 1))).length = x.length + y.length := by simp
  go_enter Tryz.func8, Tryz.ntmps8
  go_wp2_with (first
    | (go_at_call_of 9 (Value.string S); refine (CS _ (by first | exact Below.refl _ _ | assumption)).mono ?_; rintro e w1 ⟨⟨v1, rfl, ho1⟩, b1⟩; obtain ⟨ao, cap, rfl, hw1⟩ := ho1.shape; clear ho1)
    | (go_at_call_of 9 (Value.string T); refine (CT _ b1).mono ?_; rintro e w2 ⟨⟨v2, rfl, ho2⟩, b2⟩; have B2 := below_trans b1 b2; obtain ⟨ao2, cap2, rfl, hw2⟩ := ho2.shape; clear ho2)
    | (go_at_call_of 9 (Value.string Z); refine (CZ _ B2).mono ?_; rintro e w3 ⟨⟨v3, rfl, ho3⟩, b3⟩; have B3 := below_trans B2 b3; obtain ⟨ao3, cap3, rfl, hw3⟩ := ho3.shape; clear ho3; rw [hn])
    | (go_at_call 12; refine (N _ _).mono ?_; rintro e w' ⟨rfl, rfl⟩))
  have hx3 : Tw w3 ao (x.map tin) := (hw1.later b2).later b3
  have hy3 : Tw w3 ao2 (y.map tin) := hw2.later b3
  clear hw1 hw2 b1 b2 b3 B2 CS CT CZ hZ
  go_loopw [11] (fun r wr => ∃ k : Nat, r = .int .i64 (k : Int) ∧ k ≤ x.length + y.length ∧ Below w3.heap.size w3 wr) (fun r _ => x.length + y.length - (intOf r).toNat)
  case atStart => exact ⟨0, rfl, Nat.zero_le _, Below.refl _ _⟩
  case round =>
    obtain ⟨k, rfl, hk, hbw⟩ := hrel
    have sB := hbw.size
    by_cases hlt : k < x.length + y.length
    · have hlt' : (k : Int) < (x.length : Int) + (y.length : Int) := by omega
      have hlt2 : (k : Int) < ((x.length + y.length : Nat) : Int) := by omega
      obtain ⟨b3, off3, rfl, hc3⟩ := hw3 (by rw [List.length_map, hn]; omega)
      have h3 := (hc3 k (by rw [List.length_map, hn]; exact hlt)).later hbw
      rw [List.getElem_map] at h3
      have hb3 := h3.lt
      by_cases hx : k < x.length
      · as_aux_lemma =>
          have hx' : (k : Int) < (x.length : Int) := by omega
          obtain ⟨b, off, rfl, hc⟩ := hx3 (by rw [List.length_map]; omega)
          have h1 := (hc k (by rw [List.length_map]; exact hx)).later hbw
          have hb := h1.lt
          rw [List.getElem_map] at h1
          rw [List.getElem_append_left hx] at h3
          obtain ⟨t, ht⟩ : ∃ t, t = x[k] := ⟨_, rfl⟩
          rw [← ht] at h1 h3
          obtain ⟨tk, tt, tvv, ta⟩ := t
          obtain ⟨c0, c1, c2, c3, c4, c5, c6⟩ := h1
          obtain ⟨d0, d1, d2, d3, d4, d5, d6⟩ := h3
          have heq : ∀ W, (Op.equalIn 10000 38 (.agg #[.int .i64 (tk : Int), .string ⟨tt.toArray⟩, .int .i64 tvv.k, .int .i64 tvv.n, .int .i64 tvv.m, .string ⟨tvv.b.toArray⟩, .int .i64 (ta : Int)]) (.agg #[.int .i64 (tk : Int), .string ⟨tt.toArray⟩, .int .i64 tvv.k, .int .i64 tvv.n, .int .i64 tvv.m, .string ⟨tvv.b.toArray⟩, .int .i64 (ta : Int)])).run Tryz.prog W = .ok true W := fun W => by
            have := eqTi (tin ⟨tk, tt, tvv, ta⟩) (tin ⟨tk, tt, tvv, ta⟩) W
            rw [show sameT (tin ⟨tk, tt, tvv, ta⟩) (tin ⟨tk, tt, tvv, ta⟩) = true by simp [sameT, sameV]] at this
            exact this
          clear hx3 hy3 hw3 hc hc3 ht hya
          go_wp2
          go_region
          all_goals go_wp2
          all_goals exact ⟨⟨k + 1, by first | rfl | rw [cast1] | (simp; done) | (simp; omega), by omega, by first | exact (hbw.alloc sB _).drew | exact hbw.alloc sB _⟩, by simp [intOf] <;> omega⟩
      · as_aux_lemma =>
          obtain ⟨j, rfl⟩ : ∃ j, k = x.length + j := ⟨k - x.length, by omega⟩
          have hx' : ¬ ((x.length + j : Nat) : Int) < (x.length : Int) := by omega
          have hx'' : ¬ (x.length : Int) + (j : Int) < (x.length : Int) := by omega
          have hj : j < y.length := by omega
          obtain ⟨b, off, rfl, hc⟩ := hy3 (by rw [List.length_map]; omega)
          have h1 := (hc j (by rw [List.length_map]; exact hj)).later hbw
          have hb := h1.lt
          rw [List.getElem_map] at h1
          rw [List.getElem_append_right (by omega), List.getElem_map] at h3
          simp only [Nat.add_sub_cancel_left] at h3
          obtain ⟨t, ht⟩ : ∃ t, t = y[j] := ⟨_, rfl⟩
          have hta := hya y[j] (List.getElem_mem _)
          rw [← ht] at h1 h3 hta
          obtain ⟨tk, tt, tvv, ta⟩ := t
          have e3 : tin (tshift (S.size + 1) ⟨tk, tt, tvv, ta⟩) = ⟨tk, tt, tvv, (ta : Int) + (S.size : Int) + 1⟩ := by
            show (⟨(tk : Int), tt, tvv, ((ta + (S.size + 1) : Nat) : Int)⟩ : Ti) = _
            rw [show ((ta + (S.size + 1) : Nat) : Int) = (ta : Int) + (S.size : Int) + 1 by omega]
          rw [e3] at h3
          obtain ⟨c0, c1, c2, c3, c4, c5, c6⟩ := h1
          obtain ⟨d0, d1, d2, d3, d4, d5, d6⟩ := h3
          have hta' : (ta : Int) ≤ 4096 := by simp at hta; omega
          have g0 : (0 : Int) ≤ (x.length : Int) + (j : Int) - (x.length : Int) := by omega
          have g1 : (x.length : Int) + (j : Int) - (x.length : Int) = (j : Int) := by omega
          have g2 : (j : Int) < (y.length : Int) := by omega
          have heq : ∀ W, (Op.equalIn 10000 38 (.agg #[.int .i64 (tk : Int), .string ⟨tt.toArray⟩, .int .i64 tvv.k, .int .i64 tvv.n, .int .i64 tvv.m, .string ⟨tvv.b.toArray⟩, .int .i64 ((ta : Int) + (S.size : Int) + 1)]) (.agg #[.int .i64 (tk : Int), .string ⟨tt.toArray⟩, .int .i64 tvv.k, .int .i64 tvv.n, .int .i64 tvv.m, .string ⟨tvv.b.toArray⟩, .int .i64 ((ta : Int) + (S.size : Int) + 1)])).run Tryz.prog W = .ok true W := fun W => by
            have := eqTi ⟨tk, tt, tvv, (ta : Int) + (S.size : Int) + 1⟩ ⟨tk, tt, tvv, (ta : Int) + (S.size : Int) + 1⟩ W
            rw [show sameT ⟨tk, tt, tvv, (ta : Int) + (S.size : Int) + 1⟩ ⟨tk, tt, tvv, (ta : Int) + (S.size : Int) + 1⟩ = true by simp [sameT, sameV]] at this
            exact this
          clear hx3 hy3 hw3 hc hc3 ht hya hta
          go_wp2
          go_region
          all_goals go_wp2
          all_goals exact ⟨⟨x.length + j + 1, by first | rfl | rw [cast1] | (simp; done) | (simp; omega), by omega, by first | exact (hbw.alloc sB _).drew | exact hbw.alloc sB _⟩, by simp [intOf] <;> omega⟩
    · as_aux_lemma =>
        have hlt' : ¬ (k : Int) < ((x.length + y.length : Nat) : Int) := by omega
        clear hx3 hy3 hw3
        have B4 := below_trans B3 hbw
        go_wp2_with (go_at_call 13; refine (K _ B4).mono ?_; rintro e w4 ⟨rfl, b4⟩)
        go_ret
        exact ⟨rfl, below_trans B4 b4⟩

theorem lex_places (l : List UInt8) : ∀ i x, lexL vz dpv l i = some x → ∀ t ∈ x, t.a ≤ i + l.length := by
  induction h : l.length using Nat.strongRecOn generalizing l with
  | ind m ih =>
    intro i x hx
    match x, hx with
    | [], _ => simp
    | t :: x, hx =>
      obtain ⟨_, h2, h3, h4, _, h6⟩ := lex_first hx
      intro u hu
      rcases List.mem_cons.1 hu with rfl | hu
      · rw [h2]; omega
      · have := ih (l.drop (blankN l + t.t.length)).length (by rw [List.length_drop]; omega) _ rfl _ _ h6 u hu
        rw [List.length_drop] at this
        omega

/-- How a call of Split ends. -/
theorem split_ends (l : List UInt8) (w : World) (hT : Tabs w) (hP : Ptab w) :
    (l.length ≤ 4096 ∧ ∃ x, lexL vz dpv l 0 = some x ∧ ∀ W, Below w.heap.size w W → Calls Tryz.prog 9 #[.string ⟨l.toArray⟩] W fun e w' => (∃ v, e = .returned (.tuple #[v, .int .i64 0]) ∧ Towns w' W.heap.size v x) ∧ Below W.heap.size W w') ∨
    ((4096 < l.length ∨ lexL vz dpv l 0 = none) ∧ ∃ E : Int, ¬ E = 0 ∧ (E = 30 ∧ l.length ≤ 4096 ∨ E = 6 ∧ 4096 < l.length) ∧ ∀ W, Below w.heap.size w W → Calls Tryz.prog 9 #[.string ⟨l.toArray⟩] W fun e w' => e = .returned (.tuple #[.slice none 0 0, .int .i64 E]) ∧ Below W.heap.size W w') := by
  by_cases hl : l.length ≤ 4096
  · have C : ∀ W, Below w.heap.size w W → _ := fun W h => split_any l W hl (hT.later h) (hP.later h)
    cases hx : lexL vz dpv l 0 with
    | none =>
      rw [hx] at C
      exact .inr ⟨.inr rfl, 30, by decide, .inl ⟨rfl, hl⟩, C⟩
    | some x =>
      rw [hx] at C
      exact .inl ⟨hl, x, rfl, C⟩
  · refine .inr ⟨.inl (by omega), 6, by decide, .inr ⟨rfl, by omega⟩, fun W _ => (split_big ⟨l.toArray⟩ W (by show 4096 < l.length; omega)).mono ?_⟩
    rintro e w' ⟨rfl, rfl⟩
    exact ⟨rfl, Below.refl _ _⟩

theorem two_any (l m : List UInt8) (w : World) (hl : l.length ≤ 140737488351232) (hm : m.length ≤ 140737488351232) (hT : Tabs w) (hP : Ptab w) :
    Calls Tryz.prog 8 #[.string ⟨l.toArray⟩, .string ⟨m.toArray⟩] w fun e w' => e = .returned (.bool true) ∧ Below w.heap.size w w' := by
  have K := know_of hT hP
  have some2 : ∀ {S : ByteArray} {E : Int}, (∀ W, Below w.heap.size w W → Calls Tryz.prog 9 #[.string S] W fun e w' => e = .returned (.tuple #[.slice none 0 0, .int .i64 E]) ∧ Below W.heap.size W w') → ∀ W, Below w.heap.size w W → Calls Tryz.prog 9 #[.string S] W fun e w' => (∃ ao n cap, e = .returned (.tuple #[.slice ao n cap, .int .i64 E])) ∧ Below W.heap.size W w' := fun C W h => (C W h).mono fun e w' ⟨h1, h2⟩ => ⟨⟨_, _, _, h1⟩, h2⟩
  have some3 : ∀ {S : ByteArray} {x : List Tok}, (∀ W, Below w.heap.size w W → Calls Tryz.prog 9 #[.string S] W fun e w' => (∃ v, e = .returned (.tuple #[v, .int .i64 0]) ∧ Towns w' W.heap.size v x) ∧ Below W.heap.size W w') → ∀ W, Below w.heap.size w W → Calls Tryz.prog 9 #[.string S] W fun e w' => (∃ ao n cap, e = .returned (.tuple #[.slice ao n cap, .int .i64 0])) ∧ Below W.heap.size W w' := fun C W h => (C W h).mono fun e w' ⟨⟨v, h1, ho⟩, h2⟩ => by
    obtain ⟨ao, cap, rfl, _⟩ := ho.shape
    exact ⟨⟨_, _, _, h1⟩, h2⟩
  rcases split_ends l w hT hP with ⟨_, x, hx, CS⟩ | ⟨_, E, hE, _, CS⟩
  · rcases split_ends m w hT hP with ⟨_, y, hy, CT⟩ | ⟨_, F, hF, _, CT⟩
    · by_cases h1 : l.length ≤ 2000
      · by_cases h2 : m.length ≤ 2000
        · have hz : lexL vz dpv (l ++ 32 :: m) 0 = some (x ++ y.map (tshift (l.length + 1))) := by
            rw [lex_two m 32 rfl l 0 x hx, Nat.zero_add, show l.length + 1 = 0 + (l.length + 1) by omega, lex_at, hy]
            simp
          rcases split_ends (l ++ 32 :: m) w hT hP with ⟨_, z, hz', CZ⟩ | ⟨h, _⟩
          · rw [hz] at hz'
            obtain rfl := Option.some.inj hz'
            refine two_ok _ _ _ x y w h1 h2 (Nat.le_trans (lex_count l 0 x hx) h1) (Nat.le_trans (lex_count m 0 y hy) h2) ?_ ?_ (fun t ht => by have := lex_places m 0 y hy t ht; omega) K CS CT CZ
            · rw [show (ByteArray.mk #[32]) = ⟨[32].toArray⟩ from rfl, ba_app, ba_app]
              simp
            · have e1 := ba_app l [32]
              show ((ByteArray.mk l.toArray) ++ ⟨[32].toArray⟩).size = l.length + 1
              rw [e1]
              show (l ++ [32]).length = _
              simp
          · rcases h with h | h
            · simp at h; omega
            · rw [hz] at h; cases h
        · exact two_err _ _ 0 0 w hl hm (.inr (.inr (.inr (by show 2000 < m.length; omega)))) K (some3 CS) (some3 CT)
      · exact two_err _ _ 0 0 w hl hm (.inr (.inr (.inl (by show 2000 < l.length; omega)))) K (some3 CS) (some3 CT)
    · exact two_err _ _ 0 F w hl hm (.inr (.inl hF)) K (some3 CS) (some2 CT)
  · rcases split_ends m w hT hP with ⟨_, y, hy, CT⟩ | ⟨_, F, hF, _, CT⟩
    · exact two_err _ _ E 0 w hl hm (.inl hE) K (some2 CS) (some3 CT)
    · exact two_err _ _ E F w hl hm (.inl hE) K (some2 CS) (some2 CT)

theorem two_anyB (S T : ByteArray) (w : World) (hl : S.size ≤ 140737488351232) (hm : T.size ≤ 140737488351232) (hT : Tabs w) (hP : Ptab w) :
    Calls Tryz.prog 8 #[.string S, .string T] w fun e w' => e = .returned (.bool true) ∧ Below w.heap.size w w' := by
  obtain ⟨⟨l⟩⟩ := S
  obtain ⟨⟨m⟩⟩ := T
  exact two_any l m w hl hm hT hP
end Go.Proofs.YtlfeficldhlbaaaGreatDoor
