/-
  The walk of LexerAll: for every text.
-/
import Derived.Test.YtlfeficldhlbaaaGreatDoorLKnow
namespace Go.Proofs.YtlfeficldhlbaaaGreatDoor
open Go.RowKit Go.Shelf
attribute [local go_sem] cell?_more frozen?_more setCell_more more_lt more_more more_drew more_drewN setCell_drewN alloc_drewN

abbrev Know (w : World) : Prop := ∀ W, Below w.heap.size w W → Calls Tryz.prog 13 #[] W fun e w' => e = .returned (.bool true) ∧ Below W.heap.size W w'
theorem know_of {w : World} (hT : Tabs w) (hP : Ptab w) : Know w := fun W h => knows5_any W (hT.later h) (hP.later h)

theorem all_err (S : ByteArray) (E : Int) (w : World) (hE : (E == 0) = false) (K : Know w)
    (C : Calls Tryz.prog 9 #[.string S] w fun e w' => e = .returned (.tuple #[.slice none 0 0, .int .i64 E]) ∧ Below w.heap.size w w') :
    Calls Tryz.prog 6 #[.string S] w fun e w' => e = .returned (.bool true) ∧ Below w.heap.size w w' := by
  have N := fun W => num5_any E W
  go_enter Tryz.func6, Tryz.ntmps6
  go_wp2_with (first
    | (go_at_call 9; refine C.mono ?_; rintro e w1 ⟨rfl, b1⟩)
    | (go_at_call 12; refine (N _).mono ?_; rintro e w' ⟨rfl, rfl⟩)
    | (go_at_call 13; refine (K _ b1).mono ?_; rintro e w2 ⟨rfl, b2⟩))
  go_ret
  exact ⟨rfl, below_trans b1 b2⟩

theorem lex_count (l : List UInt8) : ∀ i x, lexL vz dpv l i = some x → x.length ≤ l.length := by
  induction h : l.length using Nat.strongRecOn generalizing l with
  | ind m ih =>
    intro i x hx
    match x, hx with
    | [], _ => simp
    | t :: x, hx =>
      obtain ⟨_, _, h3, h4, _, h6⟩ := lex_first hx
      have := ih (l.drop (blankN l + t.t.length)).length (by rw [List.length_drop]; omega) _ rfl _ _ h6
      rw [List.length_drop] at this
      simp; omega

set_option maxRecDepth 20000 in
set_option maxHeartbeats 4000000 in
theorem all_ok (l : List UInt8) (x : List Tok) (S : ByteArray) (w : World) (hS : S.size = l.length) (hG : ∀ (k : Nat) h, S[k]'h = bat l k) (hX : ∀ a b, S.extract a b = ⟨((l.take b).drop a).toArray⟩) (hl : l.length ≤ 4096) (hx : lexL vz dpv l 0 = some x) (hxl : x.length ≤ 4096) (K : Know w)
    (C : Calls Tryz.prog 9 #[.string S] w fun e w' => (∃ v, e = .returned (.tuple #[v, .int .i64 0]) ∧ Towns w' w.heap.size v x) ∧ Below w.heap.size w w') :
    Calls Tryz.prog 6 #[.string S] w fun e w' => e = .returned (.bool true) ∧ Below w.heap.size w w' := by
  have N := fun W => num5_any 0 W
  go_enter Tryz.func6, Tryz.ntmps6
  go_wp2_with (first
    | (go_at_call 9; refine C.mono ?_; rintro e w1 ⟨⟨v, rfl, ho⟩, b1⟩; obtain ⟨ao, cap, rfl, hw⟩ := ho.shape)
    | (go_at_call 12; refine (N _).mono ?_; rintro e w' ⟨rfl, rfl⟩))
  have hlen : (x.map tin).length = x.length := List.length_map _
  go_loopw [5, 6] (fun r5 r6 wr => ∃ A i : Nat, r5 = .int .i64 (A : Int) ∧ r6 = .int .i64 (i : Int) ∧ A ≤ l.length ∧ i ≤ x.length + 1 ∧ Below w1.heap.size w1 wr ∧ Hid (i ≤ x.length → lexL vz dpv (l.drop A) A = some (x.drop i))) (fun _ r _ => x.length + 2 - (intOf r).toNat)
  case atStart => exact ⟨0, 0, rfl, rfl, Nat.zero_le _, Nat.zero_le _, Below.refl _ _, fun _ => hx⟩
  case round =>
    obtain ⟨A, i, rfl, rfl, hA, hi, hbw, hH⟩ := hrel
    have hxi : (i : Int) ≤ 4097 := by omega
    by_cases hin : i ≤ x.length
    · have hin' : (i : Int) ≤ (x.length : Int) := by omega
      have hL := hH.out hin
      by_cases hlt : i < x.length
      · have hlt' : (i : Int) < (x.length : Int) := by omega
        obtain ⟨t, ht⟩ : ∃ t, t = x[i] := ⟨_, rfl⟩
        rw [List.drop_eq_getElem_cons hlt, ← ht] at hL
        obtain ⟨_, h2, h3, h4, h5, h6⟩ := lex_first hL
        obtain ⟨b, off, rfl, hc⟩ := hw (by rw [hlen]; omega)
        have h7 := (hc i (by rw [hlen]; exact hlt)).later hbw
        rw [List.getElem_map, ← ht] at h7
        obtain ⟨tk, tt, tvv, ta⟩ := t
        simp only at h2 h3 h4 h5 h6
        have hbl := blankN_all (l.drop A)
        rw [List.length_drop] at h4
        rw [List.drop_drop] at h5 h6
        obtain ⟨E, hE⟩ : ∃ E, E = A + blankN (l.drop A) := ⟨_, rfl⟩
        rw [← hE] at h2 h5 h6
        have hEn : E + tt.length ≤ l.length := by omega
        have hAE : A ≤ E := by omega
        have HB : Hid (∀ k, A ≤ k → k < E → isB (bat l k) = true) := by
          show ∀ k, A ≤ k → k < E → isB (bat l k) = true
          intro k k1 k2
          have := hbl (k - A) (by omega) (by rw [List.length_drop]; omega)
          rw [List.getElem_drop] at this
          unfold bat
          have e : A + (k - A) = k := by omega
          simp only [e] at this
          rw [List.getD_eq_getElem?_getD, List.getElem?_eq_getElem (by omega)]
          exact this
        have HX : S.extract E (E + tt.length) = ⟨tt.toArray⟩ := by
          rw [hX, List.drop_take, Nat.add_sub_cancel_left, ← h5]
        have HN : Hid (lexL vz dpv (l.drop (E + tt.length)) (E + tt.length) = some (x.drop (i + 1))) := by
          show _ = _
          rw [show A + (blankN (l.drop A) + tt.length) = E + tt.length by omega] at h6
          exact h6
        obtain ⟨c0, c1, c2, c3, c4, c5, c6⟩ := h7
        simp only [h2] at c6
        have hlb := World.block_lt_of_cell? wr _ c0
        have g1 : ¬ (E : Int) < (A : Int) := by omega
        have g2 : ¬ (l.length : Int) < (E : Int) := by omega
        have hst : (ByteArray.mk tt.toArray).size = tt.length := rfl
        clear hbl h4 h5 h6 hL hH hE hc h2 ht C hx hX ho hw c0 c2 c3 c4 c5
        go_wp2
        go_loopw [8] (fun r8 wi => ∃ k : Nat, r8 = .int .i64 (k : Int) ∧ A ≤ k ∧ k ≤ E ∧ wr = wi) (fun r _ => E - (intOf r).toNat)
        case atStart => exact ⟨A, rfl, Nat.le_refl _, hAE, rfl⟩
        case round =>
          obtain ⟨k, rfl, k1, k2, rfl⟩ := hrel
          by_cases hkE : k < E
          · have hkE' : (k : Int) < (E : Int) := by omega
            have j0 : (0 : Int) ≤ (k : Int) := by omega
            have j1 : (k : Int) < (l.length : Int) := by omega
            have hgk := hG k
            have hb3 := HB.out k k1 hkE
            obtain ⟨c, hc⟩ : ∃ c, c = bat l k := ⟨_, rfl⟩
            rw [← hc] at hgk hb3
            have hcc : c = 32 ∨ c = 9 ∨ c = 10 := by
              unfold isB at hb3
              simp at hb3
              rcases hb3 with h | h | h
              · exact .inl (UInt8.toNat_inj.1 h)
              · exact .inr (.inl (UInt8.toNat_inj.1 h))
              · exact .inr (.inr (UInt8.toNat_inj.1 h))
            clear hb3 hc HB hG K
            rcases hcc with hcc | hcc | hcc
            · as_aux_lemma =>
              have p32 : (c.toNat : Int) = 32 := by rw [hcc]; rfl
              clear hcc
              go_wp2
              exact ⟨⟨k + 1, by rw [cast1], by omega, by omega, trivial⟩, by simp [intOf]; omega⟩
            · as_aux_lemma =>
              have p32 : ¬ (c.toNat : Int) = 32 := by rw [hcc]; decide
              have p9 : (c.toNat : Int) = 9 := by rw [hcc]; rfl
              clear hcc
              go_wp2
              exact ⟨⟨k + 1, by rw [cast1], by omega, by omega, trivial⟩, by simp [intOf]; omega⟩
            · as_aux_lemma =>
              have p32 : ¬ (c.toNat : Int) = 32 := by rw [hcc]; decide
              have p9 : ¬ (c.toNat : Int) = 9 := by rw [hcc]; decide
              have p10 : (c.toNat : Int) = 10 := by rw [hcc]; rfl
              clear hcc
              go_wp2
              exact ⟨⟨k + 1, by rw [cast1], by omega, by omega, trivial⟩, by simp [intOf]; omega⟩
          · as_aux_lemma =>
            have hkE' : ¬ (k : Int) < (E : Int) := by omega
            have m0 : (0 : Int) ≤ (E : Int) := by omega
            have m1 : ¬ (tt.length : Int) = 0 := by omega
            have m1' : ((tt.length : Int) == 0) = false := by rw [beq_eq_false_iff_ne]; exact m1
            have m2' : decide ((l.length : Int) - (E : Int) < (tt.length : Int)) = false := by simp; omega
            have m2 : ¬ (l.length : Int) - (E : Int) < (tt.length : Int) := by omega
            have m3 : (E : Int) ≤ (E : Int) + (tt.length : Int) := by omega
            have m4 : (E : Int) + (tt.length : Int) ≤ (l.length : Int) := by omega
            have m5 : ((E : Int) + (tt.length : Int)).toNat = E + tt.length := by omega
            clear HB hG
            go_wp2
            go_region
            all_goals go_wp2
            all_goals exact ⟨⟨E + tt.length, i + 1, by rw [show ((E + tt.length : Nat) : Int) = (E : Int) + (tt.length : Int) by omega], by rw [cast1], by omega, by omega, hbw.drew, fun _ => HN.out⟩, by simp [intOf]; omega⟩
      · have hlt' : ¬ (i : Int) < (x.length : Int) := by omega
        have hie : i = x.length := by omega
        rw [hie, List.drop_length] at hL
        have hbn := lex_none hL
        have hbl := blankN_all (l.drop A)
        obtain ⟨E, hE⟩ : ∃ E, E = l.length := ⟨_, rfl⟩
        have hAE : A ≤ E := by omega
        have HB : Hid (∀ k, A ≤ k → k < E → isB (bat l k) = true) := by
          show ∀ k, A ≤ k → k < E → isB (bat l k) = true
          intro k k1 k2
          have := hbl (k - A) (by rw [hbn, List.length_drop]; omega) (by rw [List.length_drop]; omega)
          rw [List.getElem_drop] at this
          unfold bat
          have e : A + (k - A) = k := by omega
          simp only [e] at this
          rw [List.getD_eq_getElem?_getD, List.getElem?_eq_getElem (by omega)]
          exact this
        have g1 : ¬ (l.length : Int) < (A : Int) := by omega
        clear hbl hbn hL hH C hx hX ho hw hie
        rw [← hE] at hS hl g1 hA
        have HE : Hid (E = l.length) := hE
        clear hE
        go_wp2
        go_loopw [8] (fun r8 wi => ∃ k : Nat, r8 = .int .i64 (k : Int) ∧ A ≤ k ∧ k ≤ E ∧ wr = wi) (fun r _ => E - (intOf r).toNat)
        case atStart => exact ⟨A, rfl, Nat.le_refl _, hAE, rfl⟩
        case round =>
          obtain ⟨k, rfl, k1, k2, rfl⟩ := hrel
          by_cases hkE : k < E
          · have hkE' : (k : Int) < (E : Int) := by omega
            have j0 : (0 : Int) ≤ (k : Int) := by omega
            have j1 : (k : Int) < (E : Int) := by omega
            have hgk := hG k
            have hb3 := HB.out k k1 hkE
            obtain ⟨c, hc⟩ : ∃ c, c = bat l k := ⟨_, rfl⟩
            rw [← hc] at hgk hb3
            have hcc : c = 32 ∨ c = 9 ∨ c = 10 := by
              unfold isB at hb3
              simp at hb3
              rcases hb3 with h | h | h
              · exact .inl (UInt8.toNat_inj.1 h)
              · exact .inr (.inl (UInt8.toNat_inj.1 h))
              · exact .inr (.inr (UInt8.toNat_inj.1 h))
            clear hb3 hc HB hG K HE
            rcases hcc with hcc | hcc | hcc
            · as_aux_lemma =>
              have p32 : (c.toNat : Int) = 32 := by rw [hcc]; rfl
              clear hcc
              go_wp2
              exact ⟨⟨k + 1, by rw [cast1], by omega, by omega, trivial⟩, by simp [intOf]; omega⟩
            · as_aux_lemma =>
              have p32 : ¬ (c.toNat : Int) = 32 := by rw [hcc]; decide
              have p9 : (c.toNat : Int) = 9 := by rw [hcc]; rfl
              clear hcc
              go_wp2
              exact ⟨⟨k + 1, by rw [cast1], by omega, by omega, trivial⟩, by simp [intOf]; omega⟩
            · as_aux_lemma =>
              have p32 : ¬ (c.toNat : Int) = 32 := by rw [hcc]; decide
              have p9 : ¬ (c.toNat : Int) = 9 := by rw [hcc]; decide
              have p10 : (c.toNat : Int) = 10 := by rw [hcc]; rfl
              clear hcc
              go_wp2
              exact ⟨⟨k + 1, by rw [cast1], by omega, by omega, trivial⟩, by simp [intOf]; omega⟩
          · as_aux_lemma =>
            have hkE' : ¬ (k : Int) < (E : Int) := by omega
            clear HB hG
            go_wp2
            exact ⟨⟨A, i + 1, rfl, by rw [cast1], by have := HE.out; omega, by omega, hbw, fun h => by omega⟩, by simp [intOf]; omega⟩
    · have hin' : ¬ (i : Int) ≤ (x.length : Int) := by omega
      clear hH hG hX hx C hw ho
      have b3 := below_trans b1 hbw
      go_wp2_with (go_at_call 13; refine (K _ b3).mono ?_; rintro e w2 ⟨rfl, b2⟩)
      go_ret
      exact ⟨rfl, below_trans b3 b2⟩

theorem all_any (l : List UInt8) (w : World) (hT : Tabs w) (hP : Ptab w) :
    Calls Tryz.prog 6 #[.string ⟨l.toArray⟩] w fun e w' => e = .returned (.bool true) ∧ Below w.heap.size w w' := by
  have K := know_of hT hP
  by_cases hl : l.length ≤ 4096
  · have C := split_any l w hl hT hP
    cases hx : lexL vz dpv l 0 with
    | none =>
      rw [hx] at C
      exact all_err _ 30 w (by decide) K C
    | some x =>
      rw [hx] at C
      refine all_ok l x _ w rfl (fun k h => ?_) (fun a b => ba_extract l a b) hl hx (Nat.le_trans (lex_count l 0 x hx) hl) K C
      have h' : k < l.length := h
      show l[k] = _
      unfold bat
      simp [List.getD, h']
  · refine all_err _ 6 w (by decide) K ((split_big ⟨l.toArray⟩ w (by show 4096 < l.length; omega)).mono ?_)
    rintro e w' ⟨rfl, rfl⟩
    exact ⟨rfl, Below.refl _ _⟩

theorem all_anyB (S : ByteArray) (w : World) (hT : Tabs w) (hP : Ptab w) :
    Calls Tryz.prog 6 #[.string S] w fun e w' => e = .returned (.bool true) ∧ Below w.heap.size w w' := by
  obtain ⟨⟨l⟩⟩ := S
  exact all_any l w hT hP
end Go.Proofs.YtlfeficldhlbaaaGreatDoor
