/-
  The document's lexer: sign and Word.
-/
import Derived.Test.YtoadhfcjegfanaaGreatDoorLRLex
import Derived.Test.YtoadhfcjegfanaaGreatDoorLRight
import Derived.Test.YtoadhfcjegfanaaGreatDoorMkDStr
namespace Go.Proofs.YtoadhfcjegfanaaGreatDoor
open Go.RowKit

/-- All signs of one byte. -/
def allS : List UInt8 := [40, 41, 44, 46, 59, 42, 43, 45, 47, 37, 61, 60, 62]
/-- How long the sign is that a text begins with. -/
def sgN (l : List UInt8) : Nat := if l.take 2 = [60, 62] ∨ l.take 2 = [60, 61] ∨ l.take 2 = [62, 61] then 2 else if l.head?.any (allS.contains ·) then 1 else 0

set_option maxRecDepth 20000 in
set_option maxHeartbeats 4000000 in
theorem rsign_loop (S : ByteArray) (c : UInt8) (w : World) (hs0 : (0 : Int) < (S.size : Int)) (hg : ∀ h, S[0]'h = c)
    (hc : ¬ (2 : Int) ≤ (S.size : Int) ∨ (((S.extract 0 2).toList == [60, 62]) = false ∧ ((S.extract 0 2).toList == [60, 61]) = false ∧ ((S.extract 0 2).toList == [62, 61]) = false)) (R : Nat) (hR : R = if allS.contains c then 1 else 0) :
    Calls Tryz.prog 75 #[.string S] w fun e w' => e = .returned (.int .i64 (R : Int)) ∧ Grew w w' := by
  have HR : Hid (R = if allS.contains c then 1 else 0) := hR
  clear hR
  by_cases h2 : (2 : Int) ≤ (S.size : Int)
  · have hc' : ((S.extract 0 2).toList == [60, 62]) = false ∧ ((S.extract 0 2).toList == [60, 61]) = false ∧ ((S.extract 0 2).toList == [62, 61]) = false := by
      rcases hc with h | h
      · exact absurd h2 h
      · exact h
    obtain ⟨x1, x2, x3⟩ := hc'
    clear hc
    go_enter Tryz.func75, Tryz.ntmps75
    go_wp2
    go_loopw [4] (fun r4 wr => ∃ k : Nat, r4 = .int .i64 (k : Int) ∧ k ≤ 13 ∧ Grew w wr ∧ Hid (∀ j, j < k → bat allS j ≠ c)) (fun r _ => 13 - (intOf r).toNat)
    case atStart => exact ⟨0, rfl, by omega, Grew.refl _, fun j h => by omega⟩
    case round =>
      obtain ⟨k, rfl, hk, hgw, hH⟩ := hrel
      by_cases hlt : k < 13
      · have hlt' : (k : Int) < 13 := by omega
        have j0 : (0 : Int) ≤ (k : Int) := by omega
        have hA : ∀ h, (ByteArray.mk #[40, 41, 44, 46, 59, 42, 43, 45, 47, 37, 61, 60, 62])[k]'h = bat allS k := fun h => bat_get allS k h
        have hsz : (ByteArray.mk #[40, 41, 44, 46, 59, 42, 43, 45, 47, 37, 61, 60, 62]).size = 13 := rfl
        have hmem : bat allS k ∈ allS := by
          unfold bat
          rw [List.getD_eq_getElem?_getD, List.getElem?_eq_getElem (show k < allS.length from hlt)]
          exact List.getElem_mem _
        have hq := eqInt c (bat allS k)
        obtain ⟨d, hd⟩ : ∃ d, d = bat allS k := ⟨_, rfl⟩
        rw [← hd] at hA hmem hq
        generalize ByteArray.mk #[40, 41, 44, 46, 59, 42, 43, 45, 47, 37, 61, 60, 62] = A at *
        by_cases hcd : c = d
        · have hq' : ((c.toNat : Int) == (d.toNat : Int)) = true := by rw [decide_eq_true hcd] at hq; exact hq
          have hH' : Hid (R = 1) := by
            show R = _
            rw [HR.out, if_pos (by rw [hcd]; simpa using hmem)]
          clear hH HR hq hcd hd hmem
          go_wp2
          go_region
          all_goals go_wp2
          all_goals go_ret
          all_goals exact ⟨by rw [hH'.out]; rfl, by first | exact hgw.drew | exact hgw⟩
        · have hq' : ((c.toNat : Int) == (d.toNat : Int)) = false := by rw [decide_eq_false hcd] at hq; exact hq
          have hH' : Hid (∀ j, j < k + 1 → bat allS j ≠ c) := by
            show ∀ j, j < k + 1 → bat allS j ≠ c
            intro j hj
            by_cases h : j < k
            · exact hH.out j h
            · have : j = k := by omega
              subst this
              rw [← hd]; exact fun h => hcd h.symm
          clear hH HR hq hcd hd hmem
          go_wp2
          go_region
          all_goals go_wp2
          all_goals exact ⟨⟨k + 1, by rw [cast1], by omega, by first | exact hgw.drew | exact hgw, hH'⟩, by simp [intOf] <;> omega⟩
      · have hlt' : ¬ (k : Int) < 13 := by omega
        have hH' : Hid (R = 0) := by
          show R = _
          rw [HR.out, if_neg]
          intro h
          have hm : c ∈ allS := by simpa using h
          obtain ⟨j, hj, he⟩ := List.getElem_of_mem hm
          refine hH.out j (by have : allS.length = 13 := rfl; omega) ?_
          unfold bat
          rw [List.getD_eq_getElem?_getD, List.getElem?_eq_getElem hj]
          exact he
        clear hH HR
        go_wp2
        go_ret
        exact ⟨by rw [hH'.out]; rfl, hgw⟩
  · clear hc
    go_enter Tryz.func75, Tryz.ntmps75
    go_wp2
    go_loopw [4] (fun r4 wr => ∃ k : Nat, r4 = .int .i64 (k : Int) ∧ k ≤ 13 ∧ Grew w wr ∧ Hid (∀ j, j < k → bat allS j ≠ c)) (fun r _ => 13 - (intOf r).toNat)
    case atStart => exact ⟨0, rfl, by omega, Grew.refl _, fun j h => by omega⟩
    case round =>
      obtain ⟨k, rfl, hk, hgw, hH⟩ := hrel
      by_cases hlt : k < 13
      · have hlt' : (k : Int) < 13 := by omega
        have j0 : (0 : Int) ≤ (k : Int) := by omega
        have hA : ∀ h, (ByteArray.mk #[40, 41, 44, 46, 59, 42, 43, 45, 47, 37, 61, 60, 62])[k]'h = bat allS k := fun h => bat_get allS k h
        have hsz : (ByteArray.mk #[40, 41, 44, 46, 59, 42, 43, 45, 47, 37, 61, 60, 62]).size = 13 := rfl
        have hmem : bat allS k ∈ allS := by
          unfold bat
          rw [List.getD_eq_getElem?_getD, List.getElem?_eq_getElem (show k < allS.length from hlt)]
          exact List.getElem_mem _
        have hq := eqInt c (bat allS k)
        obtain ⟨d, hd⟩ : ∃ d, d = bat allS k := ⟨_, rfl⟩
        rw [← hd] at hA hmem hq
        generalize ByteArray.mk #[40, 41, 44, 46, 59, 42, 43, 45, 47, 37, 61, 60, 62] = A at *
        by_cases hcd : c = d
        · have hq' : ((c.toNat : Int) == (d.toNat : Int)) = true := by rw [decide_eq_true hcd] at hq; exact hq
          have hH' : Hid (R = 1) := by
            show R = _
            rw [HR.out, if_pos (by rw [hcd]; simpa using hmem)]
          clear hH HR hq hcd hd hmem
          go_wp2
          go_region
          all_goals go_wp2
          all_goals go_ret
          all_goals exact ⟨by rw [hH'.out]; rfl, by first | exact hgw.drew | exact hgw⟩
        · have hq' : ((c.toNat : Int) == (d.toNat : Int)) = false := by rw [decide_eq_false hcd] at hq; exact hq
          have hH' : Hid (∀ j, j < k + 1 → bat allS j ≠ c) := by
            show ∀ j, j < k + 1 → bat allS j ≠ c
            intro j hj
            by_cases h : j < k
            · exact hH.out j h
            · have : j = k := by omega
              subst this
              rw [← hd]; exact fun h => hcd h.symm
          clear hH HR hq hcd hd hmem
          go_wp2
          go_region
          all_goals go_wp2
          all_goals exact ⟨⟨k + 1, by rw [cast1], by omega, by first | exact hgw.drew | exact hgw, hH'⟩, by simp [intOf] <;> omega⟩
      · have hlt' : ¬ (k : Int) < 13 := by omega
        have hH' : Hid (R = 0) := by
          show R = _
          rw [HR.out, if_neg]
          intro h
          have hm : c ∈ allS := by simpa using h
          obtain ⟨j, hj, he⟩ := List.getElem_of_mem hm
          refine hH.out j (by have : allS.length = 13 := rfl; omega) ?_
          unfold bat
          rw [List.getD_eq_getElem?_getD, List.getElem?_eq_getElem hj]
          exact he
        clear hH HR
        go_wp2
        go_ret
        exact ⟨by rw [hH'.out]; rfl, hgw⟩

set_option maxRecDepth 20000 in
theorem rsign_two1 (S : ByteArray) (w : World) (h2 : (2 : Int) ≤ (S.size : Int)) (hx : ((S.extract 0 2).toList == [60, 62]) = true) :
    Calls Tryz.prog 75 #[.string S] w fun e w' => e = .returned (.int .i64 2) ∧ Grew w w' := by
  go_enter Tryz.func75, Tryz.ntmps75
  go_wp2
  first | (go_region; all_goals go_wp2) | skip
  all_goals go_ret
  all_goals exact ⟨rfl, by first | exact Grew.refl _ | exact (Grew.refl _).drew⟩

set_option maxRecDepth 20000 in
theorem rsign_two2 (S : ByteArray) (w : World) (h2 : (2 : Int) ≤ (S.size : Int)) (hx0 : ((S.extract 0 2).toList == [60, 62]) = false) (hx : ((S.extract 0 2).toList == [60, 61]) = true) :
    Calls Tryz.prog 75 #[.string S] w fun e w' => e = .returned (.int .i64 2) ∧ Grew w w' := by
  go_enter Tryz.func75, Tryz.ntmps75
  go_wp2
  first | (go_region; all_goals go_wp2) | skip
  all_goals go_ret
  all_goals exact ⟨rfl, by first | exact Grew.refl _ | exact (Grew.refl _).drew⟩

set_option maxRecDepth 20000 in
theorem rsign_two3 (S : ByteArray) (w : World) (h2 : (2 : Int) ≤ (S.size : Int)) (hx0 : ((S.extract 0 2).toList == [60, 62]) = false) (hx1 : ((S.extract 0 2).toList == [60, 61]) = false) (hx : ((S.extract 0 2).toList == [62, 61]) = true) :
    Calls Tryz.prog 75 #[.string S] w fun e w' => e = .returned (.int .i64 2) ∧ Grew w w' := by
  go_enter Tryz.func75, Tryz.ntmps75
  go_wp2
  first | (go_region; all_goals go_wp2) | skip
  all_goals go_ret
  all_goals exact ⟨rfl, by first | exact Grew.refl _ | exact (Grew.refl _).drew⟩

theorem all_isS (c : UInt8) : allS.contains c = (isS c || (c == 60 || c == 62)) := by
  have h : ∀ n : Nat, n < 256 → allS.contains n.toUInt8 = (isS n.toUInt8 || (n.toUInt8 == 60 || n.toUInt8 == 62)) := by decide +kernel
  have := h c.toNat c.toNat_lt
  simpa using this

/-- The length of the sign that a text begins with; 0: none. -/
theorem rsign_any (c : UInt8) (m : List UInt8) (w : World) (hL : isL c = false) (hD : isD c = false) (hq : c ≠ 39) :
    Calls Tryz.prog 75 #[.string ⟨(c :: m).toArray⟩] w fun e w' => e = .returned (.int .i64 ((if (lxt (c :: m)).1 = 2 then (lxt (c :: m)).2 else 0 : Nat) : Int)) ∧ Grew w w' := by
  have hs0 : (0 : Int) < ((ByteArray.mk (c :: m).toArray).size : Int) := by show (0 : Int) < ((m.length + 1 : Nat) : Int); omega
  have hg : ∀ h, (ByteArray.mk (c :: m).toArray)[0]'h = c := fun h => rfl
  have hlx : lxt (c :: m) = (if c = 60 then (2, if m.head? = some 62 ∨ m.head? = some 61 then 2 else 1) else if c = 62 then (2, if m.head? = some 61 then 2 else 1) else if isS c then (2, 1) else (0, 0)) := by
    rw [lxt_cons, if_neg (by simp [hL]), if_neg (by simp [hD]), if_neg hq]
  have hone : ∀ R : Nat, R = (if allS.contains c then 1 else 0) → ((if (lxt (c :: m)).1 = 2 then (lxt (c :: m)).2 else 0 : Nat) ≠ 2) → (if (lxt (c :: m)).1 = 2 then (lxt (c :: m)).2 else 0 : Nat) = R := by
    intro R hR
    rw [hlx, hR, all_isS]
    by_cases h0 : c = 60
    · subst h0
      rw [if_pos rfl]
      by_cases hh : m.head? = some 62 ∨ m.head? = some 61
      · simp [hh]
      · simp [hh]
    · rw [if_neg h0]
      by_cases h2 : c = 62
      · subst h2
        rw [if_pos rfl]
        by_cases hh : m.head? = some 61
        · simp [hh]
        · simp [hh]
      · rw [if_neg h2]
        by_cases hs : isS c = true
        · simp [hs]
        · simp [hs, h0, h2]
  match m, hs0, hg, hlx, hone with
  | [], hs0, hg, hlx, hone =>
    have hne : (if (lxt [c]).1 = 2 then (lxt [c]).2 else 0 : Nat) ≠ 2 := by
      rw [hlx]
      by_cases h0 : c = 60
      · simp [h0]
      · by_cases h2 : c = 62
        · simp [h2]
        · by_cases hs : isS c = true <;> simp [h0, h2, hs]
    rw [hone _ rfl hne]
    exact rsign_loop _ c w hs0 hg (.inl (by show ¬ (2 : Int) ≤ ((1 : Nat) : Int); omega)) _ rfl
  | d :: m, hs0, hg, hlx, hone =>
    have h2 : (2 : Int) ≤ ((ByteArray.mk (c :: d :: m).toArray).size : Int) := by show (2 : Int) ≤ ((m.length + 1 + 1 : Nat) : Int); omega
    have hx : ∀ a b : UInt8, (((ByteArray.mk (c :: d :: m).toArray).extract 0 2).toList == [a, b]) = (decide (c = a) && decide (d = b)) := fun a b => by
      rw [ba_extract, ByteArray.toList_eq]
      show ([c, d] == [a, b]) = _
      by_cases h1 : c = a <;> by_cases h2 : d = b <;> simp [h1, h2]
    by_cases h1 : c = 60 ∧ d = 62
    · have e : (if (lxt (c :: d :: m)).1 = 2 then (lxt (c :: d :: m)).2 else 0 : Nat) = 2 := by rw [hlx]; simp [h1.1, h1.2]
      rw [e]
      exact rsign_two1 _ w h2 (by rw [hx]; simp [h1])
    by_cases h3 : c = 60 ∧ d = 61
    · have e : (if (lxt (c :: d :: m)).1 = 2 then (lxt (c :: d :: m)).2 else 0 : Nat) = 2 := by rw [hlx]; simp [h3.1, h3.2]
      rw [e]
      exact rsign_two2 _ w h2 (by rw [hx]; simp [h3]) (by rw [hx]; simp [h3])
    by_cases h4 : c = 62 ∧ d = 61
    · have e : (if (lxt (c :: d :: m)).1 = 2 then (lxt (c :: d :: m)).2 else 0 : Nat) = 2 := by rw [hlx]; simp [h4.1, h4.2]
      rw [e]
      exact rsign_two3 _ w h2 (by rw [hx]; simp [h4]) (by rw [hx]; simp [h4]) (by rw [hx]; simp [h4])
    · have hne : (if (lxt (c :: d :: m)).1 = 2 then (lxt (c :: d :: m)).2 else 0 : Nat) ≠ 2 := by
        rw [hlx]
        by_cases h0 : c = 60
        · subst h0
          simp at h1 h3
          simp [h1, h3]
        · by_cases h2' : c = 62
          · subst h2'
            simp at h4
            simp [h4]
          · by_cases hs : isS c = true <;> simp [h0, h2', hs]
      rw [hone _ rfl hne]
      refine rsign_loop _ c w hs0 hg (.inr ⟨?_, ?_, ?_⟩) _ rfl
      · rw [hx]; simpa using h1
      · rw [hx]; simpa using h3
      · rw [hx]; simpa using h4

theorem wordN_all (m : List UInt8) : (wordN m = m.length) ↔ (∀ i (h : i < m.length), isW m[i] = true) := by
  induction m with
  | nil => simp [wordN]
  | cons c m ih =>
    by_cases hc : isW c = true
    · rw [wordN, if_pos hc]
      constructor
      · intro h i hi
        rw [List.length_cons] at h
        match i, hi with
        | 0, _ => exact hc
        | i + 1, hi => exact ih.1 (by omega) i (by simpa using hi)
      · intro h
        have := ih.2 (fun i hi => h (i + 1) (by simpa using hi))
        rw [List.length_cons]
        omega
    · rw [wordN, if_neg hc]
      constructor
      · intro h; simp at h
      · intro h; exact absurd (h 0 (by simp)) hc

/-- A word, byte by byte. -/
def okW (l : List UInt8) (i : Nat) : Bool := isL (bat l i) || (isD (bat l i) && decide (0 < i))
theorem wordL_iff (l : List UInt8) : wordL l = true ↔ ((∀ i, i < l.length → okW l i = true) ∧ 1 ≤ l.length ∧ l.length ≤ 32) := by
  match l with
  | [] => simp [wordL, lxt]
  | c :: m =>
    have hk : ∀ i (h : i < m.length), okW (c :: m) (i + 1) = isW m[i] := by
      intro i h
      unfold okW isW bat
      simp [List.getD, h]
    have h00 : okW (c :: m) 0 = isL c := by unfold okW bat; simp
    unfold wordL
    simp only [Bool.and_eq_true, decide_eq_true_eq]
    constructor
    · rintro ⟨h1, h2, h3⟩
      rw [lxt_cons] at h1 h2
      by_cases hL : isL c = true
      · rw [if_pos hL] at h2
        have hw := (wordN_all m).1 (by simpa using h2)
        refine ⟨?_, by simp, h3⟩
        intro i hi
        match i, hi with
        | 0, _ => rw [h00]; exact hL
        | i + 1, hi => rw [hk i (by simpa using hi)]; exact hw i (by simpa using hi)
      · rw [if_neg hL] at h1
        exfalso
        revert h1
        repeat' split
        all_goals simp
    · rintro ⟨h1, h2, h3⟩
      have hL : isL c = true := by rw [← h00]; exact h1 0 (by simp)
      rw [lxt_cons, if_pos hL]
      refine ⟨rfl, ?_, h3⟩
      have := (wordN_all m).2 (fun i hi => by rw [← hk i hi]; exact h1 (i + 1) (by simpa using hi))
      simp [this]

set_option maxRecDepth 20000 in
set_option maxHeartbeats 4000000 in
theorem rword_any (l : List UInt8) (w : World) (hl : l.length ≤ 140737488351232) : Calls Tryz.prog 15 #[.string ⟨l.toArray⟩] w fun e w' => e = .returned (.bool (wordL l)) ∧ w = w' := by
  have hs : (ByteArray.mk l.toArray).size = l.length := rfl
  have HG : Hid (∀ (k : Nat) h, (ByteArray.mk l.toArray)[k]'h = bat l k) := bat_get l
  obtain ⟨R, hR⟩ : ∃ R, R = wordL l := ⟨_, rfl⟩
  rw [← hR]
  have HR : Hid (R = wordL l) := hR
  clear hR
  have DD : ∀ c, ∀ W, Calls Tryz.prog 40 #[.int .u8 (c.toNat : Int)] W fun e w' => e = .returned (.bool (isD c)) ∧ W = w' := fun c W => rdigit_any c W
  have LL : ∀ c, ∀ W, Calls Tryz.prog 39 #[.int .u8 (c.toNat : Int)] W fun e w' => e = .returned (.bool (isL c)) ∧ W = w' := fun c W => rletter_any c W
  generalize ByteArray.mk l.toArray = S at *
  go_enter Tryz.func15, Tryz.ntmps15
  go_wp2
  go_loopw [3] (fun r3 wr => ∃ k : Nat, r3 = .int .i64 (k : Int) ∧ k ≤ l.length ∧ w = wr ∧ Hid (∀ i, i < k → okW l i = true)) (fun r _ => l.length - (intOf r).toNat)
  case atStart => exact ⟨0, rfl, Nat.zero_le _, rfl, fun i h => by omega⟩
  case round =>
    obtain ⟨k, rfl, hk, rfl, hH⟩ := hrel
    by_cases hlt : k < l.length
    · have hlt' : (k : Int) < (l.length : Int) := by omega
      have j0 : (0 : Int) ≤ (k : Int) := by omega
      have hgk := HG.out k
      have hokk : okW l k = (isL (bat l k) || (isD (bat l k) && decide (0 < k))) := rfl
      obtain ⟨c, hc⟩ : ∃ c, c = bat l k := ⟨_, rfl⟩
      rw [← hc] at hgk hokk
      have Dk := DD c
      have Lk := LL c
      clear HG DD LL hc
      have step : okW l k = true → Hid (∀ i, i < k + 1 → okW l i = true) := by
        intro h
        show ∀ i, i < k + 1 → okW l i = true
        intro i hi
        by_cases h' : i < k
        · exact hH.out i h'
        · have : i = k := by omega
          subst this; exact h
      have stop : okW l k = false → Hid (R = false) := by
        intro h
        show R = false
        rw [HR.out]
        cases hw : wordL l with
        | false => rfl
        | true =>
          have := ((wordL_iff l).1 hw).1 k hlt
          rw [h] at this; cases this
      cases hcl : isL c with
      | true =>
        rw [hcl] at Lk
        have hH' := step (by rw [hokk, hcl]; rfl)
        clear step stop hokk hcl hH HR
        go_wp2_with (first
          | (go_at_call 39; refine (Lk _).mono ?_; rintro e w' ⟨rfl, rfl⟩)
          | (go_at_call 40; refine (Dk _).mono ?_; rintro e w' ⟨rfl, rfl⟩))
        exact ⟨⟨k + 1, by rw [cast1], by omega, trivial, hH'⟩, by simp [intOf] <;> omega⟩
      | false =>
        rw [hcl] at Lk
        cases hcd : isD c with
        | false =>
          rw [hcd] at Dk
          have hR' := stop (by rw [hokk, hcl, hcd]; rfl)
          clear step stop hokk hcl hcd hH HR
          go_wp2_with (first
          | (go_at_call 39; refine (Lk _).mono ?_; rintro e w' ⟨rfl, rfl⟩)
          | (go_at_call 40; refine (Dk _).mono ?_; rintro e w' ⟨rfl, rfl⟩))
          go_ret
          exact ⟨by rw [hR'.out]; rfl, rfl⟩
        | true =>
          rw [hcd] at Dk
          by_cases h0 : 0 < k
          · have h0' : (0 : Int) < (k : Int) := by omega
            have hH' := step (by rw [hokk, hcl, hcd, decide_eq_true h0]; rfl)
            clear step stop hokk hcl hcd hH HR
            go_wp2_with (first
          | (go_at_call 39; refine (Lk _).mono ?_; rintro e w' ⟨rfl, rfl⟩)
          | (go_at_call 40; refine (Dk _).mono ?_; rintro e w' ⟨rfl, rfl⟩))
            exact ⟨⟨k + 1, by rw [cast1], by omega, trivial, hH'⟩, by simp [intOf] <;> omega⟩
          · have h0' : ¬ (0 : Int) < (k : Int) := by omega
            have hR' := stop (by rw [hokk, hcl, hcd, decide_eq_false h0]; rfl)
            clear step stop hokk hcl hcd hH HR
            go_wp2_with (first
          | (go_at_call 39; refine (Lk _).mono ?_; rintro e w' ⟨rfl, rfl⟩)
          | (go_at_call 40; refine (Dk _).mono ?_; rintro e w' ⟨rfl, rfl⟩))
            go_ret
            exact ⟨by rw [hR'.out]; rfl, rfl⟩
    · have hlt' : ¬ (k : Int) < (l.length : Int) := by omega
      have hR' : Hid (R = (decide ((1 : Int) ≤ (l.length : Int)) && decide ((l.length : Int) ≤ 32))) := by
        show R = _
        rw [HR.out]
        have hw := wordL_iff l
        have hall : ∀ i, i < l.length → okW l i = true := fun i hi => hH.out i (by omega)
        by_cases h1 : 1 ≤ l.length ∧ l.length ≤ 32
        · rw [hw.2 ⟨hall, h1⟩, decide_eq_true (show (1 : Int) ≤ (l.length : Int) by omega), decide_eq_true (show (l.length : Int) ≤ 32 by omega)]; rfl
        · cases hx : wordL l with
          | true => exact absurd (hw.1 hx).2 h1
          | false =>
            symm
            rw [Bool.and_eq_false_iff]
            by_cases h : 1 ≤ l.length
            · right; simp; omega
            · left; simp; omega
      by_cases h1 : (1 : Int) ≤ (l.length : Int)
      · rw [decide_eq_true h1, Bool.true_and] at hR'
        clear hH HR HG DD LL
        go_wp2
        go_ret
        exact ⟨by rw [hR'.out]; rfl, rfl⟩
      · rw [decide_eq_false h1, Bool.false_and] at hR'
        clear hH HR HG DD LL
        go_wp2
        go_ret
        exact ⟨by rw [hR'.out]; rfl, rfl⟩
end Go.Proofs.YtoadhfcjegfanaaGreatDoor
