/-
  The document's lexer: its small functions.
  The document's lexer: sign and Word.
  The document's lexer: the token that a text begins with.
  The document's lexer: the token that a text begins with is what the program tells.
  The contract of the document's Split: the tokens of any text.
-/
import Derived.Test.YtlfeficldhlbaaaGreatDoorLTold
import Derived.BigRegion
import Derived.Test.YtlfeficldhlbaaaGreatDoorLRight
import Derived.Test.YtlfeficldhlbaaaGreatDoorDStr
import Derived.Test.YtlfeficldhlbaaaGreatDoorMC
import Derived.Test.YtlfeficldhlbaaaGreatDoorLTok
import Derived.Test.YtlfeficldhlbaaaGreatDoorLSplit
namespace Go.Proofs.YtlfeficldhlbaaaGreatDoor
open Go.RowKit

theorem rdigit_any (c : UInt8) (w : World) : Calls Tryz.prog 28 #[.int .u8 (c.toNat : Int)] w fun e w' => e = .returned (.bool (isD c)) ∧ w = w' := by
  have e : isD c = (decide ((48 : Int) ≤ (c.toNat : Int)) && decide ((c.toNat : Int) ≤ 57)) := by
    unfold isD
    have e1 : decide (48 ≤ c.toNat) = decide ((48 : Int) ≤ (c.toNat : Int)) := by simp; omega
    have e2 : decide (c.toNat ≤ 57) = decide ((c.toNat : Int) ≤ 57) := by simp; omega
    rw [e1, e2]
  rw [e]
  generalize (c.toNat : Int) = n
  by_cases h1 : (48 : Int) ≤ n
  · rw [decide_eq_true h1]
    go_enter Tryz.func28, Tryz.ntmps28
    go_wp2
    go_ret
    exact ⟨rfl, rfl⟩
  · rw [decide_eq_false h1]
    go_enter Tryz.func28, Tryz.ntmps28
    go_wp2
    go_ret
    exact ⟨rfl, rfl⟩

theorem rletter_any (c : UInt8) (w : World) : Calls Tryz.prog 27 #[.int .u8 (c.toNat : Int)] w fun e w' => e = .returned (.bool (isL c)) ∧ w = w' := by
  have e : isL c = ((decide ((97 : Int) ≤ (c.toNat : Int)) && decide ((c.toNat : Int) ≤ 122)) || ((c.toNat : Int) == 95)) := by
    unfold isL
    have e1 : decide (97 ≤ c.toNat) = decide ((97 : Int) ≤ (c.toNat : Int)) := by simp; omega
    have e2 : decide (c.toNat ≤ 122) = decide ((c.toNat : Int) ≤ 122) := by simp; omega
    have e3 : decide (c.toNat = 95) = ((c.toNat : Int) == 95) := by
      by_cases h : c.toNat = 95
      · rw [h]; rfl
      · rw [decide_eq_false h]; symm; rw [beq_eq_false_iff_ne]; omega
    rw [e1, e2, e3]
  rw [e]
  generalize (c.toNat : Int) = n
  by_cases h1 : (97 : Int) ≤ n
  · rw [decide_eq_true h1]
    by_cases h2 : n ≤ 122
    · rw [decide_eq_true h2]
      go_enter Tryz.func27, Tryz.ntmps27
      go_wp2
      go_ret
      exact ⟨rfl, rfl⟩
    · rw [decide_eq_false h2]
      go_enter Tryz.func27, Tryz.ntmps27
      go_wp2
      go_ret
      exact ⟨rfl, rfl⟩
  · rw [decide_eq_false h1]
    go_enter Tryz.func27, Tryz.ntmps27
    go_wp2
    go_ret
    exact ⟨rfl, rfl⟩

/-- A text's bytes, one by one. -/
theorem bat_get (l : List UInt8) : ∀ (k : Nat) h, (ByteArray.mk l.toArray)[k]'h = bat l k := fun k h => by
  have h' : k < l.length := h
  show l[k] = _
  unfold bat
  simp [List.getD, h']

set_option maxRecDepth 20000 in
set_option maxHeartbeats 4000000 in
theorem rnumber5_any (l : List UInt8) (w : World) (hl : l.length ≤ 4096) : Calls Tryz.prog 33 #[.string ⟨l.toArray⟩] w fun e w' => e = .returned (.int .i64 ((numN l : Nat) : Int)) ∧ w = w' := by
  have hs : (ByteArray.mk l.toArray).size = l.length := rfl
  have HG : Hid (∀ (k : Nat) h, (ByteArray.mk l.toArray)[k]'h = bat l k) := bat_get l
  obtain ⟨R, hR⟩ : ∃ R, R = numN l := ⟨_, rfl⟩
  rw [← hR]
  have HR : Hid (R = 0 + numN (l.drop 0)) := by show R = _; rw [hR, List.drop_zero, Nat.zero_add]
  clear hR
  have DD : ∀ c, ∀ W, Calls Tryz.prog 28 #[.int .u8 (c.toNat : Int)] W fun e w' => e = .returned (.bool (isD c)) ∧ W = w' := fun c W => rdigit_any c W
  generalize ByteArray.mk l.toArray = S at *
  go_enter Tryz.func33, Tryz.ntmps33
  go_wp2
  go_loopw [3, 4] (fun r3 r4 wr => ∃ (k : Nat) (p : Bool), r4 = .int .i64 (k : Int) ∧ r3 = .bool p ∧ k ≤ l.length ∧ w = wr ∧ Hid (R = k + (if p then digN (l.drop k) else numN (l.drop k)))) (fun _ r _ => l.length - (intOf r).toNat)
  case atStart => exact ⟨0, false, rfl, rfl, Nat.zero_le _, rfl, HR⟩
  case round =>
    obtain ⟨k, p, rfl, rfl, hk, rfl, hH⟩ := hrel
    by_cases hlt : k < l.length
    · have hlt' : (k : Int) < (l.length : Int) := by omega
      have j0 : (0 : Int) ≤ (k : Int) := by omega
      have hgk := HG.out k
      have hn := numN_bat l k
      have hd := digN_bat l k
      have q46 := eqInt (bat l k) 46
      obtain ⟨c, hc⟩ : ∃ c, c = bat l k := ⟨_, rfl⟩
      rw [← hc] at hgk hn hd q46
      have Dk := DD c
      clear HG DD hc HR
      cases hcd : isD c with
      | true =>
        rw [hcd] at Dk
        have hH' : Hid (R = (k + 1) + (if p then digN (l.drop (k + 1)) else numN (l.drop (k + 1)))) := by
          show R = _
          have e1 : numN (l.drop k) = numN (l.drop (k + 1)) + 1 := by rw [hn, if_pos hcd]
          have e2 : digN (l.drop k) = digN (l.drop (k + 1)) + 1 := by rw [hd, if_pos hcd]
          rw [hH.out, e1, e2]
          cases p
          · show k + (numN (l.drop (k + 1)) + 1) = k + 1 + numN (l.drop (k + 1)); omega
          · show k + (digN (l.drop (k + 1)) + 1) = k + 1 + digN (l.drop (k + 1)); omega
        clear hH hn hd q46 hcd
        go_wp2_with (go_at_call 28; refine (Dk _).mono ?_; rintro e w' ⟨rfl, rfl⟩)
        exact ⟨⟨k + 1, p, by rw [cast1], rfl, by omega, trivial, hH'⟩, by simp [intOf] <;> omega⟩
      | false =>
        rw [hcd] at Dk
        by_cases h46 : c = 46
        · have p46 : ((c.toNat : Int) != 46) = false := by rw [h46]; rfl
          cases p with
          | false =>
            have hH' : Hid (R = (k + 1) + (if true then digN (l.drop (k + 1)) else numN (l.drop (k + 1)))) := by
              show R = _
              have h := hH.out
              simp only [Bool.false_eq_true, if_false] at h
              rw [h, hn, if_neg (by simp [hcd]), if_pos h46]
              simp only [if_true]; omega
            clear hH hn hd q46 hcd h46
            go_wp2_with (go_at_call 28; refine (Dk _).mono ?_; rintro e w' ⟨rfl, rfl⟩)
            exact ⟨⟨k + 1, true, by rw [cast1], rfl, by omega, trivial, hH'⟩, by simp [intOf] <;> omega⟩
          | true =>
            have hH' : Hid (R = k) := by
              show R = _
              have h := hH.out
              simp only [if_true] at h
              rw [h, hd, if_neg (by simp [hcd]), Nat.add_zero]
            clear hH hn hd q46 hcd h46
            go_wp2_with (go_at_call 28; refine (Dk _).mono ?_; rintro e w' ⟨rfl, rfl⟩)
            go_ret
            exact ⟨by rw [hH'.out]; rfl, rfl⟩
        · have p46 : ¬ (c.toNat : Int) = 46 := fun h => h46 (UInt8.toNat_inj.1 (by show c.toNat = 46; omega))
          have hH' : Hid (R = k) := by
            show R = _
            have e1 : numN (l.drop k) = 0 := by rw [hn, if_neg (by simp [hcd]), if_neg h46]
            have e2 : digN (l.drop k) = 0 := by rw [hd, if_neg (by simp [hcd])]
            rw [hH.out, e1, e2]
            cases p <;> rfl
          clear hH hn hd q46 hcd h46
          go_wp2_with (go_at_call 28; refine (Dk _).mono ?_; rintro e w' ⟨rfl, rfl⟩)
          go_ret
          exact ⟨by rw [hH'.out]; rfl, rfl⟩
    · have hlt' : ¬ (k : Int) < (l.length : Int) := by omega
      have hH' : Hid (R = l.length) := by
        show R = _
        rw [hH.out, List.drop_eq_nil_of_le (by omega)]
        cases p <;> simp [digN, numN] <;> omega
      clear hH HR HG DD
      go_wp2
      go_ret
      exact ⟨by rw [hH'.out]; rfl, rfl⟩

set_option maxRecDepth 20000 in
set_option maxHeartbeats 4000000 in
theorem rquoted5_any (l : List UInt8) (w : World) (hl : l.length ≤ 4096) (h0 : 1 ≤ l.length) : Calls Tryz.prog 34 #[.string ⟨l.toArray⟩] w fun e w' => e = .returned (.int .i64 (((match textN (l.drop 1) with | none => 0 | some n => n + 1) : Nat) : Int)) ∧ w = w' := by
  have hs : (ByteArray.mk l.toArray).size = l.length := rfl
  have HG : Hid (∀ (k : Nat) h, (ByteArray.mk l.toArray)[k]'h = bat l k) := bat_get l
  obtain ⟨R, hR⟩ : ∃ R : Nat, R = (match textN (l.drop 1) with | none => 0 | some n => n + 1) := ⟨_, rfl⟩
  rw [← hR]
  have HR : Hid (∀ T, T = (textN (l.drop 1)).map (· + 1) → R = T.getD 0) := by
    show ∀ T, T = (textN (l.drop 1)).map (· + 1) → R = T.getD 0
    rintro T rfl
    rw [hR]
    cases textN (l.drop 1) <;> rfl
  clear hR
  obtain ⟨T, hT⟩ : ∃ T, T = (textN (l.drop 1)).map (· + 1) := ⟨_, rfl⟩
  have HRT : Hid (R = T.getD 0) := HR.out T hT
  have HT : Hid (T = (textN (l.drop 1)).map (· + 1)) := hT
  clear HR hT
  generalize ByteArray.mk l.toArray = S at *
  go_enter Tryz.func34, Tryz.ntmps34
  go_wp2
  go_loopw [3] (fun r3 wr => ∃ k : Nat, r3 = .int .i64 (k : Int) ∧ 1 ≤ k ∧ k ≤ l.length ∧ w = wr ∧ Hid (T = (textN (l.drop k)).map (· + k))) (fun r _ => l.length + 1 - (intOf r).toNat)
  case atStart => exact ⟨1, rfl, Nat.le_refl _, h0, rfl, HT⟩
  case round =>
    obtain ⟨k, rfl, k1, hk, rfl, hH⟩ := hrel
    by_cases hlt : k < l.length
    · have hlt' : (k : Int) < (l.length : Int) := by omega
      have j0 : (0 : Int) ≤ (k : Int) := by omega
      have hgk := HG.out k
      have hdr := bat_drop l k hlt
      have q39 := eqInt (bat l k) 39
      obtain ⟨c, hc⟩ : ∃ c, c = bat l k := ⟨_, rfl⟩
      rw [← hc] at hgk hdr q39
      by_cases hq : c = 39
      · have p39 : ((c.toNat : Int) == 39) = true := by rw [decide_eq_true hq] at q39; exact q39
        by_cases hl2 : k + 1 < l.length
        · have hl2' : (k : Int) + 1 < (l.length : Int) := by omega
          have j1 : (0 : Int) ≤ (k : Int) + 1 := by omega
          have hgk2 := HG.out (k + 1)
          have hdr2 := bat_drop l (k + 1) hl2
          have q2 := eqInt (bat l (k + 1)) 39
          obtain ⟨d, hd⟩ : ∃ d, d = bat l (k + 1) := ⟨_, rfl⟩
          rw [← hd] at hgk2 hdr2 q2
          by_cases hq2 : d = 39
          · have p2 : ((d.toNat : Int) == 39) = true := by rw [decide_eq_true hq2] at q2; exact q2
            have hH' : Hid (T = (textN (l.drop (k + 1 + 1))).map (· + (k + 1 + 1))) := by
              show T = _
              rw [hH.out, hdr, hdr2, hq, hq2, textN_two]
              cases textN (l.drop (k + 1 + 1)) <;> simp
              omega
            clear hH hdr hdr2 q39 q2 hq hq2 hc hd HG HT HRT
            go_wp2
            exact ⟨⟨k + 1 + 1, by rw [show ((k + 1 + 1 : Nat) : Int) = (k : Int) + 1 + 1 by omega], by omega, by omega, trivial, hH'⟩, by simp [intOf] <;> omega⟩
          · have p2 : ((d.toNat : Int) == 39) = false := by rw [decide_eq_false hq2] at q2; exact q2
            have hH' : Hid (R = k + 1) := by
              show R = _
              rw [HRT.out, hH.out, hdr, hdr2, hq, textN_end _ _ hq2]
              simp; omega
            clear hH hdr hdr2 q39 q2 hq hq2 hc hd HG HT HRT
            go_wp2
            go_ret
            exact ⟨by rw [hH'.out, cast1]; rfl, rfl⟩
        · have hl2' : ¬ (k : Int) + 1 < (l.length : Int) := by omega
          have hH' : Hid (R = k + 1) := by
            show R = _
            rw [HRT.out, hH.out, hdr, hq, List.drop_eq_nil_of_le (by omega), textN_last]
            simp; omega
          clear hH hdr q39 hq hc HG HT HRT
          go_wp2
          go_ret
          exact ⟨by rw [hH'.out, cast1]; rfl, rfl⟩
      · have p39 : ((c.toNat : Int) == 39) = false := by rw [decide_eq_false hq] at q39; exact q39
        have hH' : Hid (T = (textN (l.drop (k + 1))).map (· + (k + 1))) := by
          show T = _
          rw [hH.out, hdr, textN_cons _ _ hq]
          cases textN (l.drop (k + 1)) <;> simp
          omega
        clear hH hdr q39 hq hc HG HT HRT
        go_wp2
        exact ⟨⟨k + 1, by rw [cast1], by omega, by omega, trivial, hH'⟩, by simp [intOf] <;> omega⟩
    · have hlt' : ¬ (k : Int) < (l.length : Int) := by omega
      have hH' : Hid (R = 0) := by
        show R = _
        rw [HRT.out, hH.out, List.drop_eq_nil_of_le (by omega)]
        rfl
      clear hH HG HT HRT
      go_wp2
      go_ret
      exact ⟨by rw [hH'.out]; rfl, rfl⟩
end Go.Proofs.YtlfeficldhlbaaaGreatDoor

namespace Go.Proofs.YtlfeficldhlbaaaGreatDoor
open Go.RowKit

/-- All signs of one byte. -/
def allS : List UInt8 := [40, 41, 44, 46, 59, 42, 43, 45, 47, 37, 61, 60, 62]
/-- How long the sign is that a text begins with. -/
def sgN (l : List UInt8) : Nat := if l.take 2 = [60, 62] ∨ l.take 2 = [60, 61] ∨ l.take 2 = [62, 61] then 2 else if l.head?.any (allS.contains ·) then 1 else 0

set_option maxRecDepth 20000 in
set_option maxHeartbeats 4000000 in
theorem rsign_loop (S : ByteArray) (c : UInt8) (w : World) (hs0 : (0 : Int) < (S.size : Int)) (hg : ∀ h, S[0]'h = c)
    (hc : ¬ (2 : Int) ≤ (S.size : Int) ∨ (((S.extract 0 2).toList == [60, 62]) = false ∧ ((S.extract 0 2).toList == [60, 61]) = false ∧ ((S.extract 0 2).toList == [62, 61]) = false)) (R : Nat) (hR : R = if allS.contains c then 1 else 0) :
    Calls Tryz.prog 35 #[.string S] w fun e w' => e = .returned (.int .i64 (R : Int)) ∧ Grew w w' := by
  have HR : Hid (R = if allS.contains c then 1 else 0) := hR
  clear hR
  by_cases h2 : (2 : Int) ≤ (S.size : Int)
  · have hc' : ((S.extract 0 2).toList == [60, 62]) = false ∧ ((S.extract 0 2).toList == [60, 61]) = false ∧ ((S.extract 0 2).toList == [62, 61]) = false := by
      rcases hc with h | h
      · exact absurd h2 h
      · exact h
    obtain ⟨x1, x2, x3⟩ := hc'
    clear hc
    go_enter Tryz.func35, Tryz.ntmps35
    go_wp2
    go_loopw [4] (fun r4 wr => ∃ k : Nat, r4 = .int .i64 (k : Int) ∧ k ≤ 13 ∧ Grew w wr ∧ Hid (∀ j, j < k → bat allS j ≠ c)) (fun r _ => 13 - (intOf r).toNat)
    case atStart => exact ⟨0, rfl, by omega, Grew.refl _, fun j h => by omega⟩
    case round =>
      obtain ⟨k, rfl, hk, hgw, hH⟩ := hrel
      by_cases hlt : k < 13
      · have hlt' : (k : Int) < 13 := by omega
        have j0 : (0 : Int) ≤ (k : Int) := by omega
        have hA : ∀ h, (ByteArray.mk #[40, 41, 44, 46, 59, 42, 43, 45, 47, 37, 61, 60, 62])[k]'h = bat allS k := fun h => bat_get allS k h
        have hsz : (ByteArray.mk #[40, 41, 44, 46, 59, 42, 43, 45, 47, 37, 61, 60, 62]).size = 13 := rfl
        have hmem : bat allS k ∈ allS := by
          unfold bat
          rw [List.getD_eq_getElem?_getD, List.getElem?_eq_getElem (show k < allS.length from hlt)]
          exact List.getElem_mem _
        have hq := eqInt c (bat allS k)
        obtain ⟨d, hd⟩ : ∃ d, d = bat allS k := ⟨_, rfl⟩
        rw [← hd] at hA hmem hq
        generalize ByteArray.mk #[40, 41, 44, 46, 59, 42, 43, 45, 47, 37, 61, 60, 62] = A at *
        by_cases hcd : c = d
        · have hq' : ((c.toNat : Int) == (d.toNat : Int)) = true := by rw [decide_eq_true hcd] at hq; exact hq
          have hH' : Hid (R = 1) := by
            show R = _
            rw [HR.out, if_pos (by rw [hcd]; simpa using hmem)]
          clear hH HR hq hcd hd hmem
          go_wp2
          go_region
          all_goals go_wp2
          all_goals go_ret
          all_goals exact ⟨by rw [hH'.out]; rfl, by first | exact hgw.drew | exact hgw⟩
        · have hq' : ((c.toNat : Int) == (d.toNat : Int)) = false := by rw [decide_eq_false hcd] at hq; exact hq
          have hH' : Hid (∀ j, j < k + 1 → bat allS j ≠ c) := by
            show ∀ j, j < k + 1 → bat allS j ≠ c
            intro j hj
            by_cases h : j < k
            · exact hH.out j h
            · have : j = k := by omega
              subst this
              rw [← hd]; exact fun h => hcd h.symm
          clear hH HR hq hcd hd hmem
          go_wp2
          go_region
          all_goals go_wp2
          all_goals exact ⟨⟨k + 1, by rw [cast1], by omega, by first | exact hgw.drew | exact hgw, hH'⟩, by simp [intOf] <;> omega⟩
      · have hlt' : ¬ (k : Int) < 13 := by omega
        have hH' : Hid (R = 0) := by
          show R = _
          rw [HR.out, if_neg]
          intro h
          have hm : c ∈ allS := by simpa using h
          obtain ⟨j, hj, he⟩ := List.getElem_of_mem hm
          refine hH.out j (by have : allS.length = 13 := rfl; omega) ?_
          unfold bat
          rw [List.getD_eq_getElem?_getD, List.getElem?_eq_getElem hj]
          exact he
        clear hH HR
        go_wp2
        go_ret
        exact ⟨by rw [hH'.out]; rfl, hgw⟩
  · clear hc
    go_enter Tryz.func35, Tryz.ntmps35
    go_wp2
    go_loopw [4] (fun r4 wr => ∃ k : Nat, r4 = .int .i64 (k : Int) ∧ k ≤ 13 ∧ Grew w wr ∧ Hid (∀ j, j < k → bat allS j ≠ c)) (fun r _ => 13 - (intOf r).toNat)
    case atStart => exact ⟨0, rfl, by omega, Grew.refl _, fun j h => by omega⟩
    case round =>
      obtain ⟨k, rfl, hk, hgw, hH⟩ := hrel
      by_cases hlt : k < 13
      · have hlt' : (k : Int) < 13 := by omega
        have j0 : (0 : Int) ≤ (k : Int) := by omega
        have hA : ∀ h, (ByteArray.mk #[40, 41, 44, 46, 59, 42, 43, 45, 47, 37, 61, 60, 62])[k]'h = bat allS k := fun h => bat_get allS k h
        have hsz : (ByteArray.mk #[40, 41, 44, 46, 59, 42, 43, 45, 47, 37, 61, 60, 62]).size = 13 := rfl
        have hmem : bat allS k ∈ allS := by
          unfold bat
          rw [List.getD_eq_getElem?_getD, List.getElem?_eq_getElem (show k < allS.length from hlt)]
          exact List.getElem_mem _
        have hq := eqInt c (bat allS k)
        obtain ⟨d, hd⟩ : ∃ d, d = bat allS k := ⟨_, rfl⟩
        rw [← hd] at hA hmem hq
        generalize ByteArray.mk #[40, 41, 44, 46, 59, 42, 43, 45, 47, 37, 61, 60, 62] = A at *
        by_cases hcd : c = d
        · have hq' : ((c.toNat : Int) == (d.toNat : Int)) = true := by rw [decide_eq_true hcd] at hq; exact hq
          have hH' : Hid (R = 1) := by
            show R = _
            rw [HR.out, if_pos (by rw [hcd]; simpa using hmem)]
          clear hH HR hq hcd hd hmem
          go_wp2
          go_region
          all_goals go_wp2
          all_goals go_ret
          all_goals exact ⟨by rw [hH'.out]; rfl, by first | exact hgw.drew | exact hgw⟩
        · have hq' : ((c.toNat : Int) == (d.toNat : Int)) = false := by rw [decide_eq_false hcd] at hq; exact hq
          have hH' : Hid (∀ j, j < k + 1 → bat allS j ≠ c) := by
            show ∀ j, j < k + 1 → bat allS j ≠ c
            intro j hj
            by_cases h : j < k
            · exact hH.out j h
            · have : j = k := by omega
              subst this
              rw [← hd]; exact fun h => hcd h.symm
          clear hH HR hq hcd hd hmem
          go_wp2
          go_region
          all_goals go_wp2
          all_goals exact ⟨⟨k + 1, by rw [cast1], by omega, by first | exact hgw.drew | exact hgw, hH'⟩, by simp [intOf] <;> omega⟩
      · have hlt' : ¬ (k : Int) < 13 := by omega
        have hH' : Hid (R = 0) := by
          show R = _
          rw [HR.out, if_neg]
          intro h
          have hm : c ∈ allS := by simpa using h
          obtain ⟨j, hj, he⟩ := List.getElem_of_mem hm
          refine hH.out j (by have : allS.length = 13 := rfl; omega) ?_
          unfold bat
          rw [List.getD_eq_getElem?_getD, List.getElem?_eq_getElem hj]
          exact he
        clear hH HR
        go_wp2
        go_ret
        exact ⟨by rw [hH'.out]; rfl, hgw⟩

set_option maxRecDepth 20000 in
theorem rsign_two1 (S : ByteArray) (w : World) (h2 : (2 : Int) ≤ (S.size : Int)) (hx : ((S.extract 0 2).toList == [60, 62]) = true) :
    Calls Tryz.prog 35 #[.string S] w fun e w' => e = .returned (.int .i64 2) ∧ Grew w w' := by
  go_enter Tryz.func35, Tryz.ntmps35
  go_wp2
  first | (go_region; all_goals go_wp2) | skip
  all_goals go_ret
  all_goals exact ⟨rfl, by first | exact Grew.refl _ | exact (Grew.refl _).drew⟩

set_option maxRecDepth 20000 in
theorem rsign_two2 (S : ByteArray) (w : World) (h2 : (2 : Int) ≤ (S.size : Int)) (hx0 : ((S.extract 0 2).toList == [60, 62]) = false) (hx : ((S.extract 0 2).toList == [60, 61]) = true) :
    Calls Tryz.prog 35 #[.string S] w fun e w' => e = .returned (.int .i64 2) ∧ Grew w w' := by
  go_enter Tryz.func35, Tryz.ntmps35
  go_wp2
  first | (go_region; all_goals go_wp2) | skip
  all_goals go_ret
  all_goals exact ⟨rfl, by first | exact Grew.refl _ | exact (Grew.refl _).drew⟩

set_option maxRecDepth 20000 in
theorem rsign_two3 (S : ByteArray) (w : World) (h2 : (2 : Int) ≤ (S.size : Int)) (hx0 : ((S.extract 0 2).toList == [60, 62]) = false) (hx1 : ((S.extract 0 2).toList == [60, 61]) = false) (hx : ((S.extract 0 2).toList == [62, 61]) = true) :
    Calls Tryz.prog 35 #[.string S] w fun e w' => e = .returned (.int .i64 2) ∧ Grew w w' := by
  go_enter Tryz.func35, Tryz.ntmps35
  go_wp2
  first | (go_region; all_goals go_wp2) | skip
  all_goals go_ret
  all_goals exact ⟨rfl, by first | exact Grew.refl _ | exact (Grew.refl _).drew⟩

theorem all_isS (c : UInt8) : allS.contains c = (isS c || (c == 60 || c == 62)) := by
  have h : ∀ n : Nat, n < 256 → allS.contains n.toUInt8 = (isS n.toUInt8 || (n.toUInt8 == 60 || n.toUInt8 == 62)) := by decide +kernel
  have := h c.toNat c.toNat_lt
  simpa using this

/-- The length of the sign that a text begins with; 0: none. -/
theorem rsign_any (c : UInt8) (m : List UInt8) (w : World) (hL : isL c = false) (hD : isD c = false) (hq : c ≠ 39) :
    Calls Tryz.prog 35 #[.string ⟨(c :: m).toArray⟩] w fun e w' => e = .returned (.int .i64 ((if (lxt (c :: m)).1 = 2 then (lxt (c :: m)).2 else 0 : Nat) : Int)) ∧ Grew w w' := by
  have hs0 : (0 : Int) < ((ByteArray.mk (c :: m).toArray).size : Int) := by show (0 : Int) < ((m.length + 1 : Nat) : Int); omega
  have hg : ∀ h, (ByteArray.mk (c :: m).toArray)[0]'h = c := fun h => rfl
  have hlx : lxt (c :: m) = (if c = 60 then (2, if m.head? = some 62 ∨ m.head? = some 61 then 2 else 1) else if c = 62 then (2, if m.head? = some 61 then 2 else 1) else if isS c then (2, 1) else (0, 0)) := by
    rw [lxt_cons, if_neg (by simp [hL]), if_neg (by simp [hD]), if_neg hq]
  have hone : ∀ R : Nat, R = (if allS.contains c then 1 else 0) → ((if (lxt (c :: m)).1 = 2 then (lxt (c :: m)).2 else 0 : Nat) ≠ 2) → (if (lxt (c :: m)).1 = 2 then (lxt (c :: m)).2 else 0 : Nat) = R := by
    intro R hR
    rw [hlx, hR, all_isS]
    by_cases h0 : c = 60
    · subst h0
      rw [if_pos rfl]
      by_cases hh : m.head? = some 62 ∨ m.head? = some 61
      · simp [hh]
      · simp [hh]
    · rw [if_neg h0]
      by_cases h2 : c = 62
      · subst h2
        rw [if_pos rfl]
        by_cases hh : m.head? = some 61
        · simp [hh]
        · simp [hh]
      · rw [if_neg h2]
        by_cases hs : isS c = true
        · simp [hs]
        · simp [hs, h0, h2]
  match m, hs0, hg, hlx, hone with
  | [], hs0, hg, hlx, hone =>
    have hne : (if (lxt [c]).1 = 2 then (lxt [c]).2 else 0 : Nat) ≠ 2 := by
      rw [hlx]
      by_cases h0 : c = 60
      · simp [h0]
      · by_cases h2 : c = 62
        · simp [h2]
        · by_cases hs : isS c = true <;> simp [h0, h2, hs]
    rw [hone _ rfl hne]
    exact rsign_loop _ c w hs0 hg (.inl (by show ¬ (2 : Int) ≤ ((1 : Nat) : Int); omega)) _ rfl
  | d :: m, hs0, hg, hlx, hone =>
    have h2 : (2 : Int) ≤ ((ByteArray.mk (c :: d :: m).toArray).size : Int) := by show (2 : Int) ≤ ((m.length + 1 + 1 : Nat) : Int); omega
    have hx : ∀ a b : UInt8, (((ByteArray.mk (c :: d :: m).toArray).extract 0 2).toList == [a, b]) = (decide (c = a) && decide (d = b)) := fun a b => by
      rw [ba_extract, ByteArray.toList_eq]
      show ([c, d] == [a, b]) = _
      by_cases h1 : c = a <;> by_cases h2 : d = b <;> simp [h1, h2]
    by_cases h1 : c = 60 ∧ d = 62
    · have e : (if (lxt (c :: d :: m)).1 = 2 then (lxt (c :: d :: m)).2 else 0 : Nat) = 2 := by rw [hlx]; simp [h1.1, h1.2]
      rw [e]
      exact rsign_two1 _ w h2 (by rw [hx]; simp [h1])
    by_cases h3 : c = 60 ∧ d = 61
    · have e : (if (lxt (c :: d :: m)).1 = 2 then (lxt (c :: d :: m)).2 else 0 : Nat) = 2 := by rw [hlx]; simp [h3.1, h3.2]
      rw [e]
      exact rsign_two2 _ w h2 (by rw [hx]; simp [h3]) (by rw [hx]; simp [h3])
    by_cases h4 : c = 62 ∧ d = 61
    · have e : (if (lxt (c :: d :: m)).1 = 2 then (lxt (c :: d :: m)).2 else 0 : Nat) = 2 := by rw [hlx]; simp [h4.1, h4.2]
      rw [e]
      exact rsign_two3 _ w h2 (by rw [hx]; simp [h4]) (by rw [hx]; simp [h4]) (by rw [hx]; simp [h4])
    · have hne : (if (lxt (c :: d :: m)).1 = 2 then (lxt (c :: d :: m)).2 else 0 : Nat) ≠ 2 := by
        rw [hlx]
        by_cases h0 : c = 60
        · subst h0
          simp at h1 h3
          simp [h1, h3]
        · by_cases h2' : c = 62
          · subst h2'
            simp at h4
            simp [h4]
          · by_cases hs : isS c = true <;> simp [h0, h2', hs]
      rw [hone _ rfl hne]
      refine rsign_loop _ c w hs0 hg (.inr ⟨?_, ?_, ?_⟩) _ rfl
      · rw [hx]; simpa using h1
      · rw [hx]; simpa using h3
      · rw [hx]; simpa using h4

theorem wordN_all (m : List UInt8) : (wordN m = m.length) ↔ (∀ i (h : i < m.length), isW m[i] = true) := by
  induction m with
  | nil => simp [wordN]
  | cons c m ih =>
    by_cases hc : isW c = true
    · rw [wordN, if_pos hc]
      constructor
      · intro h i hi
        rw [List.length_cons] at h
        match i, hi with
        | 0, _ => exact hc
        | i + 1, hi => exact ih.1 (by omega) i (by simpa using hi)
      · intro h
        have := ih.2 (fun i hi => h (i + 1) (by simpa using hi))
        rw [List.length_cons]
        omega
    · rw [wordN, if_neg hc]
      constructor
      · intro h; simp at h
      · intro h; exact absurd (h 0 (by simp)) hc

/-- A word, byte by byte. -/
def okW (l : List UInt8) (i : Nat) : Bool := isL (bat l i) || (isD (bat l i) && decide (0 < i))
theorem wordL_iff (l : List UInt8) : wordL l = true ↔ ((∀ i, i < l.length → okW l i = true) ∧ 1 ≤ l.length ∧ l.length ≤ 32) := by
  match l with
  | [] => simp [wordL, lxt]
  | c :: m =>
    have hk : ∀ i (h : i < m.length), okW (c :: m) (i + 1) = isW m[i] := by
      intro i h
      unfold okW isW bat
      simp [List.getD, h]
    have h00 : okW (c :: m) 0 = isL c := by unfold okW bat; simp
    unfold wordL
    simp only [Bool.and_eq_true, decide_eq_true_eq]
    constructor
    · rintro ⟨h1, h2, h3⟩
      rw [lxt_cons] at h1 h2
      by_cases hL : isL c = true
      · rw [if_pos hL] at h2
        have hw := (wordN_all m).1 (by simpa using h2)
        refine ⟨?_, by simp, h3⟩
        intro i hi
        match i, hi with
        | 0, _ => rw [h00]; exact hL
        | i + 1, hi => rw [hk i (by simpa using hi)]; exact hw i (by simpa using hi)
      · rw [if_neg hL] at h1
        exfalso
        revert h1
        repeat' split
        all_goals simp
    · rintro ⟨h1, h2, h3⟩
      have hL : isL c = true := by rw [← h00]; exact h1 0 (by simp)
      rw [lxt_cons, if_pos hL]
      refine ⟨rfl, ?_, h3⟩
      have := (wordN_all m).2 (fun i hi => by rw [← hk i hi]; exact h1 (i + 1) (by simpa using hi))
      simp [this]

set_option maxRecDepth 20000 in
set_option maxHeartbeats 4000000 in
theorem rword_any (l : List UInt8) (w : World) (hl : l.length ≤ 140737488351232) : Calls Tryz.prog 20 #[.string ⟨l.toArray⟩] w fun e w' => e = .returned (.bool (wordL l)) ∧ w = w' := by
  have hs : (ByteArray.mk l.toArray).size = l.length := rfl
  have HG : Hid (∀ (k : Nat) h, (ByteArray.mk l.toArray)[k]'h = bat l k) := bat_get l
  obtain ⟨R, hR⟩ : ∃ R, R = wordL l := ⟨_, rfl⟩
  rw [← hR]
  have HR : Hid (R = wordL l) := hR
  clear hR
  have DD : ∀ c, ∀ W, Calls Tryz.prog 28 #[.int .u8 (c.toNat : Int)] W fun e w' => e = .returned (.bool (isD c)) ∧ W = w' := fun c W => rdigit_any c W
  have LL : ∀ c, ∀ W, Calls Tryz.prog 27 #[.int .u8 (c.toNat : Int)] W fun e w' => e = .returned (.bool (isL c)) ∧ W = w' := fun c W => rletter_any c W
  generalize ByteArray.mk l.toArray = S at *
  go_enter Tryz.func20, Tryz.ntmps20
  go_wp2
  go_loopw [3] (fun r3 wr => ∃ k : Nat, r3 = .int .i64 (k : Int) ∧ k ≤ l.length ∧ w = wr ∧ Hid (∀ i, i < k → okW l i = true)) (fun r _ => l.length - (intOf r).toNat)
  case atStart => exact ⟨0, rfl, Nat.zero_le _, rfl, fun i h => by omega⟩
  case round =>
    obtain ⟨k, rfl, hk, rfl, hH⟩ := hrel
    by_cases hlt : k < l.length
    · have hlt' : (k : Int) < (l.length : Int) := by omega
      have j0 : (0 : Int) ≤ (k : Int) := by omega
      have hgk := HG.out k
      have hokk : okW l k = (isL (bat l k) || (isD (bat l k) && decide (0 < k))) := rfl
      obtain ⟨c, hc⟩ : ∃ c, c = bat l k := ⟨_, rfl⟩
      rw [← hc] at hgk hokk
      have Dk := DD c
      have Lk := LL c
      clear HG DD LL hc
      have step : okW l k = true → Hid (∀ i, i < k + 1 → okW l i = true) := by
        intro h
        show ∀ i, i < k + 1 → okW l i = true
        intro i hi
        by_cases h' : i < k
        · exact hH.out i h'
        · have : i = k := by omega
          subst this; exact h
      have stop : okW l k = false → Hid (R = false) := by
        intro h
        show R = false
        rw [HR.out]
        cases hw : wordL l with
        | false => rfl
        | true =>
          have := ((wordL_iff l).1 hw).1 k hlt
          rw [h] at this; cases this
      cases hcl : isL c with
      | true =>
        rw [hcl] at Lk
        have hH' := step (by rw [hokk, hcl]; rfl)
        clear step stop hokk hcl hH HR
        go_wp2_with (first
          | (go_at_call 27; refine (Lk _).mono ?_; rintro e w' ⟨rfl, rfl⟩)
          | (go_at_call 28; refine (Dk _).mono ?_; rintro e w' ⟨rfl, rfl⟩))
        exact ⟨⟨k + 1, by rw [cast1], by omega, trivial, hH'⟩, by simp [intOf] <;> omega⟩
      | false =>
        rw [hcl] at Lk
        cases hcd : isD c with
        | false =>
          rw [hcd] at Dk
          have hR' := stop (by rw [hokk, hcl, hcd]; rfl)
          clear step stop hokk hcl hcd hH HR
          go_wp2_with (first
          | (go_at_call 27; refine (Lk _).mono ?_; rintro e w' ⟨rfl, rfl⟩)
          | (go_at_call 28; refine (Dk _).mono ?_; rintro e w' ⟨rfl, rfl⟩))
          go_ret
          exact ⟨by rw [hR'.out]; rfl, rfl⟩
        | true =>
          rw [hcd] at Dk
          by_cases h0 : 0 < k
          · have h0' : (0 : Int) < (k : Int) := by omega
            have hH' := step (by rw [hokk, hcl, hcd, decide_eq_true h0]; rfl)
            clear step stop hokk hcl hcd hH HR
            go_wp2_with (first
          | (go_at_call 27; refine (Lk _).mono ?_; rintro e w' ⟨rfl, rfl⟩)
          | (go_at_call 28; refine (Dk _).mono ?_; rintro e w' ⟨rfl, rfl⟩))
            exact ⟨⟨k + 1, by rw [cast1], by omega, trivial, hH'⟩, by simp [intOf] <;> omega⟩
          · have h0' : ¬ (0 : Int) < (k : Int) := by omega
            have hR' := stop (by rw [hokk, hcl, hcd, decide_eq_false h0]; rfl)
            clear step stop hokk hcl hcd hH HR
            go_wp2_with (first
          | (go_at_call 27; refine (Lk _).mono ?_; rintro e w' ⟨rfl, rfl⟩)
          | (go_at_call 28; refine (Dk _).mono ?_; rintro e w' ⟨rfl, rfl⟩))
            go_ret
            exact ⟨by rw [hR'.out]; rfl, rfl⟩
    · have hlt' : ¬ (k : Int) < (l.length : Int) := by omega
      have hR' : Hid (R = (decide ((1 : Int) ≤ (l.length : Int)) && decide ((l.length : Int) ≤ 32))) := by
        show R = _
        rw [HR.out]
        have hw := wordL_iff l
        have hall : ∀ i, i < l.length → okW l i = true := fun i hi => hH.out i (by omega)
        by_cases h1 : 1 ≤ l.length ∧ l.length ≤ 32
        · rw [hw.2 ⟨hall, h1⟩, decide_eq_true (show (1 : Int) ≤ (l.length : Int) by omega), decide_eq_true (show (l.length : Int) ≤ 32 by omega)]; rfl
        · cases hx : wordL l with
          | true => exact absurd (hw.1 hx).2 h1
          | false =>
            symm
            rw [Bool.and_eq_false_iff]
            by_cases h : 1 ≤ l.length
            · right; simp; omega
            · left; simp; omega
      by_cases h1 : (1 : Int) ≤ (l.length : Int)
      · rw [decide_eq_true h1, Bool.true_and] at hR'
        clear hH HR HG DD LL
        go_wp2
        go_ret
        exact ⟨by rw [hR'.out]; rfl, rfl⟩
      · rw [decide_eq_false h1, Bool.false_and] at hR'
        clear hH HR HG DD LL
        go_wp2
        go_ret
        exact ⟨by rw [hR'.out]; rfl, rfl⟩
end Go.Proofs.YtlfeficldhlbaaaGreatDoor

namespace Go.Proofs.YtlfeficldhlbaaaGreatDoor
open Go.RowKit Go.Shelf
attribute [local go_sem] cell?_more frozen?_more setCell_more more_lt more_more more_drew more_drewN setCell_drewN alloc_drewN

abbrev Z7 : Array Value := #[.int .i64 0, .string ⟨#[]⟩, .int .i64 0, .int .i64 0, .int .i64 0, .string ⟨#[]⟩, .int .i64 0]
abbrev Z7w : Array Value := Z7

set_option maxRecDepth 20000 in
set_option maxHeartbeats 4000000 in
theorem rone_num (S X : ByteArray) (c : UInt8) (n L : Nat) (w : World) (hS : S.size = L) (h0 : (0 : Int) < (L : Int)) (hn : n ≤ L) (hL : L ≤ 4096) (hg : ∀ h, S[0]'h = c) (hx : S.extract 0 n = X)
    (Lt : ∀ W, Calls Tryz.prog 27 #[.int .u8 (c.toNat : Int)] W fun e w' => e = .returned (.bool false) ∧ W = w')
    (Dg : ∀ W, Calls Tryz.prog 28 #[.int .u8 (c.toNat : Int)] W fun e w' => e = .returned (.bool true) ∧ W = w')
    (Nm : ∀ W, Calls Tryz.prog 33 #[.string S] W fun e w' => e = .returned (.int .i64 (n : Int)) ∧ W = w')
    (vk vn vm E : Int) (vb : ByteArray) (V : ∀ W, Calls Tryz.prog 36 #[.string X] W fun e w' => e = .returned (.tuple #[va vk vn vm vb, .int .i64 E]) ∧ Below W.heap.size W w') :
    Calls Tryz.prog 23 #[.string S] w fun e w' => e = .returned (.tuple #[.agg #[.int .i64 3, .string X, .int .i64 vk, .int .i64 vn, .int .i64 vm, .string vb, .int .i64 0], .bool (E == 0)]) ∧ Below w.heap.size w w' := by
  have j1 : (0 : Int) ≤ (n : Int) := by omega
  have j2 : (n : Int) ≤ (L : Int) := by omega
  have Z0 : Cbox ((w.alloc (.cells Z7 40)).alloc (.cells Z7 40)) w.heap.size Z7 40 := (Cbox.new w _ _).later ((Below.refl _ _).alloc (Nat.le_refl _) _)
  have Z1 : Cbox ((w.alloc (.cells Z7 40)).alloc (.cells Z7 40)) (w.heap.size + 1) Z7 40 := by
    have := Cbox.new (w.alloc (.cells Z7 40)) Z7 40
    rwa [World.size_alloc] at this
  go_enter Tryz.func23, Tryz.ntmps23
  go_wp2_with (first
    | (go_at_call 27; refine (Lt _).mono ?_; rintro e w' ⟨rfl, rfl⟩)
    | (go_at_call 28; refine (Dg _).mono ?_; rintro e w' ⟨rfl, rfl⟩)
    | (go_at_call 33; refine (Nm _).mono ?_; rintro e w' ⟨rfl, rfl⟩)
    | (go_at_call 36; refine (V _).mono ?_; rintro e w1 ⟨rfl, b1⟩; have zz := Z0.later b1; have z0 := zz.at 0; have z1 := zz.at 1; have z2 := zz.at 2; have z3 := zz.at 3; have z4 := zz.at 4; have z5 := zz.at 5; have z6 := zz.at 6; have f0 := zz.free 0; have f1 := zz.free 1; have f2 := zz.free 2; have f3 := zz.free 3; have f4 := zz.free 4; have f5 := zz.free 5; have f6 := zz.free 6; have lt1 := zz.lt; have B1 : Below w.heap.size w w1 := (((Below.refl _ w).alloc (Nat.le_refl _) _).alloc (by simp) _).trans (b1.mono (by simp; omega)); have hs1 := B1.size; clear zz))
  go_region
  all_goals go_wp2
  all_goals refine bodyPost_ret_by (v := .tuple #[.agg #[.int .i64 3, .string X, .int .i64 vk, .int .i64 vn, .int .i64 vm, .string vb, .int .i64 0], .bool (E == 0)]) ?_ rfl ⟨rfl, ?_⟩
  all_goals first
    | (simp [results, Tryz.results23, go_sem, z0, z1, z2, z3, z4, z5, z6, lt1]; done)
    | (repeat (first | with_reducible exact B1 | with_reducible refine bl_set ?_ _ | with_reducible refine Below.drew ?_ | with_reducible refine Below.alloc ?_ (by simp; omega) _ | with_reducible refine bl_set2 ?_ (by omega) _))

set_option maxRecDepth 20000 in
set_option maxHeartbeats 4000000 in
theorem rone_txt (S X : ByteArray) (c : UInt8) (n L : Nat) (w : World) (hS : S.size = L) (h0 : (0 : Int) < (L : Int)) (hn : n ≤ L) (hL : L ≤ 4096) (hg : ∀ h, S[0]'h = c) (hx : S.extract 0 n = X)
    (Lt : ∀ W, Calls Tryz.prog 27 #[.int .u8 (c.toNat : Int)] W fun e w' => e = .returned (.bool false) ∧ W = w')
    (Dg : ∀ W, Calls Tryz.prog 28 #[.int .u8 (c.toNat : Int)] W fun e w' => e = .returned (.bool false) ∧ W = w')
    (h39 : ((c.toNat : Int) == 39) = true) (Qt : ∀ W, Calls Tryz.prog 34 #[.string S] W fun e w' => e = .returned (.int .i64 (n : Int)) ∧ W = w')
    (vk vn vm E : Int) (vb : ByteArray) (V : ∀ W, Calls Tryz.prog 36 #[.string X] W fun e w' => e = .returned (.tuple #[va vk vn vm vb, .int .i64 E]) ∧ Below W.heap.size W w') :
    Calls Tryz.prog 23 #[.string S] w fun e w' => e = .returned (.tuple #[.agg #[.int .i64 3, .string X, .int .i64 vk, .int .i64 vn, .int .i64 vm, .string vb, .int .i64 0], .bool (E == 0)]) ∧ Below w.heap.size w w' := by
  have j1 : (0 : Int) ≤ (n : Int) := by omega
  have j2 : (n : Int) ≤ (L : Int) := by omega
  have Z0 : Cbox ((w.alloc (.cells Z7 40)).alloc (.cells Z7 40)) w.heap.size Z7 40 := (Cbox.new w _ _).later ((Below.refl _ _).alloc (Nat.le_refl _) _)
  have Z1 : Cbox ((w.alloc (.cells Z7 40)).alloc (.cells Z7 40)) (w.heap.size + 1) Z7 40 := by
    have := Cbox.new (w.alloc (.cells Z7 40)) Z7 40
    rwa [World.size_alloc] at this
  go_enter Tryz.func23, Tryz.ntmps23
  go_wp2_with (first
    | (go_at_call 27; refine (Lt _).mono ?_; rintro e w' ⟨rfl, rfl⟩)
    | (go_at_call 28; refine (Dg _).mono ?_; rintro e w' ⟨rfl, rfl⟩)
    | (go_at_call 34; refine (Qt _).mono ?_; rintro e w' ⟨rfl, rfl⟩)
    | (go_at_call 36; refine (V _).mono ?_; rintro e w1 ⟨rfl, b1⟩; have zz := Z0.later b1; have z0 := zz.at 0; have z1 := zz.at 1; have z2 := zz.at 2; have z3 := zz.at 3; have z4 := zz.at 4; have z5 := zz.at 5; have z6 := zz.at 6; have f0 := zz.free 0; have f1 := zz.free 1; have f2 := zz.free 2; have f3 := zz.free 3; have f4 := zz.free 4; have f5 := zz.free 5; have f6 := zz.free 6; have lt1 := zz.lt; have B1 : Below w.heap.size w w1 := (((Below.refl _ w).alloc (Nat.le_refl _) _).alloc (by simp) _).trans (b1.mono (by simp; omega)); have hs1 := B1.size; clear zz))
  go_region
  all_goals go_wp2
  all_goals refine bodyPost_ret_by (v := .tuple #[.agg #[.int .i64 3, .string X, .int .i64 vk, .int .i64 vn, .int .i64 vm, .string vb, .int .i64 0], .bool (E == 0)]) ?_ rfl ⟨rfl, ?_⟩
  all_goals first
    | (simp [results, Tryz.results23, go_sem, z0, z1, z2, z3, z4, z5, z6, lt1]; done)
    | (repeat (first | with_reducible exact B1 | with_reducible refine bl_set ?_ _ | with_reducible refine Below.drew ?_ | with_reducible refine Below.alloc ?_ (by simp; omega) _ | with_reducible refine bl_set2 ?_ (by omega) _))

set_option maxRecDepth 20000 in
set_option maxHeartbeats 4000000 in
theorem rone_sgn (S X : ByteArray) (c : UInt8) (n L : Nat) (w : World) (hS : S.size = L) (h0 : (0 : Int) < (L : Int)) (hn : n ≤ L) (hL : L ≤ 4096) (hg : ∀ h, S[0]'h = c) (hx : S.extract 0 n = X)
    (Lt : ∀ W, Calls Tryz.prog 27 #[.int .u8 (c.toNat : Int)] W fun e w' => e = .returned (.bool false) ∧ W = w')
    (Dg : ∀ W, Calls Tryz.prog 28 #[.int .u8 (c.toNat : Int)] W fun e w' => e = .returned (.bool false) ∧ W = w')
    (h39 : ((c.toNat : Int) == 39) = false) (Sg : ∀ W, Calls Tryz.prog 35 #[.string S] W fun e w' => e = .returned (.int .i64 (n : Int)) ∧ Below W.heap.size W w') :
    Calls Tryz.prog 23 #[.string S] w fun e w' => e = .returned (.tuple #[.agg #[.int .i64 2, .string X, .int .i64 0, .int .i64 0, .int .i64 0, .string ⟨#[]⟩, .int .i64 0], .bool (decide (0 < n))]) ∧ Below w.heap.size w w' := by
  have j1 : (0 : Int) ≤ (n : Int) := by omega
  have j2 : (n : Int) ≤ (L : Int) := by omega
  have Z0 : Cbox ((w.alloc (.cells Z7 40)).alloc (.cells Z7 40)) w.heap.size Z7 40 := (Cbox.new w _ _).later ((Below.refl _ _).alloc (Nat.le_refl _) _)
  have Z1 : Cbox ((w.alloc (.cells Z7 40)).alloc (.cells Z7 40)) (w.heap.size + 1) Z7 40 := by
    have := Cbox.new (w.alloc (.cells Z7 40)) Z7 40
    rwa [World.size_alloc] at this
  go_enter Tryz.func23, Tryz.ntmps23
  go_wp2_with (first
    | (go_at_call 27; refine (Lt _).mono ?_; rintro e w' ⟨rfl, rfl⟩)
    | (go_at_call 28; refine (Dg _).mono ?_; rintro e w' ⟨rfl, rfl⟩)
    | (go_at_call 35; refine (Sg _).mono ?_; rintro e w1 ⟨rfl, b1⟩; have zz := Z0.later b1; have z0 := zz.at 0; have z1 := zz.at 1; have z2 := zz.at 2; have z3 := zz.at 3; have z4 := zz.at 4; have z5 := zz.at 5; have z6 := zz.at 6; have f0 := zz.free 0; have f1 := zz.free 1; have f2 := zz.free 2; have f3 := zz.free 3; have f4 := zz.free 4; have f5 := zz.free 5; have f6 := zz.free 6; have lt1 := zz.lt; have yy := Z1.later b1; have y0 := yy.at 0; have y1 := yy.at 1; have y2 := yy.at 2; have y3 := yy.at 3; have y4 := yy.at 4; have y5 := yy.at 5; have y6 := yy.at 6; have g0 := yy.free 0; have g1 := yy.free 1; have g2 := yy.free 2; have g3 := yy.free 3; have g4 := yy.free 4; have g5 := yy.free 5; have g6 := yy.free 6; have ly1 := yy.lt; clear yy; have B1 : Below w.heap.size w w1 := (((Below.refl _ w).alloc (Nat.le_refl _) _).alloc (by simp) _).trans (b1.mono (by simp; omega)); have hs1 := B1.size; clear zz))
  all_goals go_wp2
  all_goals refine bodyPost_ret_by (v := .tuple #[.agg #[.int .i64 2, .string X, .int .i64 0, .int .i64 0, .int .i64 0, .string ⟨#[]⟩, .int .i64 0], .bool (decide (0 < n))]) ?_ rfl ⟨rfl, ?_⟩
  all_goals first
    | (simp [results, Tryz.results23, go_sem, z0, z1, z2, z3, z4, z5, z6]; done)
    | (repeat (first | with_reducible exact B1 | with_reducible refine bl_set ?_ _ | with_reducible refine Below.drew ?_ | with_reducible refine Below.alloc ?_ (by simp; omega) _ | with_reducible refine bl_set2 ?_ (by omega) _))

set_option maxRecDepth 20000 in
set_option maxHeartbeats 4000000 in
theorem rone_wrd (l : List UInt8) (S X : ByteArray) (c : UInt8) (n L : Nat) (w : World) (hS : S.size = L) (h0 : (0 : Int) < (L : Int)) (hn : n ≤ L) (hL : L ≤ 4096) (hg : ∀ h, S[0]'h = c) (hx : S.extract 0 n = X) (HG : Hid (∀ (k : Nat) h, S[k]'h = bat l k)) (HL : Hid (l.length = L)) (HN : Hid (n = 0 + wordN (l.drop 0)))
    (Lt : ∀ W, Calls Tryz.prog 27 #[.int .u8 (c.toNat : Int)] W fun e w' => e = .returned (.bool true) ∧ W = w')
    (LL : ∀ c, ∀ W, Calls Tryz.prog 27 #[.int .u8 (c.toNat : Int)] W fun e w' => e = .returned (.bool (isL c)) ∧ W = w')
    (DD : ∀ c, ∀ W, Calls Tryz.prog 28 #[.int .u8 (c.toNat : Int)] W fun e w' => e = .returned (.bool (isD c)) ∧ W = w')
    (b : Bool) (Wd : ∀ W, Calls Tryz.prog 20 #[.string X] W fun e w' => e = .returned (.bool b) ∧ W = w') :
    Calls Tryz.prog 23 #[.string S] w fun e w' => e = .returned (.tuple #[.agg #[.int .i64 1, .string X, .int .i64 0, .int .i64 0, .int .i64 0, .string ⟨#[]⟩, .int .i64 0], .bool b]) ∧ Below w.heap.size w w' := by
  have j1 : (0 : Int) ≤ (n : Int) := by omega
  have j2 : (n : Int) ≤ (L : Int) := by omega
  have Z0 : Cbox ((w.alloc (.cells Z7 40)).alloc (.cells Z7 40)) w.heap.size Z7 40 := (Cbox.new w _ _).later ((Below.refl _ _).alloc (Nat.le_refl _) _)
  have Z1 : Cbox ((w.alloc (.cells Z7 40)).alloc (.cells Z7 40)) (w.heap.size + 1) Z7 40 := by
    have := Cbox.new (w.alloc (.cells Z7 40)) Z7 40
    rwa [World.size_alloc] at this
  go_enter Tryz.func23, Tryz.ntmps23
  go_wp2_with (go_at_call 27; refine (Lt _).mono ?_; rintro e w' ⟨rfl, rfl⟩)
  clear Lt
  go_loopw [4] (fun r4 wr => ∃ k : Nat, r4 = .int .i64 (k : Int) ∧ k ≤ L ∧ wr = ((w.alloc (.cells Z7 40)).alloc (.cells Z7 40)) ∧ Hid (n = k + wordN (l.drop k))) (fun r _ => L - (intOf r).toNat)
  case atStart => exact ⟨0, rfl, Nat.zero_le _, rfl, HN⟩
  case round =>
    obtain ⟨k, rfl, hk, rfl, hH⟩ := hrel
    by_cases hlt : k < L
    · have hlt' : (k : Int) < (L : Int) := by omega
      have i0 : (0 : Int) ≤ (k : Int) := by omega
      have hgk := HG.out k
      have hw := wordN_bat l k
      obtain ⟨d, hd⟩ : ∃ d, d = bat l k := ⟨_, rfl⟩
      rw [← hd] at hgk hw
      have Lk := LL d
      have Dk := DD d
      clear HG LL DD hd HN
      cases hdl : isL d with
      | true =>
        rw [hdl] at Lk
        have hH' : Hid (n = (k + 1) + wordN (l.drop (k + 1))) := by
          show n = _
          rw [hH.out, hw, if_pos (by simp [isW, hdl])]; omega
        clear hH hw hdl
        go_wp2_with (first
          | (go_at_call 27; refine (Lk _).mono ?_; rintro e w' ⟨rfl, rfl⟩)
          | (go_at_call 28; refine (Dk _).mono ?_; rintro e w' ⟨rfl, rfl⟩))
        exact ⟨⟨k + 1, by rw [cast1], by omega, by first | trivial | rfl, hH'⟩, by simp [intOf] <;> omega⟩
      | false =>
        rw [hdl] at Lk
        cases hdd : isD d with
        | true =>
          rw [hdd] at Dk
          have hH' : Hid (n = (k + 1) + wordN (l.drop (k + 1))) := by
            show n = _
            rw [hH.out, hw, if_pos (by simp [isW, hdd])]; omega
          clear hH hw hdl hdd
          go_wp2_with (first
            | (go_at_call 27; refine (Lk _).mono ?_; rintro e w' ⟨rfl, rfl⟩)
            | (go_at_call 28; refine (Dk _).mono ?_; rintro e w' ⟨rfl, rfl⟩))
          exact ⟨⟨k + 1, by rw [cast1], by omega, by first | trivial | rfl, hH'⟩, by simp [intOf] <;> omega⟩
        | false =>
          rw [hdd] at Dk
          have hH' : n = k := by rw [hH.out, hw, if_neg (by simp [isW, hdl, hdd])]; rfl
          clear hH hw hdl hdd
          subst hH'
          go_wp2_with (first
            | (go_at_call 27; refine (Lk _).mono ?_; rintro e w' ⟨rfl, rfl⟩)
            | (go_at_call 28; refine (Dk _).mono ?_; rintro e w' ⟨rfl, rfl⟩))
          go_region_with (go_at_call 20; refine (Wd _).mono ?_; rintro e w' ⟨rfl, rfl⟩)
          all_goals go_wp2
          all_goals refine bodyPost_ret_by (v := .tuple #[.agg #[.int .i64 1, .string X, .int .i64 0, .int .i64 0, .int .i64 0, .string ⟨#[]⟩, .int .i64 0], .bool b]) ?_ rfl ⟨rfl, ?_⟩
          all_goals first
            | (simp [results, Tryz.results23, go_sem]; done)
            | (repeat (first | with_reducible exact Below.refl _ _ | with_reducible refine bl_set ?_ _ | with_reducible refine Below.drew ?_ | with_reducible refine Below.alloc ?_ (by simp) _ | with_reducible refine bl_set2 ?_ (by omega) _))
    · have hlt' : ¬ (k : Int) < (L : Int) := by omega
      have hH' : n = k := by
        rw [hH.out, List.drop_eq_nil_of_le (by have := HL.out; omega)]; rfl
      clear hH HG LL DD HN
      subst hH'
      go_wp2
      go_region_with (go_at_call 20; refine (Wd _).mono ?_; rintro e w' ⟨rfl, rfl⟩)
      all_goals go_wp2
      all_goals refine bodyPost_ret_by (v := .tuple #[.agg #[.int .i64 1, .string X, .int .i64 0, .int .i64 0, .int .i64 0, .string ⟨#[]⟩, .int .i64 0], .bool b]) ?_ rfl ⟨rfl, ?_⟩
      all_goals first
        | (simp [results, Tryz.results23, go_sem]; done)
        | (repeat (first | with_reducible exact Below.refl _ _ | with_reducible refine bl_set ?_ _ | with_reducible refine Below.drew ?_ | with_reducible refine Below.alloc ?_ (by simp) _ | with_reducible refine bl_set2 ?_ (by omega) _))
end Go.Proofs.YtlfeficldhlbaaaGreatDoor

namespace Go.Proofs.YtlfeficldhlbaaaGreatDoor
open Go.RowKit Go.Shelf
attribute [local go_sem] cell?_more frozen?_more setCell_more more_lt more_more more_drew more_drewN setCell_drewN alloc_drewN

set_option maxHeartbeats 2000000 in
theorem rparse_nil (w : World) : Calls Tryz.prog 36 #[.string ⟨#[]⟩] w fun e w' => e = .returned (.tuple #[va 0 0 0 ⟨#[]⟩, .int .i64 21]) ∧ Below w.heap.size w w' := by
  go_enter Tryz.func36, Tryz.ntmps36
  go_wp2
  refine bodyPost_ret_by (v := .tuple #[va 0 0 0 ⟨#[]⟩, .int .i64 21]) ?_ rfl ⟨rfl, ?_⟩
  · simp [results, Tryz.results36, go_sem]
  · exact ((Below.refl _ w).alloc (Nat.le_refl _) _).alloc (by simp) _

theorem wordN_take (m : List UInt8) : wordN (m.take (wordN m)) = wordN m := by
  induction m with
  | nil => rfl
  | cons c m ih =>
    by_cases h : isW c = true
    · rw [show wordN (c :: m) = wordN m + 1 by rw [wordN, if_pos h], List.take_succ_cons, wordN, if_pos h, ih]
    · rw [show wordN (c :: m) = 0 by rw [wordN, if_neg h]]; rfl

theorem rone_any (c : UInt8) (m : List UInt8) (w : World) (hl : (c :: m).length ≤ 4096) :
    Calls Tryz.prog 23 #[.string ⟨(c :: m).toArray⟩] w fun e w' => (match tok vz dpv (c :: m) 0 with | none => ∃ x : Tok, e = .returned (.tuple #[tkv x, .bool false]) | some x => e = .returned (.tuple #[tkv x, .bool true])) ∧ Below w.heap.size w w' := by
  have hS : (ByteArray.mk (c :: m).toArray).size = (c :: m).length := rfl
  have h0 : (0 : Int) < ((c :: m).length : Int) := by simp
  have hg : ∀ h, (ByteArray.mk (c :: m).toArray)[0]'h = c := fun h => rfl
  have hle := lxt_le (c :: m)
  have hX : ∀ n, (ByteArray.mk (c :: m).toArray).extract 0 n = ⟨((c :: m).take n).toArray⟩ := fun n => by rw [ba_extract]; rfl
  have Lt := fun W => rletter_any c W
  have Dg := fun W => rdigit_any c W
  have hlit := lit_take (c :: m)
  have hk := kind_le (c :: m)
  have q39 := eqInt c 39
  cases hL : isL c with
  | true =>
    rw [hL] at Lt
    have hlx : lxt (c :: m) = (1, wordN m + 1) := by rw [lxt_cons, if_pos hL]
    have hwn : wordN m + 1 = 0 + wordN ((c :: m).drop 0) := by rw [List.drop_zero, wordN, if_pos (by simp [isW, hL])]; omega
    have hn : wordN m + 1 ≤ (c :: m).length := by rw [hlx] at hle; exact hle
    have hwl : wordL ((c :: m).take (wordN m + 1)) = decide (wordN m + 1 ≤ 32) := by
      have hlm : (m.take (wordN m)).length = wordN m := by rw [List.length_take]; have := wordN_le m; omega
      unfold wordL
      rw [List.take_succ_cons, lxt_cons, if_pos hL, wordN_take, List.length_cons, hlm]
      simp
    have Wd : ∀ W, Calls Tryz.prog 20 #[.string ⟨((c :: m).take (wordN m + 1)).toArray⟩] W fun e w' => e = .returned (.bool (decide (wordN m + 1 ≤ 32))) ∧ W = w' := fun W => by
      have := rword_any ((c :: m).take (wordN m + 1)) W (by rw [List.length_take]; omega)
      rwa [hwl] at this
    refine (rone_wrd (c :: m) _ _ c (wordN m + 1) (c :: m).length w hS h0 hn hl hg (hX _) (bat_get (c :: m)) rfl hwn Lt (fun c W => rletter_any c W) (fun c W => rdigit_any c W) _ Wd).mono ?_
    rintro e w' ⟨rfl, hb⟩
    refine ⟨?_, hb⟩
    unfold tok
    rw [hlx]
    simp only
    by_cases h32 : wordN m + 1 ≤ 32
    · rw [decide_eq_true h32]
      simp [h32]
    · rw [decide_eq_false h32]
      simp only [h32]
      exact ⟨⟨1, (c :: m).take (wordN m + 1), vz, 0⟩, rfl⟩
  | false =>
    rw [hL] at Lt
    cases hD : isD c with
    | true =>
      rw [hD] at Dg
      have hlx : lxt (c :: m) = (3, numN m + 1) := by rw [lxt_cons, if_neg (by simp [hL]), if_pos hD]
      have hnn : numN (c :: m) = numN m + 1 := by rw [numN, if_pos hD]
      have hn : numN m + 1 ≤ (c :: m).length := by rw [hlx] at hle; exact hle
      have Nm : ∀ W, Calls Tryz.prog 33 #[.string ⟨(c :: m).toArray⟩] W fun e w' => e = .returned (.int .i64 ((numN m + 1 : Nat) : Int)) ∧ W = w' := fun W => by
        have := rnumber5_any (c :: m) W hl
        rwa [hnn] at this
      rw [hlx] at hlit
      have V := fun W => rparse_any ((c :: m).take (numN m + 1)) W (by rw [List.length_take]; omega) (hlit rfl) (by
        intro h
        have : c = 39 := by simpa using h
        rw [this] at hD; cases hD)
      unfold tok
      rw [hlx]
      simp only
      cases hv : dpv ((c :: m).take (numN m + 1)) with
      | none =>
        rw [hv] at V
        refine (rone_num _ _ c (numN m + 1) (c :: m).length w hS h0 hn hl hg (hX _) Lt Dg Nm 0 0 0 21 ⟨#[]⟩ V).mono ?_
        rintro e w' ⟨rfl, hb⟩
        exact ⟨⟨⟨3, (c :: m).take (numN m + 1), vz, 0⟩, rfl⟩, hb⟩
      | some v =>
        rw [hv] at V
        exact rone_num _ _ c (numN m + 1) (c :: m).length w hS h0 hn hl hg (hX _) Lt Dg Nm v.k v.n v.m 0 ⟨v.b.toArray⟩ V
    | false =>
      rw [hD] at Dg
      by_cases hq : c = 39
      · subst hq
        have Qt := fun W => rquoted5_any (39 :: m) W hl (by simp)
        cases ht : textN m with
        | none =>
          have hlx : lxt (39 :: m) = (0, 0) := by rw [lxt_cons, if_neg (by simp [hL]), if_neg (by simp [hD]), if_pos rfl, ht]
          have Qt' : ∀ W, Calls Tryz.prog 34 #[.string ⟨(39 :: m).toArray⟩] W fun e w' => e = .returned (.int .i64 ((0 : Nat) : Int)) ∧ W = w' := fun W => by
            have := Qt W
            rw [show (39 :: m).drop 1 = m from rfl, ht] at this
            exact this
          refine (rone_txt _ _ 39 0 (39 :: m).length w hS h0 (by omega) hl hg (hX 0) Lt Dg (by decide) Qt' 0 0 0 21 ⟨#[]⟩ (fun W => rparse_nil W)).mono ?_
          rintro e w' ⟨rfl, hb⟩
          refine ⟨?_, hb⟩
          unfold tok
          rw [hlx]
          exact ⟨⟨3, [], vz, 0⟩, rfl⟩
        | some n =>
          have hlx : lxt (39 :: m) = (3, n + 1) := by rw [lxt_cons, if_neg (by simp [hL]), if_neg (by simp [hD]), if_pos rfl, ht]
          have hn1 := textN_le m n ht
          have hn : n + 1 ≤ (39 :: m).length := by simp; omega
          have Qt' : ∀ W, Calls Tryz.prog 34 #[.string ⟨(39 :: m).toArray⟩] W fun e w' => e = .returned (.int .i64 ((n + 1 : Nat) : Int)) ∧ W = w' := fun W => by
            have := Qt W
            rw [show (39 :: m).drop 1 = m from rfl, ht] at this
            exact this
          rw [hlx] at hlit
          have V := fun W => rparse_any ((39 :: m).take (n + 1)) W (by rw [List.length_take]; omega) (hlit rfl) (fun _ => by rw [List.length_take]; omega)
          unfold tok
          rw [hlx]
          simp only
          cases hv : dpv ((39 :: m).take (n + 1)) with
          | none =>
            rw [hv] at V
            refine (rone_txt _ _ 39 (n + 1) (39 :: m).length w hS h0 hn hl hg (hX _) Lt Dg (by decide) Qt' 0 0 0 21 ⟨#[]⟩ V).mono ?_
            rintro e w' ⟨rfl, hb⟩
            exact ⟨⟨⟨3, (39 :: m).take (n + 1), vz, 0⟩, rfl⟩, hb⟩
          | some v =>
            rw [hv] at V
            exact rone_txt _ _ 39 (n + 1) (39 :: m).length w hS h0 hn hl hg (hX _) Lt Dg (by decide) Qt' v.k v.n v.m 0 ⟨v.b.toArray⟩ V
      · have h39 : ((c.toNat : Int) == 39) = false := by rw [decide_eq_false hq] at q39; exact q39
        have Sg : ∀ W, Calls Tryz.prog 35 #[.string ⟨(c :: m).toArray⟩] W fun e w' => e = .returned (.int .i64 ((if (lxt (c :: m)).1 = 2 then (lxt (c :: m)).2 else 0 : Nat) : Int)) ∧ Below W.heap.size W w' := fun W => (rsign_any c m W hL hD hq).mono fun e w' ⟨h1, h2⟩ => ⟨h1, h2.below⟩
        have h02 : (lxt (c :: m)).1 = 0 ∨ (lxt (c :: m)).1 = 2 := by
          rw [lxt_cons, if_neg (by simp [hL]), if_neg (by simp [hD]), if_neg hq]
          repeat' split
          all_goals simp
        rcases h02 with h | h
        · rw [if_neg (by rw [h]; decide)] at Sg
          refine (rone_sgn _ _ c 0 (c :: m).length w hS h0 (by omega) hl hg (hX 0) Lt Dg h39 Sg).mono ?_
          rintro e w' ⟨rfl, hb⟩
          refine ⟨?_, hb⟩
          unfold tok
          rw [if_pos h]
          exact ⟨⟨2, [], vz, 0⟩, rfl⟩
        · rw [if_pos h] at Sg
          have hp := lxt_pos (c :: m) (by rw [h]; decide)
          have R := rone_sgn _ _ c (lxt (c :: m)).2 (c :: m).length w hS h0 hle hl hg (hX _) Lt Dg h39 Sg
          rw [decide_eq_true (show 0 < (lxt (c :: m)).2 by omega)] at R
          refine R.mono ?_
          rintro e w' ⟨rfl, hb⟩
          refine ⟨?_, hb⟩
          unfold tok
          rw [h, if_neg (by decide), if_neg (by decide), if_neg (by decide)]
          rfl
end Go.Proofs.YtlfeficldhlbaaaGreatDoor

namespace Go.Proofs.YtlfeficldhlbaaaGreatDoor
open Go.RowKit Go.Shelf
attribute [local go_sem] cell?_more frozen?_more setCell_more more_lt more_more more_drew more_drewN setCell_drewN alloc_drewN

/-- Tokens of the document's that a call has made lie behind a slice. -/
abbrev Rowns (w : World) (base : Nat) (v : Value) (x : List Tok) : Prop := w.ownsRow base 40 7 v x.length (tcells x)
theorem Rowns.later {w w' : World} {base : Nat} {v : Value} {x : List Tok} (h : Rowns w base v x) (hb : Below w.heap.size w w') : Rowns w' base v x :=
  World.ownsRow.kept (row := none) h ⟨hb.os, hb.tape, hb.output, hb.size, fun k hk _ => hb.block k hk⟩ (by
    cases hv : v.ownBlock with
    | none => exact .inl rfl
    | some k => exact .inr (by simp))
theorem rnews_tok (w : World) (o : Obj) (x : Tok) : ∀ j u, (tcs x).toList[j]? = some u → ((w.alloc o).alloc (.cells (tcs x) 40)).cell? ((⟨w.heap.size + 1, 0, none⟩ : Addr).add j) = some u := by
  have h := Cbox.new (w.alloc o) (tcs x) 40
  rw [World.size_alloc] at h
  exact World.news_of_block h
theorem Rowns.push {w : World} {base n : Nat} {v : Value} {acc : List Tok} {x : Tok} (h : w.ownsRow base 40 7 v n (tcells acc ++ (tcs x).toList)) (hn : n = acc.length + 1) : Rowns w base v (acc ++ [x]) := by
  unfold Rowns
  rw [tcells_snoc, List.length_append]
  subst hn
  exact h
/-- What the document's Split answers. -/
def rsplitP (R : Option (List Tok)) (base : Nat) (e : Ending) (w' : World) : Prop := match R with
  | none => e = .returned (.tuple #[.slice none 0 0, .int .i64 30])
  | some x => ∃ v, e = .returned (.tuple #[v, .int .i64 0]) ∧ Rowns w' base v x
theorem rinfoTok : (Tryz.prog.info? 40).map (fun i => (i.zero, i.size, i.bytes)) = some (some (.agg #[.int .i64 0, .string ⟨#[]⟩, .int .i64 0, .int .i64 0, .int .i64 0, .string ⟨#[]⟩, .int .i64 0]), 7, 72) := by kernel_rfl

set_option maxRecDepth 20000 in
set_option maxHeartbeats 4000000 in
theorem rsplit_any (l : List UInt8) (w : World) (hl : l.length ≤ 4096) :
    Calls Tryz.prog 10 #[.string ⟨l.toArray⟩] w fun e w' => rsplitP (lexL vz dpv l 0) w.heap.size e w' ∧ Below w.heap.size w w' := by
  have hsz : (ByteArray.mk l.toArray).size = l.length := rfl
  have hl' : ¬ (4096 : Int) < (l.length : Int) := by omega
  have HG : Hid (∀ (k : Nat) h, (ByteArray.mk l.toArray)[k]'h = bat l k) := bat_get l
  have HX : Hid (∀ k, (ByteArray.mk l.toArray).extract k l.length = ⟨(l.drop k).toArray⟩) := fun k => by rw [ba_extract, List.take_length]
  have TA : Hid (∀ (k : Nat) W, k < l.length → Calls Tryz.prog 23 #[.string ⟨(l.drop k).toArray⟩] W fun e w' => (match tok vz dpv (l.drop k) 0 with | none => ∃ x : Tok, e = .returned (.tuple #[tkv x, .bool false]) | some x => e = .returned (.tuple #[tkv x, .bool true])) ∧ Below W.heap.size W w') := fun k W h => by
    rw [bat_drop l k h]
    exact rone_any _ _ W (by rw [← bat_drop l k h, List.length_drop]; omega)
  obtain ⟨R, hR⟩ : ∃ R, R = lexL vz dpv l 0 := ⟨_, rfl⟩
  rw [← hR]
  have h0 : Hid (R = (lexL vz dpv (l.drop 0) 0).map ([] ++ ·)) := by
    show R = _
    rw [hR, List.drop_zero]
    cases lexL vz dpv l 0 <;> rfl
  clear hR
  generalize ByteArray.mk l.toArray = S at *
  obtain ⟨i0, hi, hz0, hz1, hz2⟩ := info_parts rinfoTok
  go_enter Tryz.func10, Tryz.ntmps10
  go_wp2
  go_loopw [4, 5] (fun r4 r5 wr => ∃ (acc : List Tok) (k : Nat), r5 = .int .i64 (k : Int) ∧ k ≤ l.length ∧ acc.length ≤ k ∧ Rowns wr w.heap.size r4 acc ∧ Below w.heap.size w wr ∧ Hid (R = (lexL vz dpv (l.drop k) k).map (acc ++ ·))) (fun _ r _ => l.length - (intOf r).toNat)
  case atStart => exact ⟨[], 0, rfl, Nat.zero_le _, Nat.zero_le _, World.ownsRow_nil _ _ _ _, Below.refl _ _, h0⟩
  case round =>
    obtain ⟨acc, k, rfl, hk, hak, ho, hb, hH⟩ := hrel
    have sB := hb.size
    by_cases hlt : k < l.length
    · have hlt' : (k : Int) < (l.length : Int) := by omega
      have j0 : (0 : Int) ≤ (k : Int) := by omega
      have hgk := HG.out k
      have hxk := HX.out k
      have TK := TA.out k
      have hdr := bat_drop l k hlt
      obtain ⟨c, hc⟩ : ∃ c, c = bat l k := ⟨_, rfl⟩
      rw [← hc] at hgk hdr
      cases hB : isB c with
      | true =>
        have hH' : Hid (R = (lexL vz dpv (l.drop (k + 1)) (k + 1)).map (acc ++ ·)) := by
          show R = _
          rw [hH.out, hdr, lex_blank _ _ _ hB]
        have hcc : c = 32 ∨ c = 9 ∨ c = 10 := by
          unfold isB at hB
          simp at hB
          rcases hB with h | h | h
          · exact .inl (UInt8.toNat_inj.1 h)
          · exact .inr (.inl (UInt8.toNat_inj.1 h))
          · exact .inr (.inr (UInt8.toNat_inj.1 h))
        clear hH hdr hc hB HG HX TA TK hxk h0
        rcases hcc with hcc | hcc | hcc
        · have p32 : ((c.toNat : Int) == 32) = true := by rw [hcc]; rfl
          clear hcc
          go_wp2
          exact ⟨⟨acc, k + 1, by rw [cast1], by omega, by omega, ho, hb, hH'⟩, by simp [intOf] <;> omega⟩
        · have p32 : ((c.toNat : Int) == 32) = false := by rw [hcc]; rfl
          have p9 : ((c.toNat : Int) == 9) = true := by rw [hcc]; rfl
          clear hcc
          go_wp2
          exact ⟨⟨acc, k + 1, by rw [cast1], by omega, by omega, ho, hb, hH'⟩, by simp [intOf] <;> omega⟩
        · have p32 : ((c.toNat : Int) == 32) = false := by rw [hcc]; rfl
          have p9 : ((c.toNat : Int) == 9) = false := by rw [hcc]; rfl
          have p10 : ((c.toNat : Int) == 10) = true := by rw [hcc]; rfl
          clear hcc
          go_wp2
          exact ⟨⟨acc, k + 1, by rw [cast1], by omega, by omega, ho, hb, hH'⟩, by simp [intOf] <;> omega⟩
      | false =>
        have hn32 : ((c.toNat : Int) == 32) = false ∧ ((c.toNat : Int) == 9) = false ∧ ((c.toNat : Int) == 10) = false := by
          unfold isB at hB
          simp at hB
          refine ⟨?_, ?_, ?_⟩ <;> (rw [beq_eq_false_iff_ne]; omega)
        obtain ⟨p32, p9, p10⟩ := hn32
        have hhere := lex_tok (z := vz) (f := dpv) c (l.drop (k + 1)) k hB
        rw [← hdr] at hhere
        have hta : tok vz dpv (l.drop k) k = (tok vz dpv (l.drop k) 0).map (tshift k) := by
          have := tok_at (z := vz) (f := dpv) (l.drop k) 0 k
          rwa [Nat.zero_add] at this
        rw [hta] at hhere
        generalize ByteArray.mk (l.drop k).toArray = X at *
        cases ht : tok vz dpv (l.drop k) 0 with
        | none =>
          rw [ht] at TK hhere
          have hR' : Hid (R = none) := by
            show R = none
            rw [hH.out, hhere]; rfl
          clear hH hhere ht hta hdr hc hB HG HX TA h0 ho
          go_wp2_with (go_at_call 23; refine (TK _ hlt).mono ?_; rintro e w1 ⟨⟨⟨xk, xt, xv, xa⟩, rfl⟩, b1⟩)
          refine bodyPost_ret_by (v := .tuple #[.slice none 0 0, .int .i64 30]) ?_ rfl ⟨?_, ?_⟩
          · simp [results, Tryz.results10, go_sem]
          · rw [hR'.out]; exact rfl
          · exact (hb.trans (b1.mono sB)).alloc (by have := b1.size; omega) _
        | some x =>
          rw [ht] at TK hhere
          obtain ⟨hxt, h2, h3, h4, h5⟩ := tok_len ht
          have h6 := lxt_le (l.drop k)
          rw [List.length_drop] at h6
          obtain ⟨xk, xt, xv, xa⟩ := x
          have hkx : k + xt.length ≤ l.length := by simp at h2; omega
          have hx1 : 1 ≤ xt.length := by simp at h2; omega
          have hstep : Hid (R = (lexL vz dpv (l.drop (k + xt.length)) (k + xt.length)).map ((acc ++ [⟨xk, xt, xv, k⟩]) ++ ·)) := by
            show R = _
            rw [hH.out, hhere]
            have ea : xa = 0 := h4
            subst ea
            show ((lexL vz dpv ((l.drop k).drop xt.length) (k + xt.length)).map (tshift k ⟨xk, xt, xv, 0⟩ :: ·)).map (acc ++ ·) = _
            rw [List.drop_drop, show tshift k (⟨xk, xt, xv, 0⟩ : Tok) = ⟨xk, xt, xv, k⟩ by simp [tshift]]
            cases lexL vz dpv (l.drop (k + xt.length)) (k + xt.length) <;> simp
          have hsx : (ByteArray.mk xt.toArray).size = xt.length := rfl
          have e1 : ((k + xt.length : Nat) : Int) = (k : Int) + (xt.length : Int) := by omega
          clear hH hhere ht hta hdr hc hB HG HX TA h0 hxt h2 h3 h4 h5 h6
          go_wp2_with (first
            | (go_at_call 23; refine (TK _ hlt).mono ?_; rintro e w1 ⟨rfl, b1⟩; have s1 := b1.size; have hb1 : Below w.heap.size w w1 := hb.trans (b1.mono sB); have ho1 := ho.later b1; clear b1 ho TK)
            | (at_builtin; refine wpList_append_own _ rfl _ _ 26 rfl w.heap.size 40 i0 (.agg #[.int .i64 0, .string ⟨#[]⟩, .int .i64 0, .int .i64 0, .int .i64 0, .string ⟨#[]⟩, .int .i64 0]) 7 72 Tryz.underlying26 hi hz0 hz1 hz2 rfl (by decide) _ _ _ rfl (World.ownsRow.alloc (World.ownsRow.alloc ho1 _) _) ⟨w1.heap.size + 1, 0, none⟩ 1 1 (tcs ⟨xk, xt, xv, k⟩).toList rfl rfl (rnews_tok w1 _ ⟨xk, xt, xv, k⟩) (one_tok ⟨xk, xt, xv, k⟩) (by unfold maxLen; omega) (by omega) (by simp; omega) ?_))
          intro v2 w2 hown2 hgrow2 _
          have hb2 : Below w.heap.size w w2 := (((hb1.alloc (by omega) _).alloc (by simp; omega) _).grown hgrow2 (by simp; omega) (fun k hk => (World.ownsRow.lt ho1 k hk).1))
          have ho2 := Rowns.push (x := ⟨xk, xt, xv, k⟩) hown2 rfl
          have hcb : Cbox ((w1.alloc (.cells (tcs ⟨xk, xt, xv, k⟩) 40)).alloc (.cells (tcs ⟨xk, xt, xv, k⟩) 40)) w1.heap.size (tcs ⟨xk, xt, xv, k⟩) 40 := (Cbox.new w1 _ _).later ((Below.refl _ _).alloc (Nat.le_refl _) _)
          have hcb2 := hcb.grown hgrow2 (fun h => by have := (World.ownsRow.lt ho1 _ h.symm).2; omega)
          have c1 := hcb2.at 1
          have lt1 := hcb2.lt
          clear hcb hcb2 hown2 hgrow2 ho1 hb1 hb
          go_wp2
          exact ⟨⟨acc ++ [⟨xk, xt, xv, k⟩], k + xt.length, by rw [e1], by omega, by simp; omega, ho2, hb2, hstep⟩, by simp [intOf] <;> omega⟩
    · have hlt' : ¬ (k : Int) < (l.length : Int) := by omega
      have hR' : Hid (R = some acc) := by
        show R = _
        rw [hH.out, List.drop_eq_nil_of_le (by omega), lex_nil]
        simp
      clear hH h0 HG HX TA
      go_wp2
      refine bodyPost_ret_by (v := .tuple #[u4, .int .i64 0]) ?_ rfl ⟨?_, hb⟩
      · simp [results, Tryz.results10, go_sem]
      · rw [hR'.out]; exact ⟨_, rfl, ho⟩
end Go.Proofs.YtlfeficldhlbaaaGreatDoor
