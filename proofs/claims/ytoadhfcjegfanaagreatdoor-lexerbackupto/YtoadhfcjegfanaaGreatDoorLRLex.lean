/-
  The document's lexer: its small functions.
-/
import Derived.Test.YtoadhfcjegfanaaGreatDoorLTold
import Derived.BigRegion
namespace Go.Proofs.YtoadhfcjegfanaaGreatDoor
open Go.RowKit

theorem rdigit_any (c : UInt8) (w : World) : Calls Tryz.prog 40 #[.int .u8 (c.toNat : Int)] w fun e w' => e = .returned (.bool (isD c)) ∧ w = w' := by
  have e : isD c = (decide ((48 : Int) ≤ (c.toNat : Int)) && decide ((c.toNat : Int) ≤ 57)) := by
    unfold isD
    have e1 : decide (48 ≤ c.toNat) = decide ((48 : Int) ≤ (c.toNat : Int)) := by simp; omega
    have e2 : decide (c.toNat ≤ 57) = decide ((c.toNat : Int) ≤ 57) := by simp; omega
    rw [e1, e2]
  rw [e]
  generalize (c.toNat : Int) = n
  by_cases h1 : (48 : Int) ≤ n
  · rw [decide_eq_true h1]
    go_enter Tryz.func40, Tryz.ntmps40
    go_wp2
    go_ret
    exact ⟨rfl, rfl⟩
  · rw [decide_eq_false h1]
    go_enter Tryz.func40, Tryz.ntmps40
    go_wp2
    go_ret
    exact ⟨rfl, rfl⟩

theorem rletter_any (c : UInt8) (w : World) : Calls Tryz.prog 39 #[.int .u8 (c.toNat : Int)] w fun e w' => e = .returned (.bool (isL c)) ∧ w = w' := by
  have e : isL c = ((decide ((97 : Int) ≤ (c.toNat : Int)) && decide ((c.toNat : Int) ≤ 122)) || ((c.toNat : Int) == 95)) := by
    unfold isL
    have e1 : decide (97 ≤ c.toNat) = decide ((97 : Int) ≤ (c.toNat : Int)) := by simp; omega
    have e2 : decide (c.toNat ≤ 122) = decide ((c.toNat : Int) ≤ 122) := by simp; omega
    have e3 : decide (c.toNat = 95) = ((c.toNat : Int) == 95) := by
      by_cases h : c.toNat = 95
      · rw [h]; rfl
      · rw [decide_eq_false h]; symm; rw [beq_eq_false_iff_ne]; omega
    rw [e1, e2, e3]
  rw [e]
  generalize (c.toNat : Int) = n
  by_cases h1 : (97 : Int) ≤ n
  · rw [decide_eq_true h1]
    by_cases h2 : n ≤ 122
    · rw [decide_eq_true h2]
      go_enter Tryz.func39, Tryz.ntmps39
      go_wp2
      go_ret
      exact ⟨rfl, rfl⟩
    · rw [decide_eq_false h2]
      go_enter Tryz.func39, Tryz.ntmps39
      go_wp2
      go_ret
      exact ⟨rfl, rfl⟩
  · rw [decide_eq_false h1]
    go_enter Tryz.func39, Tryz.ntmps39
    go_wp2
    go_ret
    exact ⟨rfl, rfl⟩

/-- A text's bytes, one by one. -/
theorem bat_get (l : List UInt8) : ∀ (k : Nat) h, (ByteArray.mk l.toArray)[k]'h = bat l k := fun k h => by
  have h' : k < l.length := h
  show l[k] = _
  unfold bat
  simp [List.getD, h']

set_option maxRecDepth 20000 in
set_option maxHeartbeats 4000000 in
theorem rnumber5_any (l : List UInt8) (w : World) (hl : l.length ≤ 4096) : Calls Tryz.prog 73 #[.string ⟨l.toArray⟩] w fun e w' => e = .returned (.int .i64 ((numN l : Nat) : Int)) ∧ w = w' := by
  have hs : (ByteArray.mk l.toArray).size = l.length := rfl
  have HG : Hid (∀ (k : Nat) h, (ByteArray.mk l.toArray)[k]'h = bat l k) := bat_get l
  obtain ⟨R, hR⟩ : ∃ R, R = numN l := ⟨_, rfl⟩
  rw [← hR]
  have HR : Hid (R = 0 + numN (l.drop 0)) := by show R = _; rw [hR, List.drop_zero, Nat.zero_add]
  clear hR
  have DD : ∀ c, ∀ W, Calls Tryz.prog 40 #[.int .u8 (c.toNat : Int)] W fun e w' => e = .returned (.bool (isD c)) ∧ W = w' := fun c W => rdigit_any c W
  generalize ByteArray.mk l.toArray = S at *
  go_enter Tryz.func73, Tryz.ntmps73
  go_wp2
  go_loopw [3, 4] (fun r3 r4 wr => ∃ (k : Nat) (p : Bool), r4 = .int .i64 (k : Int) ∧ r3 = .bool p ∧ k ≤ l.length ∧ w = wr ∧ Hid (R = k + (if p then digN (l.drop k) else numN (l.drop k)))) (fun _ r _ => l.length - (intOf r).toNat)
  case atStart => exact ⟨0, false, rfl, rfl, Nat.zero_le _, rfl, HR⟩
  case round =>
    obtain ⟨k, p, rfl, rfl, hk, rfl, hH⟩ := hrel
    by_cases hlt : k < l.length
    · have hlt' : (k : Int) < (l.length : Int) := by omega
      have j0 : (0 : Int) ≤ (k : Int) := by omega
      have hgk := HG.out k
      have hn := numN_bat l k
      have hd := digN_bat l k
      have q46 := eqInt (bat l k) 46
      obtain ⟨c, hc⟩ : ∃ c, c = bat l k := ⟨_, rfl⟩
      rw [← hc] at hgk hn hd q46
      have Dk := DD c
      clear HG DD hc HR
      cases hcd : isD c with
      | true =>
        rw [hcd] at Dk
        have hH' : Hid (R = (k + 1) + (if p then digN (l.drop (k + 1)) else numN (l.drop (k + 1)))) := by
          show R = _
          have e1 : numN (l.drop k) = numN (l.drop (k + 1)) + 1 := by rw [hn, if_pos hcd]
          have e2 : digN (l.drop k) = digN (l.drop (k + 1)) + 1 := by rw [hd, if_pos hcd]
          rw [hH.out, e1, e2]
          cases p
          · show k + (numN (l.drop (k + 1)) + 1) = k + 1 + numN (l.drop (k + 1)); omega
          · show k + (digN (l.drop (k + 1)) + 1) = k + 1 + digN (l.drop (k + 1)); omega
        clear hH hn hd q46 hcd
        go_wp2_with (go_at_call 40; refine (Dk _).mono ?_; rintro e w' ⟨rfl, rfl⟩)
        exact ⟨⟨k + 1, p, by rw [cast1], rfl, by omega, trivial, hH'⟩, by simp [intOf] <;> omega⟩
      | false =>
        rw [hcd] at Dk
        by_cases h46 : c = 46
        · have p46 : ((c.toNat : Int) != 46) = false := by rw [h46]; rfl
          cases p with
          | false =>
            have hH' : Hid (R = (k + 1) + (if true then digN (l.drop (k + 1)) else numN (l.drop (k + 1)))) := by
              show R = _
              have h := hH.out
              simp only [Bool.false_eq_true, if_false] at h
              rw [h, hn, if_neg (by simp [hcd]), if_pos h46]
              simp only [if_true]; omega
            clear hH hn hd q46 hcd h46
            go_wp2_with (go_at_call 40; refine (Dk _).mono ?_; rintro e w' ⟨rfl, rfl⟩)
            exact ⟨⟨k + 1, true, by rw [cast1], rfl, by omega, trivial, hH'⟩, by simp [intOf] <;> omega⟩
          | true =>
            have hH' : Hid (R = k) := by
              show R = _
              have h := hH.out
              simp only [if_true] at h
              rw [h, hd, if_neg (by simp [hcd]), Nat.add_zero]
            clear hH hn hd q46 hcd h46
            go_wp2_with (go_at_call 40; refine (Dk _).mono ?_; rintro e w' ⟨rfl, rfl⟩)
            go_ret
            exact ⟨by rw [hH'.out]; rfl, rfl⟩
        · have p46 : ¬ (c.toNat : Int) = 46 := fun h => h46 (UInt8.toNat_inj.1 (by show c.toNat = 46; omega))
          have hH' : Hid (R = k) := by
            show R = _
            have e1 : numN (l.drop k) = 0 := by rw [hn, if_neg (by simp [hcd]), if_neg h46]
            have e2 : digN (l.drop k) = 0 := by rw [hd, if_neg (by simp [hcd])]
            rw [hH.out, e1, e2]
            cases p <;> rfl
          clear hH hn hd q46 hcd h46
          go_wp2_with (go_at_call 40; refine (Dk _).mono ?_; rintro e w' ⟨rfl, rfl⟩)
          go_ret
          exact ⟨by rw [hH'.out]; rfl, rfl⟩
    · have hlt' : ¬ (k : Int) < (l.length : Int) := by omega
      have hH' : Hid (R = l.length) := by
        show R = _
        rw [hH.out, List.drop_eq_nil_of_le (by omega)]
        cases p <;> simp [digN, numN] <;> omega
      clear hH HR HG DD
      go_wp2
      go_ret
      exact ⟨by rw [hH'.out]; rfl, rfl⟩

set_option maxRecDepth 20000 in
set_option maxHeartbeats 4000000 in
theorem rquoted5_any (l : List UInt8) (w : World) (hl : l.length ≤ 4096) (h0 : 1 ≤ l.length) : Calls Tryz.prog 74 #[.string ⟨l.toArray⟩] w fun e w' => e = .returned (.int .i64 (((match textN (l.drop 1) with | none => 0 | some n => n + 1) : Nat) : Int)) ∧ w = w' := by
  have hs : (ByteArray.mk l.toArray).size = l.length := rfl
  have HG : Hid (∀ (k : Nat) h, (ByteArray.mk l.toArray)[k]'h = bat l k) := bat_get l
  obtain ⟨R, hR⟩ : ∃ R : Nat, R = (match textN (l.drop 1) with | none => 0 | some n => n + 1) := ⟨_, rfl⟩
  rw [← hR]
  have HR : Hid (∀ T, T = (textN (l.drop 1)).map (· + 1) → R = T.getD 0) := by
    show ∀ T, T = (textN (l.drop 1)).map (· + 1) → R = T.getD 0
    rintro T rfl
    rw [hR]
    cases textN (l.drop 1) <;> rfl
  clear hR
  obtain ⟨T, hT⟩ : ∃ T, T = (textN (l.drop 1)).map (· + 1) := ⟨_, rfl⟩
  have HRT : Hid (R = T.getD 0) := HR.out T hT
  have HT : Hid (T = (textN (l.drop 1)).map (· + 1)) := hT
  clear HR hT
  generalize ByteArray.mk l.toArray = S at *
  go_enter Tryz.func74, Tryz.ntmps74
  go_wp2
  go_loopw [3] (fun r3 wr => ∃ k : Nat, r3 = .int .i64 (k : Int) ∧ 1 ≤ k ∧ k ≤ l.length ∧ w = wr ∧ Hid (T = (textN (l.drop k)).map (· + k))) (fun r _ => l.length + 1 - (intOf r).toNat)
  case atStart => exact ⟨1, rfl, Nat.le_refl _, h0, rfl, HT⟩
  case round =>
    obtain ⟨k, rfl, k1, hk, rfl, hH⟩ := hrel
    by_cases hlt : k < l.length
    · have hlt' : (k : Int) < (l.length : Int) := by omega
      have j0 : (0 : Int) ≤ (k : Int) := by omega
      have hgk := HG.out k
      have hdr := bat_drop l k hlt
      have q39 := eqInt (bat l k) 39
      obtain ⟨c, hc⟩ : ∃ c, c = bat l k := ⟨_, rfl⟩
      rw [← hc] at hgk hdr q39
      by_cases hq : c = 39
      · have p39 : ((c.toNat : Int) == 39) = true := by rw [decide_eq_true hq] at q39; exact q39
        by_cases hl2 : k + 1 < l.length
        · have hl2' : (k : Int) + 1 < (l.length : Int) := by omega
          have j1 : (0 : Int) ≤ (k : Int) + 1 := by omega
          have hgk2 := HG.out (k + 1)
          have hdr2 := bat_drop l (k + 1) hl2
          have q2 := eqInt (bat l (k + 1)) 39
          obtain ⟨d, hd⟩ : ∃ d, d = bat l (k + 1) := ⟨_, rfl⟩
          rw [← hd] at hgk2 hdr2 q2
          by_cases hq2 : d = 39
          · have p2 : ((d.toNat : Int) == 39) = true := by rw [decide_eq_true hq2] at q2; exact q2
            have hH' : Hid (T = (textN (l.drop (k + 1 + 1))).map (· + (k + 1 + 1))) := by
              show T = _
              rw [hH.out, hdr, hdr2, hq, hq2, textN_two]
              cases textN (l.drop (k + 1 + 1)) <;> simp
              omega
            clear hH hdr hdr2 q39 q2 hq hq2 hc hd HG HT HRT
            go_wp2
            exact ⟨⟨k + 1 + 1, by rw [show ((k + 1 + 1 : Nat) : Int) = (k : Int) + 1 + 1 by omega], by omega, by omega, trivial, hH'⟩, by simp [intOf] <;> omega⟩
          · have p2 : ((d.toNat : Int) == 39) = false := by rw [decide_eq_false hq2] at q2; exact q2
            have hH' : Hid (R = k + 1) := by
              show R = _
              rw [HRT.out, hH.out, hdr, hdr2, hq, textN_end _ _ hq2]
              simp; omega
            clear hH hdr hdr2 q39 q2 hq hq2 hc hd HG HT HRT
            go_wp2
            go_ret
            exact ⟨by rw [hH'.out, cast1]; rfl, rfl⟩
        · have hl2' : ¬ (k : Int) + 1 < (l.length : Int) := by omega
          have hH' : Hid (R = k + 1) := by
            show R = _
            rw [HRT.out, hH.out, hdr, hq, List.drop_eq_nil_of_le (by omega), textN_last]
            simp; omega
          clear hH hdr q39 hq hc HG HT HRT
          go_wp2
          go_ret
          exact ⟨by rw [hH'.out, cast1]; rfl, rfl⟩
      · have p39 : ((c.toNat : Int) == 39) = false := by rw [decide_eq_false hq] at q39; exact q39
        have hH' : Hid (T = (textN (l.drop (k + 1))).map (· + (k + 1))) := by
          show T = _
          rw [hH.out, hdr, textN_cons _ _ hq]
          cases textN (l.drop (k + 1)) <;> simp
          omega
        clear hH hdr q39 hq hc HG HT HRT
        go_wp2
        exact ⟨⟨k + 1, by rw [cast1], by omega, by omega, trivial, hH'⟩, by simp [intOf] <;> omega⟩
    · have hlt' : ¬ (k : Int) < (l.length : Int) := by omega
      have hH' : Hid (R = 0) := by
        show R = _
        rw [HRT.out, hH.out, List.drop_eq_nil_of_le (by omega)]
        rfl
      clear hH HG HT HRT
      go_wp2
      go_ret
      exact ⟨by rw [hH'.out]; rfl, rfl⟩
end Go.Proofs.YtoadhfcjegfanaaGreatDoor
