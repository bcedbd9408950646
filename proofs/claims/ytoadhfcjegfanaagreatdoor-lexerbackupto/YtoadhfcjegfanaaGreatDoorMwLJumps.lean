/-
  The contracts of the lexer's small functions: byteAt, isLetter, isDigit, fitsName, the library's IndexByte, pastBlanks.
  A scope with several labels: what holds at each of them whenever it is jumped to, and a measure. Nothing of the program is in it.
-/
import Derived.Test.YtoadhfcjegfanaaGreatDoorChecked
import Derived.Test.YtoadhfcjegfanaaGreatDoorLPlain
import Derived.Test.YtoadhfcjegfanaaGreatDoorMbVLogic
import Derived.WalkKit
import Derived.WalkMore
import Derived.WalkSpells
import Derived.WalkLawsBesides
import Derived.Below
import Derived.Laws.IdiomStrings
import Derived.ScopeJumps
import Derived.Tactics
namespace Go.Proofs.YtoadhfcjegfanaaGreatDoor
open Go.RowKit

/-- The byte at a place; 0 past the end. -/
def bat (l : List UInt8) (i : Nat) : UInt8 := l.getD i 0

theorem byteAt_any (l : List UInt8) (i : Nat) (w : World) : Calls Tryz.prog 53 #[.string ⟨l.toArray⟩, .int .i64 (i : Int)] w fun e w' => e = .returned (.int .u8 ((bat l i).toNat : Int)) ∧ w = w' := by
  have hs : (ByteArray.mk l.toArray).size = l.length := rfl
  by_cases h : i < l.length
  · have h1 : (i : Int) < (l.length : Int) := by omega
    have h2 : (0 : Int) ≤ (i : Int) := by omega
    have hg : ∀ h, (ByteArray.mk l.toArray)[i]'h = bat l i := fun h' => by
      show l[i] = _
      unfold bat
      simp [List.getD, h]
    generalize bat l i = c at *
    generalize ByteArray.mk l.toArray = B at *
    go_enter Tryz.func53, Tryz.ntmps53
    go_wp2
    go_ret
    exact ⟨rfl, rfl⟩
  · have h1 : ¬ (i : Int) < (l.length : Int) := by omega
    have hg : bat l i = 0 := by
      unfold bat
      rw [List.getD_eq_getElem?_getD, List.getElem?_eq_none (by omega)]
      rfl
    rw [hg]
    generalize ByteArray.mk l.toArray = B at *
    go_enter Tryz.func53, Tryz.ntmps53
    go_wp2
    go_ret
    exact ⟨rfl, rfl⟩

theorem isDigit_any (c : UInt8) (w : World) : Calls Tryz.prog 55 #[.int .u8 (c.toNat : Int)] w fun e w' => e = .returned (.bool (isD c)) ∧ w = w' := by
  have e : isD c = (decide ((48 : Int) ≤ (c.toNat : Int)) && decide ((c.toNat : Int) ≤ 57)) := by
    unfold isD
    have e1 : decide (48 ≤ c.toNat) = decide ((48 : Int) ≤ (c.toNat : Int)) := by simp; omega
    have e2 : decide (c.toNat ≤ 57) = decide ((c.toNat : Int) ≤ 57) := by simp; omega
    rw [e1, e2]
  rw [e]
  generalize (c.toNat : Int) = n
  by_cases h1 : (48 : Int) ≤ n
  · rw [decide_eq_true h1]
    go_enter Tryz.func55, Tryz.ntmps55
    go_wp2
    go_ret
    exact ⟨rfl, rfl⟩
  · rw [decide_eq_false h1]
    go_enter Tryz.func55, Tryz.ntmps55
    go_wp2
    go_ret
    exact ⟨rfl, rfl⟩

theorem isLetter_any (c : UInt8) (w : World) : Calls Tryz.prog 54 #[.int .u8 (c.toNat : Int)] w fun e w' => e = .returned (.bool (isL c)) ∧ w = w' := by
  have e : isL c = ((decide ((97 : Int) ≤ (c.toNat : Int)) && decide ((c.toNat : Int) ≤ 122)) || ((c.toNat : Int) == 95)) := by
    unfold isL
    have e1 : decide (97 ≤ c.toNat) = decide ((97 : Int) ≤ (c.toNat : Int)) := by simp; omega
    have e2 : decide (c.toNat ≤ 122) = decide ((c.toNat : Int) ≤ 122) := by simp; omega
    have e3 : decide (c.toNat = 95) = ((c.toNat : Int) == 95) := by
      by_cases h : c.toNat = 95
      · rw [h]; rfl
      · rw [decide_eq_false h]; symm; rw [beq_eq_false_iff_ne]; omega
    rw [e1, e2, e3]
  rw [e]
  generalize (c.toNat : Int) = n
  by_cases h1 : (97 : Int) ≤ n
  · rw [decide_eq_true h1]
    by_cases h2 : n ≤ 122
    · rw [decide_eq_true h2]
      go_enter Tryz.func54, Tryz.ntmps54
      go_wp2
      go_ret
      exact ⟨rfl, rfl⟩
    · rw [decide_eq_false h2]
      go_enter Tryz.func54, Tryz.ntmps54
      go_wp2
      go_ret
      exact ⟨rfl, rfl⟩
  · rw [decide_eq_false h1]
    go_enter Tryz.func54, Tryz.ntmps54
    go_wp2
    go_ret
    exact ⟨rfl, rfl⟩

theorem fitsName_any (B : ByteArray) (w : World) : Calls Tryz.prog 38 #[.string B] w fun e w' => e = .returned (.bool (decide (B.size ≤ 32))) ∧ w = w' := by
  have h : decide (B.size ≤ 32) = decide ((B.size : Int) ≤ 32) := by simp; omega
  rw [h]
  go_enter Tryz.func38, Tryz.ntmps38
  go_wp2
  go_ret
  exact ⟨rfl, rfl⟩

theorem ixb_at (B : ByteArray) (c : UInt8) (r : Int) (h : firstIdx B c = r) (w : World) : (callFunc 101 #[.string B, .int .u8 (c.toNat : Int)]).run Tryz.prog w = .ok (.value (.int .i64 r)) w := by
  rw [run_callFunc_extern Tryz.func101 (by kernel_rfl) (by kernel_rfl) (by kernel_rfl) (e := Extern.BytealgIndexByte.indexByte) (by kernel_rfl), run_indexByte_string]
  rw [show ((c.toNat : Int).toNat.toUInt8) = c by simp, h]
  rfl

theorem ixbLite_any (B : ByteArray) (c : UInt8) (w : World) : Calls Tryz.prog 77 #[.string B, .int .u8 (c.toNat : Int)] w fun e w' => e = .returned (.int .i64 (firstIdx B c)) ∧ w = w' := by
  have F := fun w => ixb_at B c _ rfl w
  generalize firstIdx B c = r at *
  generalize (c.toNat : Int) = n at *
  go_enter Tryz.func77, Tryz.ntmps77
  go_wp2
  go_ret
  exact ⟨rfl, rfl⟩

theorem indexByte_any (B : ByteArray) (c : UInt8) (w : World) : Calls Tryz.prog 56 #[.string B, .int .u8 (c.toNat : Int)] w fun e w' => e = .returned (.int .i64 (firstIdx B c)) ∧ w = w' := by
  have F := fun w => ixbLite_any B c w
  generalize firstIdx B c = r at *
  generalize (c.toNat : Int) = n at *
  go_enter Tryz.func56, Tryz.ntmps56
  go_wp2_with (go_at_call 77; refine (F _).mono ?_; rintro e w' ⟨rfl, rfl⟩)
  go_ret
  exact ⟨rfl, rfl⟩

theorem blanks_idx (c : UInt8) : decide ((0 : Int) ≤ firstIdx ⟨#[32, 9, 10]⟩ c) = isB c := by
  have h : ∀ n : Nat, n < 256 → decide ((0 : Int) ≤ firstIdx ⟨#[32, 9, 10]⟩ n.toUInt8) = isB n.toUInt8 := by decide +kernel
  have := h c.toNat c.toNat_lt
  simpa using this
theorem signs_idx (c : UInt8) : decide ((0 : Int) ≤ firstIdx ⟨#[40, 41, 44, 46, 59, 42, 43, 45, 47, 37, 61]⟩ c) = isS c := by
  have h : ∀ n : Nat, n < 256 → decide ((0 : Int) ≤ firstIdx ⟨#[40, 41, 44, 46, 59, 42, 43, 45, 47, 37, 61]⟩ n.toUInt8) = isS n.toUInt8 := by decide +kernel
  have := h c.toNat c.toNat_lt
  simpa using this

theorem bat_drop (l : List UInt8) (i : Nat) (h : i < l.length) : l.drop i = bat l i :: l.drop (i + 1) := by
  rw [List.drop_eq_getElem_cons h]
  unfold bat
  simp [List.getD, h]
theorem bat_out (l : List UInt8) (i : Nat) (h : l.length ≤ i) : bat l i = 0 := by
  unfold bat
  rw [List.getD_eq_getElem?_getD, List.getElem?_eq_none (by omega)]
  rfl

set_option maxRecDepth 10000 in
theorem pastBlanks_any (l : List UInt8) (i : Nat) (w : World) (hl : l.length ≤ 140737488351232) (hi : i ≤ l.length) : Calls Tryz.prog 41 #[.string ⟨l.toArray⟩, .int .i64 (i : Int)] w fun e w' => e = .returned (.int .i64 ((i + blankN (l.drop i) : Nat) : Int)) ∧ w = w' := by
  have B : ∀ k W, Calls Tryz.prog 53 #[.string ⟨l.toArray⟩, .int .i64 ((k : Nat) : Int)] W fun e w' => e = .returned (.int .u8 ((bat l k).toNat : Int)) ∧ W = w' := fun k W => byteAt_any l k W
  have X : ∀ (c : UInt8) W, Calls Tryz.prog 56 #[.string ⟨#[32, 9, 10]⟩, .int .u8 (c.toNat : Int)] W fun e w' => e = .returned (.int .i64 (firstIdx ⟨#[32, 9, 10]⟩ c)) ∧ W = w' := fun c W => indexByte_any _ c W
  obtain ⟨R, hR⟩ : ∃ R, R = i + blankN (l.drop i) := ⟨_, rfl⟩
  rw [← hR]
  have HR : Hid (R = i + blankN (l.drop i)) := hR
  clear hR
  go_enter Tryz.func41, Tryz.ntmps41
  go_wp2
  go_loopw [1] (fun r wr => ∃ k : Nat, r = .int .i64 (k : Int) ∧ k ≤ l.length ∧ w = wr ∧ Hid (R = k + blankN (l.drop k))) (fun r _ => l.length - (intOf r).toNat)
  case atStart => exact ⟨i, rfl, hi, rfl, HR⟩
  case round =>
    obtain ⟨k, rfl, hk, rfl, hH⟩ := hrel
    have Bk := B k
    have Xk := X (bat l k)
    have e := blanks_idx (bat l k)
    cases hb : isB (bat l k) with
    | true =>
      rw [hb] at e
      have e' := of_decide_eq_true e
      have hlt : k < l.length := by
        rcases Nat.lt_or_ge k l.length with h | h
        · exact h
        · rw [bat_out l k h] at hb; cases hb
      have hH' : Hid (R = (k + 1) + blankN (l.drop (k + 1))) := by
        show R = _
        rw [hH.out, bat_drop l k hlt]
        simp only [blankN, hb, if_true]
        omega
      generalize firstIdx ⟨#[32, 9, 10]⟩ (bat l k) = q at *
      generalize ((bat l k).toNat : Int) = c at *
      clear B X hb e hH HR
      generalize ByteArray.mk l.toArray = S at *
      go_wp2_with (first
        | (go_at_call 53; refine (Bk _).mono ?_; rintro e w' ⟨rfl, rfl⟩)
        | (go_at_call 56; refine (Xk _).mono ?_; rintro e w' ⟨rfl, rfl⟩))
      go_roundw
      case rel => exact ⟨k + 1, by go_num, by omega, trivial, hH'⟩
      case measure => simp [intOf]; omega
    | false =>
      rw [hb] at e
      have e' := of_decide_eq_false e
      have hH' : Hid (R = k) := by
        show R = _
        rw [hH.out]
        rcases Nat.lt_or_ge k l.length with h | h
        · rw [bat_drop l k h]; simp [blankN, hb]
        · rw [List.drop_eq_nil_of_le h]; simp [blankN]
      generalize firstIdx ⟨#[32, 9, 10]⟩ (bat l k) = q at *
      generalize ((bat l k).toNat : Int) = c at *
      clear B X hb e hH HR
      generalize ByteArray.mk l.toArray = S at *
      go_wp2_with (first
        | (go_at_call 53; refine (Bk _).mono ?_; rintro e w' ⟨rfl, rfl⟩)
        | (go_at_call 56; refine (Xk _).mono ?_; rintro e w' ⟨rfl, rfl⟩))
      go_ret
      exact ⟨by rw [hH'.out]; rfl, rfl⟩
end Go.Proofs.YtoadhfcjegfanaaGreatDoor

namespace Go.Proofs.YtoadhfcjegfanaaGreatDoor

/-- As Q; by a goto: what J says of its label. -/
def jumpsTo (J : Nat → Act → World → Prop) (Q : Exit → Act → World → Prop) : Exit → Act → World → Prop
  | .goto l, a, w => J l a w
  | e, a, w => Q e a w

theorem wp_scope_multi {P : Program} {a : Act} {w : World} {Q : Exit → Act → World → Prop} {c : Code} (J : Nat → Act → World → Prop) (μ : Nat → Act → World → Nat)
    (first : c.wp P (jumpsTo J Q) a w)
    (pass : ∀ l a w, J l a w → ∃ rest, findLabel c l = some rest ∧ rest.wp P (jumpsTo (fun l' a' w' => J l' a' w' ∧ μ l' a' w' < μ l a w) Q) a w) : (Code.scope c).wp P Q a w := by
  intro b k cs
  have key : ∀ n l a w, μ l a w = n → J l a w → ∃ rest, findLabel c l = some rest ∧ ∃ e a' w', Q e a' w' ∧ Arrives P (lone (b.at a (.code rest :: .inScope c :: k)) cs w) b k cs e a' w' := by
    intro n
    induction n using Nat.strongRecOn with
    | _ n ih =>
      intro l a w hn hJ
      obtain ⟨rest, hf, hp⟩ := pass l a w hJ
      refine ⟨rest, hf, ?_⟩
      obtain ⟨e, a₁, w₁, hq, harr⟩ := hp b (.inScope c :: k) cs
      cases e with
      | normal => exact ⟨.normal, a₁, w₁, hq, Steps.trans harr (.one step_inScope)⟩
      | exit id => exact ⟨.exit id, a₁, w₁, hq, fun k' hk => harr k' (by simp [exitTo, hk])⟩
      | goto l' =>
        obtain ⟨hJ', hlt⟩ := hq
        obtain ⟨rest', hf', e₂, a₂, w₂, hq₂, harr₂⟩ := ih _ (by omega) l' a₁ w₁ rfl hJ'
        have hg : gotoIn l' (.inScope c :: k) = some (.code rest' :: .inScope c :: k) := by simp [gotoIn, hf']
        exact ⟨e₂, a₂, w₂, hq₂, .of_steps (harr _ hg) harr₂⟩
      | ret => exact ⟨_, a₁, w₁, hq, harr⟩
      | panic ch => exact ⟨_, a₁, w₁, hq, harr⟩
      | outgrown => exact ⟨_, a₁, w₁, hq, harr⟩
  obtain ⟨e, a₁, w₁, hq, harr⟩ := first b (.inScope c :: k) cs
  cases e with
  | normal => exact ⟨.normal, a₁, w₁, hq, .head step_scope (Steps.trans harr (.one step_inScope))⟩
  | exit id => exact ⟨.exit id, a₁, w₁, hq, fun k' hk => .head step_scope (harr k' (by simp [exitTo, hk]))⟩
  | goto l' =>
    obtain ⟨rest', hf', e₂, a₂, w₂, hq₂, harr₂⟩ := key _ l' a₁ w₁ rfl hq
    have hg : gotoIn l' (.inScope c :: k) = some (.code rest' :: .inScope c :: k) := by simp [gotoIn, hf']
    exact ⟨e₂, a₂, w₂, hq₂, .of_steps (.head step_scope (harr _ hg)) harr₂⟩
  | ret => exact ⟨_, a₁, w₁, hq, .of_steps (.one step_scope) harr⟩
  | panic ch => exact ⟨_, a₁, w₁, hq, .of_steps (.one step_scope) harr⟩
  | outgrown => exact ⟨_, a₁, w₁, hq, .of_steps (.one step_scope) harr⟩
end Go.Proofs.YtoadhfcjegfanaaGreatDoor
