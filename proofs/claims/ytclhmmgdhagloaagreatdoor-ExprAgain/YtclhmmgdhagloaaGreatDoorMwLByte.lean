/-
  The contract of datum.Parse at the texts of literals.
  The contracts of the lexer's small functions: byteAt, isLetter, isDigit, fitsName, the library's IndexByte, pastBlanks.
-/
import Derived.Test.YtclhmmgdhagloaaGreatDoorLNum
import Derived.Test.YtclhmmgdhagloaaGreatDoorChecked
import Derived.Test.YtclhmmgdhagloaaGreatDoorMaLJumps
import Derived.Test.YtclhmmgdhagloaaGreatDoorMeDWide3
import Derived.WalkKit
import Derived.WalkMore
import Derived.WalkSpells
import Derived.WalkLawsBesides
import Derived.Below
import Derived.Laws.IdiomStrings
namespace Go.Proofs.YtclhmmgdhagloaaGreatDoor
open Go.RowKit Go.Shelf
attribute [local go_sem] cell?_more frozen?_more setCell_more more_lt more_more more_drew more_drewN setCell_drewN alloc_drewN

/-- The value of a literal's text; none: it is none. -/
def dpv (t : List UInt8) : Option Va := if (tlv t).2 = true ∧ pv (tlv t).1 = t then some (tlv t).1 else none
/-- What Parse answers. -/
def dpR : Option Va → Value
  | none => .tuple #[va 0 0 0 ⟨#[]⟩, .int .i64 21]
  | some v => .tuple #[vv v, .int .i64 0]

theorem tlv_kind (t : List UInt8) : ((tlv t).1.k = 1 ∨ (tlv t).1.k = 2 ∨ (tlv t).1.k = 3) ∧ (-9223372036854775808 ≤ (tlv t).1.n ∧ (tlv t).1.n ≤ 9223372036854775807) := by
  unfold tlv
  split
  · split <;> exact ⟨by simp, by simp⟩
  · unfold tnv
    split
    · refine ⟨?_, by simp⟩
      simp only
      split <;> simp
    · rename_i b n s _
      refine ⟨?_, ?_⟩
      · simp only
        split <;> simp
      · simp only
        unfold nz
        split
        · rename_i h
          have := (fits_iff _).1 h
          exact this
        · simp

theorem ba_beq (a b : List UInt8) : ((ByteArray.mk a.toArray).toList == (ByteArray.mk b.toArray).toList) = decide (a = b) := by
  rw [ByteArray.toList_eq, ByteArray.toList_eq]
  show (a == b) = _
  by_cases h : a = b
  · subst h; simp
  · rw [decide_eq_false h, beq_eq_false_iff_ne]; exact h

set_option maxHeartbeats 2000000 in
theorem vparse_any (t : List UInt8) (w : World) (hl : t.length ≤ 140737488351232) (hh : litH t) (hT : Tabs w) (hP : Ptab w) : Calls Tryz.prog 134 #[.string ⟨t.toArray⟩] w fun e w' => e = .returned (dpR (dpv t)) ∧ Below w.heap.size w w' := by
  have T := fun W => vtold_any t W hl hh
  obtain ⟨hk, hn⟩ := tlv_kind t
  have P : ∀ W, Below w.heap.size w W → Calls Tryz.prog 62 #[vv (tlv t).1] W fun e w' => e = .returned (.string ⟨(pv (tlv t).1).toArray⟩) ∧ Below W.heap.size W w' := fun W h => vprint_any _ W (hT.later h) (hP.later h) hk hn
  unfold dpv
  have heq := ba_beq (pv (tlv t).1) t
  clear hT hP hk hn hh hl
  generalize pv (tlv t).1 = q at *
  rcases hx : tlv t with ⟨⟨k, n, m, b⟩, ok⟩
  rw [hx] at T P
  have T' : ∀ W, Calls Tryz.prog 197 #[.string ⟨t.toArray⟩] W fun e w' => e = .returned (.tuple #[va k n m ⟨b.toArray⟩, .bool ok]) ∧ Below W.heap.size W w' := T
  have P' : ∀ W, Below w.heap.size w W → Calls Tryz.prog 62 #[va k n m ⟨b.toArray⟩] W fun e w' => e = .returned (.string ⟨q.toArray⟩) ∧ Below W.heap.size W w' := P
  clear T P hx
  simp only
  cases ok with
  | false =>
    rw [if_neg (by simp)]
    show Calls _ _ _ _ fun e w' => e = .returned (.tuple #[va 0 0 0 ⟨#[]⟩, .int .i64 21]) ∧ _
    clear P' heq
    generalize ByteArray.mk t.toArray = B at *
    go_enter Tryz.func134, Tryz.ntmps134
    go_wp2_with fail
    refine (T' _).mono ?_
    rintro e w1 ⟨rfl, b1⟩
    have bx : Box w1 w.heap.size ⟨0, 0, 0, []⟩ := (Box.new w 0 0 0 []).later b1
    have B1 : Below w.heap.size w w1 := ((Below.refl _ w).alloc (Nat.le_refl _) _).trans (b1.mono (by simp))
    have s1 := B1.size
    obtain ⟨c0, c1, c2, c3⟩ := bx.at4
    have f0 := bx.free 0
    have f1 := bx.free 1
    have f2 := bx.free 2
    have f3 := bx.free 3
    have lt1 := bx.lt
    clear b1 bx
    go_wp2
    refine bodyPost_ret_by (v := .tuple #[va 0 0 0 ⟨#[]⟩, .int .i64 21]) ?_ rfl ⟨rfl, ?_⟩
    · simp [results, Tryz.results134, go_sem, c0, c1, c2, c3, lt1]
    · refine Below.alloc ?_ (by simp; omega) _
      have B2 := B1
      exact (((B2.setCell (p := ⟨w.heap.size, 0, none⟩) (Nat.le_refl _) _).setCell (p := ⟨w.heap.size, 1, none⟩) (Nat.le_refl _) _).setCell (p := ⟨w.heap.size, 2, none⟩) (Nat.le_refl _) _).setCell (p := ⟨w.heap.size, 3, none⟩) (Nat.le_refl _) _
  | true =>
    by_cases hqt : q = t
    · rw [if_pos ⟨rfl, hqt⟩]
      rw [decide_eq_true hqt] at heq
      show Calls _ _ _ _ fun e w' => e = .returned (.tuple #[va k n m ⟨b.toArray⟩, .int .i64 0]) ∧ _
      clear hqt
      generalize ByteArray.mk t.toArray = B at *
      generalize ByteArray.mk q.toArray = D at *
      go_enter Tryz.func134, Tryz.ntmps134
      go_wp2_with fail
      refine (T' _).mono ?_
      rintro e w1 ⟨rfl, b1⟩
      have bx0 : Box w1 w.heap.size ⟨0, 0, 0, []⟩ := (Box.new w 0 0 0 []).later b1
      have B1 : Below w.heap.size w w1 := ((Below.refl _ w).alloc (Nat.le_refl _) _).trans (b1.mono (by simp))
      have s1 := B1.size
      clear b1
      go_wp2_with fail
      refine (P' _ (B1.alloc s1 _)).mono ?_
      rintro e w2 ⟨rfl, b2⟩
      have bx1 : Box w2 w1.heap.size ⟨k, n, m, b⟩ := (Box.new w1 k n m b).later b2
      have b12 : Below w1.heap.size w1 w2 := ((Below.refl _ w1).alloc (Nat.le_refl _) _).trans (b2.mono (by simp))
      have bx2 := bx0.later b12
      have B2 : Below w.heap.size w w2 := B1.trans (b12.mono s1)
      obtain ⟨c0, c1, c2, c3⟩ := bx1.at4
      obtain ⟨d0, d1, d2, d3⟩ := bx2.at4
      have f0 := bx2.free 0
      have f1 := bx2.free 1
      have f2 := bx2.free 2
      have f3 := bx2.free 3
      have lt1 := bx2.lt
      have lt2 := bx1.lt
      clear bx0 bx1 bx2 B1 b12 b2 P' T'
      go_wp2
      refine bodyPost_ret_by (v := .tuple #[va k n m ⟨b.toArray⟩, .int .i64 0]) ?_ rfl ⟨rfl, ?_⟩
      · simp [results, Tryz.results134, go_sem, d0, d1, d2, d3]
      · exact (((B2.setCell (p := ⟨w.heap.size, 0, none⟩) (Nat.le_refl _) _).setCell (p := ⟨w.heap.size, 1, none⟩) (Nat.le_refl _) _).setCell (p := ⟨w.heap.size, 2, none⟩) (Nat.le_refl _) _).setCell (p := ⟨w.heap.size, 3, none⟩) (Nat.le_refl _) _
    · rw [if_neg (by rintro ⟨_, h⟩; exact hqt h)]
      rw [decide_eq_false hqt] at heq
      show Calls _ _ _ _ fun e w' => e = .returned (.tuple #[va 0 0 0 ⟨#[]⟩, .int .i64 21]) ∧ _
      clear hqt
      generalize ByteArray.mk t.toArray = B at *
      generalize ByteArray.mk q.toArray = D at *
      go_enter Tryz.func134, Tryz.ntmps134
      go_wp2_with fail
      refine (T' _).mono ?_
      rintro e w1 ⟨rfl, b1⟩
      have bx0 : Box w1 w.heap.size ⟨0, 0, 0, []⟩ := (Box.new w 0 0 0 []).later b1
      have B1 : Below w.heap.size w w1 := ((Below.refl _ w).alloc (Nat.le_refl _) _).trans (b1.mono (by simp))
      have s1 := B1.size
      clear b1
      go_wp2_with fail
      refine (P' _ (B1.alloc s1 _)).mono ?_
      rintro e w2 ⟨rfl, b2⟩
      have bx1 : Box w2 w1.heap.size ⟨k, n, m, b⟩ := (Box.new w1 k n m b).later b2
      have b12 : Below w1.heap.size w1 w2 := ((Below.refl _ w1).alloc (Nat.le_refl _) _).trans (b2.mono (by simp))
      have bx2 := bx0.later b12
      have B2 : Below w.heap.size w w2 := B1.trans (b12.mono s1)
      obtain ⟨d0, d1, d2, d3⟩ := bx2.at4
      have f0 := bx2.free 0
      have f1 := bx2.free 1
      have f2 := bx2.free 2
      have f3 := bx2.free 3
      have lt1 := bx2.lt
      clear bx0 bx1 bx2 B1 b12 b2 P' T'
      go_wp2
      refine bodyPost_ret_by (v := .tuple #[va 0 0 0 ⟨#[]⟩, .int .i64 21]) ?_ rfl ⟨rfl, ?_⟩
      · simp [results, Tryz.results134, go_sem, d0, d1, d2, d3]
      · exact (((B2.setCell (p := ⟨w.heap.size, 0, none⟩) (Nat.le_refl _) _).setCell (p := ⟨w.heap.size, 1, none⟩) (Nat.le_refl _) _).setCell (p := ⟨w.heap.size, 2, none⟩) (Nat.le_refl _) _).setCell (p := ⟨w.heap.size, 3, none⟩) (Nat.le_refl _) _
end Go.Proofs.YtclhmmgdhagloaaGreatDoor

namespace Go.Proofs.YtclhmmgdhagloaaGreatDoor
open Go.RowKit

/-- The byte at a place; 0 past the end. -/
def bat (l : List UInt8) (i : Nat) : UInt8 := l.getD i 0

theorem byteAt_any (l : List UInt8) (i : Nat) (w : World) : Calls Tryz.prog 131 #[.string ⟨l.toArray⟩, .int .i64 (i : Int)] w fun e w' => e = .returned (.int .u8 ((bat l i).toNat : Int)) ∧ w = w' := by
  have hs : (ByteArray.mk l.toArray).size = l.length := rfl
  by_cases h : i < l.length
  · have h1 : (i : Int) < (l.length : Int) := by omega
    have h2 : (0 : Int) ≤ (i : Int) := by omega
    have hg : ∀ h, (ByteArray.mk l.toArray)[i]'h = bat l i := fun h' => by
      show l[i] = _
      unfold bat
      simp [List.getD, h]
    generalize bat l i = c at *
    generalize ByteArray.mk l.toArray = B at *
    go_enter Tryz.func131, Tryz.ntmps131
    go_wp2
    go_ret
    exact ⟨rfl, rfl⟩
  · have h1 : ¬ (i : Int) < (l.length : Int) := by omega
    have hg : bat l i = 0 := by
      unfold bat
      rw [List.getD_eq_getElem?_getD, List.getElem?_eq_none (by omega)]
      rfl
    rw [hg]
    generalize ByteArray.mk l.toArray = B at *
    go_enter Tryz.func131, Tryz.ntmps131
    go_wp2
    go_ret
    exact ⟨rfl, rfl⟩

theorem isDigit_any (c : UInt8) (w : World) : Calls Tryz.prog 196 #[.int .u8 (c.toNat : Int)] w fun e w' => e = .returned (.bool (isD c)) ∧ w = w' := by
  have e : isD c = (decide ((48 : Int) ≤ (c.toNat : Int)) && decide ((c.toNat : Int) ≤ 57)) := by
    unfold isD
    have e1 : decide (48 ≤ c.toNat) = decide ((48 : Int) ≤ (c.toNat : Int)) := by simp; omega
    have e2 : decide (c.toNat ≤ 57) = decide ((c.toNat : Int) ≤ 57) := by simp; omega
    rw [e1, e2]
  rw [e]
  generalize (c.toNat : Int) = n
  by_cases h1 : (48 : Int) ≤ n
  · rw [decide_eq_true h1]
    go_enter Tryz.func196, Tryz.ntmps196
    go_wp2
    go_ret
    exact ⟨rfl, rfl⟩
  · rw [decide_eq_false h1]
    go_enter Tryz.func196, Tryz.ntmps196
    go_wp2
    go_ret
    exact ⟨rfl, rfl⟩

theorem isLetter_any (c : UInt8) (w : World) : Calls Tryz.prog 195 #[.int .u8 (c.toNat : Int)] w fun e w' => e = .returned (.bool (isL c)) ∧ w = w' := by
  have e : isL c = ((decide ((97 : Int) ≤ (c.toNat : Int)) && decide ((c.toNat : Int) ≤ 122)) || ((c.toNat : Int) == 95)) := by
    unfold isL
    have e1 : decide (97 ≤ c.toNat) = decide ((97 : Int) ≤ (c.toNat : Int)) := by simp; omega
    have e2 : decide (c.toNat ≤ 122) = decide ((c.toNat : Int) ≤ 122) := by simp; omega
    have e3 : decide (c.toNat = 95) = ((c.toNat : Int) == 95) := by
      by_cases h : c.toNat = 95
      · rw [h]; rfl
      · rw [decide_eq_false h]; symm; rw [beq_eq_false_iff_ne]; omega
    rw [e1, e2, e3]
  rw [e]
  generalize (c.toNat : Int) = n
  by_cases h1 : (97 : Int) ≤ n
  · rw [decide_eq_true h1]
    by_cases h2 : n ≤ 122
    · rw [decide_eq_true h2]
      go_enter Tryz.func195, Tryz.ntmps195
      go_wp2
      go_ret
      exact ⟨rfl, rfl⟩
    · rw [decide_eq_false h2]
      go_enter Tryz.func195, Tryz.ntmps195
      go_wp2
      go_ret
      exact ⟨rfl, rfl⟩
  · rw [decide_eq_false h1]
    go_enter Tryz.func195, Tryz.ntmps195
    go_wp2
    go_ret
    exact ⟨rfl, rfl⟩

theorem fitsName_any (B : ByteArray) (w : World) : Calls Tryz.prog 133 #[.string B] w fun e w' => e = .returned (.bool (decide (B.size ≤ 32))) ∧ w = w' := by
  have h : decide (B.size ≤ 32) = decide ((B.size : Int) ≤ 32) := by simp; omega
  rw [h]
  go_enter Tryz.func133, Tryz.ntmps133
  go_wp2
  go_ret
  exact ⟨rfl, rfl⟩

theorem ixb_at (B : ByteArray) (c : UInt8) (r : Int) (h : firstIdx B c = r) (w : World) : (callFunc 244 #[.string B, .int .u8 (c.toNat : Int)]).run Tryz.prog w = .ok (.value (.int .i64 r)) w := by
  rw [run_callFunc_extern Tryz.func244 (by kernel_rfl) (by kernel_rfl) (by kernel_rfl) (e := Extern.BytealgIndexByte.indexByte) (by kernel_rfl), run_indexByte_string]
  rw [show ((c.toNat : Int).toNat.toUInt8) = c by simp, h]
  rfl

theorem ixbLite_any (B : ByteArray) (c : UInt8) (w : World) : Calls Tryz.prog 194 #[.string B, .int .u8 (c.toNat : Int)] w fun e w' => e = .returned (.int .i64 (firstIdx B c)) ∧ w = w' := by
  have F := fun w => ixb_at B c _ rfl w
  generalize firstIdx B c = r at *
  generalize (c.toNat : Int) = n at *
  go_enter Tryz.func194, Tryz.ntmps194
  go_wp2
  go_ret
  exact ⟨rfl, rfl⟩

theorem indexByte_any (B : ByteArray) (c : UInt8) (w : World) : Calls Tryz.prog 130 #[.string B, .int .u8 (c.toNat : Int)] w fun e w' => e = .returned (.int .i64 (firstIdx B c)) ∧ w = w' := by
  have F := fun w => ixbLite_any B c w
  generalize firstIdx B c = r at *
  generalize (c.toNat : Int) = n at *
  go_enter Tryz.func130, Tryz.ntmps130
  go_wp2_with (go_at_call 194; refine (F _).mono ?_; rintro e w' ⟨rfl, rfl⟩)
  go_ret
  exact ⟨rfl, rfl⟩

theorem blanks_idx (c : UInt8) : decide ((0 : Int) ≤ firstIdx ⟨#[32, 9, 10]⟩ c) = isB c := by
  have h : ∀ n : Nat, n < 256 → decide ((0 : Int) ≤ firstIdx ⟨#[32, 9, 10]⟩ n.toUInt8) = isB n.toUInt8 := by decide +kernel
  have := h c.toNat c.toNat_lt
  simpa using this
theorem signs_idx (c : UInt8) : decide ((0 : Int) ≤ firstIdx ⟨#[40, 41, 44, 46, 59, 42, 43, 45, 47, 37, 61]⟩ c) = isS c := by
  have h : ∀ n : Nat, n < 256 → decide ((0 : Int) ≤ firstIdx ⟨#[40, 41, 44, 46, 59, 42, 43, 45, 47, 37, 61]⟩ n.toUInt8) = isS n.toUInt8 := by decide +kernel
  have := h c.toNat c.toNat_lt
  simpa using this

theorem bat_drop (l : List UInt8) (i : Nat) (h : i < l.length) : l.drop i = bat l i :: l.drop (i + 1) := by
  rw [List.drop_eq_getElem_cons h]
  unfold bat
  simp [List.getD, h]
theorem bat_out (l : List UInt8) (i : Nat) (h : l.length ≤ i) : bat l i = 0 := by
  unfold bat
  rw [List.getD_eq_getElem?_getD, List.getElem?_eq_none (by omega)]
  rfl

set_option maxRecDepth 10000 in
theorem pastBlanks_any (l : List UInt8) (i : Nat) (w : World) (hl : l.length ≤ 140737488351232) (hi : i ≤ l.length) : Calls Tryz.prog 71 #[.string ⟨l.toArray⟩, .int .i64 (i : Int)] w fun e w' => e = .returned (.int .i64 ((i + blankN (l.drop i) : Nat) : Int)) ∧ w = w' := by
  have B : ∀ k W, Calls Tryz.prog 131 #[.string ⟨l.toArray⟩, .int .i64 ((k : Nat) : Int)] W fun e w' => e = .returned (.int .u8 ((bat l k).toNat : Int)) ∧ W = w' := fun k W => byteAt_any l k W
  have X : ∀ (c : UInt8) W, Calls Tryz.prog 130 #[.string ⟨#[32, 9, 10]⟩, .int .u8 (c.toNat : Int)] W fun e w' => e = .returned (.int .i64 (firstIdx ⟨#[32, 9, 10]⟩ c)) ∧ W = w' := fun c W => indexByte_any _ c W
  obtain ⟨R, hR⟩ : ∃ R, R = i + blankN (l.drop i) := ⟨_, rfl⟩
  rw [← hR]
  have HR : Hid (R = i + blankN (l.drop i)) := hR
  clear hR
  go_enter Tryz.func71, Tryz.ntmps71
  go_wp2
  go_loopw [1] (fun r wr => ∃ k : Nat, r = .int .i64 (k : Int) ∧ k ≤ l.length ∧ w = wr ∧ Hid (R = k + blankN (l.drop k))) (fun r _ => l.length - (intOf r).toNat)
  case atStart => exact ⟨i, rfl, hi, rfl, HR⟩
  case round =>
    obtain ⟨k, rfl, hk, rfl, hH⟩ := hrel
    have Bk := B k
    have Xk := X (bat l k)
    have e := blanks_idx (bat l k)
    cases hb : isB (bat l k) with
    | true =>
      rw [hb] at e
      have e' := of_decide_eq_true e
      have hlt : k < l.length := by
        rcases Nat.lt_or_ge k l.length with h | h
        · exact h
        · rw [bat_out l k h] at hb; cases hb
      have hH' : Hid (R = (k + 1) + blankN (l.drop (k + 1))) := by
        show R = _
        rw [hH.out, bat_drop l k hlt]
        simp only [blankN, hb, if_true]
        omega
      generalize firstIdx ⟨#[32, 9, 10]⟩ (bat l k) = q at *
      generalize ((bat l k).toNat : Int) = c at *
      clear B X hb e hH HR
      generalize ByteArray.mk l.toArray = S at *
      go_wp2_with (first
        | (go_at_call 131; refine (Bk _).mono ?_; rintro e w' ⟨rfl, rfl⟩)
        | (go_at_call 130; refine (Xk _).mono ?_; rintro e w' ⟨rfl, rfl⟩))
      go_roundw
      case rel => exact ⟨k + 1, by go_num, by omega, trivial, hH'⟩
      case measure => simp [intOf]; omega
    | false =>
      rw [hb] at e
      have e' := of_decide_eq_false e
      have hH' : Hid (R = k) := by
        show R = _
        rw [hH.out]
        rcases Nat.lt_or_ge k l.length with h | h
        · rw [bat_drop l k h]; simp [blankN, hb]
        · rw [List.drop_eq_nil_of_le h]; simp [blankN]
      generalize firstIdx ⟨#[32, 9, 10]⟩ (bat l k) = q at *
      generalize ((bat l k).toNat : Int) = c at *
      clear B X hb e hH HR
      generalize ByteArray.mk l.toArray = S at *
      go_wp2_with (first
        | (go_at_call 131; refine (Bk _).mono ?_; rintro e w' ⟨rfl, rfl⟩)
        | (go_at_call 130; refine (Xk _).mono ?_; rintro e w' ⟨rfl, rfl⟩))
      go_ret
      exact ⟨by rw [hH'.out]; rfl, rfl⟩
end Go.Proofs.YtclhmmgdhagloaaGreatDoor
