/-
  A text parted at its first point, as a list of bytes. Nothing of the program is in it.
  The library's CutPrefix and Cut at texts of one sign, and rightWhole and rightPart of package decimal: for every text.
  The document's Digits: the digits of a number.
  The contracts of the document's Power and Right, as the statements call them.
  The document's Print: the text of any decimal.
  The library's contracts laid at this program: strconv.Itoa, strings.Clone; HasSuffix, TrimSuffix, Index and Contains at one point.
  Ops of two Texts: eval.ofTexts.
  Truths: eval.ofTruths, notOf.
-/
import Derived.Laws.Externs
import Derived.Test.YtnpdecbgakgbgaaGreatDoorChecked
import Derived.Test.YtnpdecbgakgbgaaGreatDoorDGrew
import Derived.WalkKit
import Derived.WalkSpells
import Derived.WalkLawsBesides
import Derived.Laws.IdiomStrings
import Derived.Deep.RegionWith
import Derived.Test.YtnpdecbgakgbgaaGreatDoorDArith
import Derived.Deep.RegionHeld2
import Derived.Shelf.Strconv.Itoa3
import Derived.Shelf.Strconv.Clone
import Derived.Ground.NamesProg
import Derived.Shelf.Lay
import Derived.Test.YtnpdecbgakgbgaaGreatDoorMtQTells
namespace Go.Proofs.YtnpdecbgakgbgaaGreatDoor

/-- A text parted at its first point. -/
def cutPt : List UInt8 → List UInt8 × List UInt8 × Bool
  | [] => ([], [], false)
  | c :: l => if c = 46 then ([], l, true) else (c :: (cutPt l).1, (cutPt l).2.1, (cutPt l).2.2)
theorem cutPt_back (l : List UInt8) : l = (cutPt l).1 ++ (if (cutPt l).2.2 then 46 :: (cutPt l).2.1 else []) ∧ ((cutPt l).2.2 = false → (cutPt l).2.1 = []) := by
  induction l with
  | nil => exact ⟨rfl, fun _ => rfl⟩
  | cons c l ih =>
    unfold cutPt
    by_cases h : c = 46
    · rw [if_pos h]; subst h; exact ⟨rfl, by simp⟩
    · rw [if_neg h]
      refine ⟨?_, ih.2⟩
      show c :: l = (c :: (cutPt l).1) ++ _
      rw [List.cons_append, ← ih.1]
theorem cutPt_none (l : List UInt8) (h : ∀ c ∈ l, c ≠ 46) : cutPt l = (l, [], false) := by
  induction l with
  | nil => rfl
  | cons c l ih =>
    unfold cutPt
    rw [if_neg (h c (by simp)), ih (fun d hd => h d (by simp [hd]))]
theorem cutPt_some (l r : List UInt8) (h : ∀ c ∈ l, c ≠ 46) : cutPt (l ++ 46 :: r) = (l, r, true) := by
  induction l with
  | nil => unfold cutPt; simp
  | cons c l ih =>
    show cutPt (c :: (l ++ 46 :: r)) = _
    unfold cutPt
    rw [if_neg (h c (by simp)), ih (fun d hd => h d (by simp [hd]))]

def rightW (l : List UInt8) : Bool := !l.isEmpty && (l == [48] || !(l.head? == some 48))
def rightP (l : List UInt8) : Bool := !l.isEmpty && decide (l.length ≤ 6)
theorem ba_get (l : List UInt8) (i : Nat) (h : i < l.length) : (ByteArray.mk l.toArray)[i]! = l[i] := by
  rw [getElem!_pos _ i (show i < (ByteArray.mk l.toArray).size from h)]
  rfl
/-- Where a byte is first met, and how a text is parted there. -/
theorem first_cut (l : List UInt8) : (firstIdx ⟨l.toArray⟩ 46 = -1 ∧ cutPt l = (l, [], false)) ∨ (∃ i : Nat, firstIdx ⟨l.toArray⟩ 46 = (i : Int) ∧ i < l.length ∧ cutPt l = (l.take i, l.drop (i + 1), true)) := by
  unfold firstIdx
  have hs : (ByteArray.mk l.toArray).size = l.length := rfl
  rw [hs]
  cases h : (List.range l.length).find? (fun i => (ByteArray.mk l.toArray)[i]! == 46) with
  | none =>
    left
    refine ⟨rfl, cutPt_none l ?_⟩
    rw [List.find?_range_eq_none] at h
    intro c hc e
    obtain ⟨i, hi, rfl⟩ := List.getElem_of_mem hc
    have := h i hi
    rw [ba_get l i hi, e] at this
    simp at this
  | some i =>
    right
    rw [List.find?_range_eq_some] at h
    obtain ⟨h1, h2, h3⟩ := h
    have hi : i < l.length := by simpa using h2
    refine ⟨i, rfl, hi, ?_⟩
    rw [ba_get l i hi] at h1
    have e : l[i] = 46 := eq_of_beq h1
    have hsplit : l = l.take i ++ 46 :: l.drop (i + 1) := by
      rw [← e, ← List.drop_eq_getElem_cons hi, List.take_append_drop]
    conv => lhs; rw [hsplit]
    refine cutPt_some _ _ ?_
    intro c hc e2
    obtain ⟨j, hj, rfl⟩ := List.getElem_of_mem hc
    have hj' : j < i := by rw [List.length_take] at hj; omega
    have := h3 j hj'
    rw [ba_get l j (by omega)] at this
    rw [List.getElem_take] at e2
    rw [e2] at this
    simp at this
end Go.Proofs.YtnpdecbgakgbgaaGreatDoor

namespace Go.Proofs.YtnpdecbgakgbgaaGreatDoor
open Go.RowKit

theorem ba_extract (l : List UInt8) (a b : Nat) : (ByteArray.mk l.toArray).extract a b = ⟨((l.take b).drop a).toArray⟩ := by
  apply ByteArray.ext
  simp [ByteArray.data_extract]
  exact (List.drop_take ..).symm

theorem not_empty (c : UInt8) (l : List UInt8) : (ByteArray.mk (c :: l).toArray).toList.isEmpty = false := by
  rw [← decide_eq_emptyBytes]
  refine decide_eq_false ?_
  intro h
  have := congrArg ByteArray.size h
  exact absurd this (by show ¬ (c :: l).length = 0; simp)

theorem rightPart_any (l : List UInt8) (w : World) : Calls Tryz.prog 274 #[.string ⟨l.toArray⟩] w fun e w' => e = .returned (.bool (rightP l)) ∧ w = w' := by
  match l with
  | [] =>
    go_enter Tryz.func274, Tryz.ntmps274
    go_wp2
    all_goals go_ret
    all_goals exact ⟨rfl, rfl⟩
  | c :: l =>
    have h0 := not_empty c l
    have hs : (ByteArray.mk (c :: l).toArray).size = l.length + 1 := rfl
    have e : rightP (c :: l) = decide ((l.length : Int) + 1 ≤ 6) := by simp [rightP]; omega
    rw [e]
    generalize ByteArray.mk (c :: l).toArray = B at *
    clear e
    go_enter Tryz.func274, Tryz.ntmps274
    go_wp2
    all_goals go_ret
    all_goals exact ⟨rfl, rfl⟩

theorem rightWhole_any (l : List UInt8) (w : World) : Calls Tryz.prog 273 #[.string ⟨l.toArray⟩] w fun e w' => e = .returned (.bool (rightW l)) ∧ w = w' := by
  match l with
  | [] =>
    go_enter Tryz.func273, Tryz.ntmps273
    go_wp2
    all_goals go_ret
    all_goals exact ⟨rfl, rfl⟩
  | c :: l =>
    have h0 := not_empty c l
    have hs : (ByteArray.mk (c :: l).toArray).size = l.length + 1 := rfl
    have hg : ∀ h, (ByteArray.mk (c :: l).toArray)[0]'h = c := fun h => rfl
    by_cases h1 : c :: l = [48]
    · rw [h1]
      go_enter Tryz.func273, Tryz.ntmps273
      go_wp2
      all_goals go_ret
      all_goals exact ⟨rfl, rfl⟩
    · have h2 : ((ByteArray.mk (c :: l).toArray).toList == [48]) = false := by
        rw [ByteArray.toList_eq]
        exact beq_eq_false_iff_ne.2 h1
      by_cases h3 : c = 48
      · have e : rightW (c :: l) = false := by simp [rightW, h3]; rw [h3] at h1; simpa using h1
        have h4 : (c.toNat : Int) = 48 := by rw [h3]; rfl
        rw [e]
        generalize ByteArray.mk (c :: l).toArray = B at *
        clear e h1
        go_enter Tryz.func273, Tryz.ntmps273
        go_wp2
        all_goals go_ret
        all_goals exact ⟨rfl, rfl⟩
      · have e : rightW (c :: l) = true := by simp [rightW, h3]
        have h4 : ¬ (c.toNat : Int) = 48 := by
          intro h
          have h5 : c.toNat = 48 := by omega
          exact h3 (UInt8.toNat_inj.1 h5)
        have h5 : ((c.toNat : Int) != 48) = true := by simpa using h4
        rw [e, ← h5]
        generalize ByteArray.mk (c :: l).toArray = B at *
        clear e h1 h3 h4 h5
        go_enter Tryz.func273, Tryz.ntmps273
        go_wp2
        all_goals go_ret
        all_goals exact ⟨rfl, rfl⟩

theorem cutPrefix_any (l : List UInt8) (w : World) (hl : l.length ≤ 9223372036854775806) :
    Calls Tryz.prog 272 #[.string ⟨l.toArray⟩, .string ⟨#[45]⟩] w fun e w' => e = .returned (.tuple #[.string ⟨(if l.head? = some 45 then l.drop 1 else l).toArray⟩, .bool (decide (l.head? = some 45))]) ∧ w = w' := by
  match l, hl with
  | [], _ =>
    go_enter Tryz.func272, Tryz.ntmps272
    go_wp2
    refine bodyPost_ret_by (v := .tuple #[.string ⟨#[]⟩, .bool false]) ?_ rfl ⟨rfl, rfl⟩
    simp [results, Tryz.results272, go_sem]
  | c :: l, hl =>
    have hs : (ByteArray.mk (c :: l).toArray).size = l.length + 1 := rfl
    have hx : (((ByteArray.mk (c :: l).toArray).extract 0 1).toList == [45]) = decide (c = 45) := by
      rw [ba_extract, ByteArray.toList_eq]
      show ([c] == [45]) = _
      by_cases h : c = 45 <;> simp [h]
    have hy : (ByteArray.mk (c :: l).toArray).extract 1 (l.length + 1) = ⟨l.toArray⟩ := by
      rw [ba_extract]
      show (⟨(((c :: l).take (l.length + 1)).drop 1).toArray⟩ : ByteArray) = _
      rw [List.take_of_length_le (by simp)]
      rfl
    have hl1 : l.length ≤ 9223372036854775805 := by simp at hl; omega
    have h1 : ((l.length + 1 : Nat) : Int) = (l.length : Int) + 1 := by omega
    have h2 : (1 : Int) ≤ (l.length : Int) + 1 := by omega
    by_cases hc : c = 45
    · have e1 : (c :: l).head? = some 45 := by rw [hc]; rfl
      rw [if_pos e1, decide_eq_true e1]
      rw [decide_eq_true hc] at hx
      show Calls Tryz.prog 272 #[.string ⟨(c :: l).toArray⟩, .string ⟨#[45]⟩] w fun e w' => e = .returned (.tuple #[.string ⟨l.toArray⟩, .bool true]) ∧ w = w'
      generalize ByteArray.mk (c :: l).toArray = B at *
      generalize ByteArray.mk l.toArray = R at *
      clear e1 hc hl
      go_enter Tryz.func272, Tryz.ntmps272
      go_wp2
      refine bodyPost_ret_by (v := .tuple #[.string R, .bool true]) ?_ rfl ⟨rfl, rfl⟩
      simp [results, Tryz.results272, go_sem]
    · have e1 : ¬ (c :: l).head? = some 45 := by simpa using hc
      rw [if_neg e1, decide_eq_false e1]
      rw [decide_eq_false hc] at hx
      generalize ByteArray.mk (c :: l).toArray = B at *
      clear e1 hc hl hy
      go_enter Tryz.func272, Tryz.ntmps272
      go_wp2
      refine bodyPost_ret_by (v := .tuple #[.string B, .bool false]) ?_ rfl ⟨rfl, rfl⟩
      simp [results, Tryz.results272, go_sem]

theorem indexByte_at (B : ByteArray) (r : Int) (h : firstIdx B 46 = r) (w : World) : (callFunc 231 #[.string B, .int .u8 46]).run Tryz.prog w = .ok (.value (.int .i64 r)) w := by
  rw [run_callFunc_extern Tryz.func231 (by kernel_rfl) (by kernel_rfl) (by kernel_rfl) (e := Extern.BytealgIndexByte.indexByte) (by kernel_rfl), run_indexByte_string]
  rw [show ((46 : Int).toNat.toUInt8) = 46 from rfl, h]
  rfl

set_option maxRecDepth 10000 in
theorem index_any (l : List UInt8) (w : World) : Calls Tryz.prog 284 #[.string ⟨l.toArray⟩, .string ⟨#[46]⟩] w fun e w' => e = .returned (.int .i64 (firstIdx ⟨l.toArray⟩ 46)) ∧ w = w' := by
  have hc : ∀ h, (ByteArray.mk #[46])[0]'h = 46 := fun h => rfl
  by_cases hd : l = [46]
  · have hx2 : (([46] : List UInt8) == (ByteArray.mk l.toArray).toList) = true := by
      rw [ByteArray.toList_eq, hd]; rfl
    have hx : (({ data := #[46] } : ByteArray).toList == (ByteArray.mk l.toArray).toList) = true := by
      rw [ByteArray.toList_eq, ByteArray.toList_eq, hd]; rfl
    have e : firstIdx ⟨l.toArray⟩ 46 = 0 := by rw [hd]; decide +kernel
    rw [e]
    generalize ByteArray.mk l.toArray = B at *
    clear hd e
    go_enter Tryz.func284, Tryz.ntmps284
    go_wp2
    all_goals go_ret
    all_goals exact ⟨rfl, rfl⟩
  · have hx : (({ data := #[46] } : ByteArray).toList == (ByteArray.mk l.toArray).toList) = false := by
      rw [ByteArray.toList_eq, ByteArray.toList_eq]
      exact beq_eq_false_iff_ne.2 (fun h => hd h.symm)
    have hx2 : (([46] : List UInt8) == (ByteArray.mk l.toArray).toList) = false := by
      rw [ByteArray.toList_eq]
      exact beq_eq_false_iff_ne.2 (fun h => hd h.symm)
    have F := fun w => indexByte_at _ _ (rfl : firstIdx ⟨l.toArray⟩ 46 = _) w
    generalize firstIdx ⟨l.toArray⟩ 46 = r at *
    generalize ByteArray.mk l.toArray = B at *
    clear hd
    go_enter Tryz.func284, Tryz.ntmps284
    go_wp2
    all_goals go_ret
    all_goals exact ⟨rfl, rfl⟩

theorem cutlite_any (l : List UInt8) (w : World) (hl : l.length ≤ 9223372036854775806) :
    Calls Tryz.prog 263 #[.string ⟨l.toArray⟩, .string ⟨#[46]⟩] w fun e w' => e = .returned (.tuple #[.string ⟨(cutPt l).1.toArray⟩, .string ⟨(cutPt l).2.1.toArray⟩, .bool (cutPt l).2.2]) ∧ Grew w w' := by
  have hs : (ByteArray.mk l.toArray).size = l.length := rfl
  have I := fun W => index_any l W
  rcases first_cut l with ⟨h1, h2⟩ | ⟨i, h1, h2, h3⟩
  · rw [h1] at I
    rw [h2]
    show Calls Tryz.prog 263 #[.string ⟨l.toArray⟩, .string ⟨#[46]⟩] w fun e w' => e = .returned (.tuple #[.string ⟨l.toArray⟩, .string ⟨#[]⟩, .bool false]) ∧ Grew w w'
    generalize ByteArray.mk l.toArray = B at *
    clear h1 h2 hl
    go_enter Tryz.func263, Tryz.ntmps263
    go_wp2_with (go_at_call 284; refine (I _).mono ?_; rintro e w' ⟨rfl, rfl⟩)
    refine bodyPost_ret_by (v := .tuple #[.string B, .string ⟨#[]⟩, .bool false]) ?_ rfl ⟨rfl, Grew.refl _⟩
    simp [results, Tryz.results263, go_sem]
  · have hy : (ByteArray.mk l.toArray).extract 0 i = ⟨(l.take i).toArray⟩ := by rw [ba_extract]; rfl
    have hz : (ByteArray.mk l.toArray).extract (i + 1) l.length = ⟨(l.drop (i + 1)).toArray⟩ := by rw [ba_extract, List.take_length]
    rw [h1] at I
    rw [h3]
    show Calls Tryz.prog 263 #[.string ⟨l.toArray⟩, .string ⟨#[46]⟩] w fun e w' => e = .returned (.tuple #[.string ⟨(l.take i).toArray⟩, .string ⟨(l.drop (i + 1)).toArray⟩, .bool true]) ∧ Grew w w'
    generalize ByteArray.mk l.toArray = B at *
    generalize ByteArray.mk (l.take i).toArray = R1 at *
    generalize ByteArray.mk (l.drop (i + 1)).toArray = R2 at *
    have i0 : (0 : Int) ≤ (i : Int) := by omega
    have i1 : (i : Int) < (l.length : Int) := by omega
    have i2 : IntKind.i64.wrap ((i : Int) + 1) = (i : Int) + 1 := by rw [IntKind.wrap_i64]; omega
    have i3 : (0 : Int) ≤ (i : Int) + 1 := by omega
    have i4 : (i : Int) + 1 ≤ (l.length : Int) := by omega
    have i5 : ((i : Int) + 1).toNat = i + 1 := by omega
    have i6 : (i : Int) ≤ (l.length : Int) := by omega
    clear h1 h3 hl
    go_enter Tryz.func263, Tryz.ntmps263
    go_wp2_with (go_at_call 284; refine (I _).mono ?_; rintro e w' ⟨rfl, rfl⟩)
    go_region_with fail
    all_goals go_wp2
    all_goals refine bodyPost_ret_by (v := .tuple #[.string R1, .string R2, .bool true]) ?_ rfl ⟨rfl, ?_⟩
    all_goals first
      | (simp [results, Tryz.results263, go_sem]; done)
      | (repeat (first | exact Grew.refl _ | apply Grew.drew | apply Grew.drewN | apply Grew.alloc | apply Grew.more))

theorem cut_any (l : List UInt8) (w : World) (hl : l.length ≤ 9223372036854775806) :
    Calls Tryz.prog 247 #[.string ⟨l.toArray⟩, .string ⟨#[46]⟩] w fun e w' => e = .returned (.tuple #[.string ⟨(cutPt l).1.toArray⟩, .string ⟨(cutPt l).2.1.toArray⟩, .bool (cutPt l).2.2]) ∧ Grew w w' := by
  have C := fun W => cutlite_any l W hl
  generalize ByteArray.mk l.toArray = B at *
  generalize ByteArray.mk (cutPt l).1.toArray = R1 at *
  generalize ByteArray.mk (cutPt l).2.1.toArray = R2 at *
  generalize (cutPt l).2.2 = b at *
  clear hl
  go_enter Tryz.func247, Tryz.ntmps247
  go_wp2_with (go_at_call 263; refine (C _).mono ?_; rintro e w' ⟨rfl, os, n, rfl⟩)
  refine bodyPost_ret_by (v := .tuple #[.string R1, .string R2, .bool b]) ?_ rfl ⟨rfl, ?_⟩
  · simp [results, Tryz.results247, go_sem]
  · repeat (first | exact Grew.refl _ | apply Grew.drew | apply Grew.drewN | apply Grew.alloc | apply Grew.more)
end Go.Proofs.YtnpdecbgakgbgaaGreatDoor

namespace Go.Proofs.YtnpdecbgakgbgaaGreatDoor
open Go.RowKit
attribute [local go_sem] cell?_more frozen?_more setCell_more more_lt more_more more_drew more_drewN setCell_drewN alloc_drewN

/-- The digits of a number, the first one first. -/
def digs (u : Nat) : List UInt8 := if h : u < 10 then [UInt8.ofNat (48 + u)] else digs (u / 10) ++ [UInt8.ofNat (48 + u % 10)]
  termination_by u
  decreasing_by omega
theorem digs_small (u : Nat) (h : u < 10) : digs u = [UInt8.ofNat (48 + u)] := by rw [digs, dif_pos h]
theorem digs_big (u : Nat) (h : ¬ u < 10) : digs u = digs (u / 10) ++ [UInt8.ofNat (48 + u % 10)] := by rw [digs, dif_neg h]

theorem digs_len (k : Nat) : ∀ u, u < 10 ^ (k + 1) → (digs u).length ≤ k + 1 := by
  induction k with
  | zero => intro u h; rw [digs_small u (by simpa using h)]; simp
  | succ k ih =>
    intro u h
    by_cases h9 : u < 10
    · rw [digs_small u h9]; simp
    · rw [digs_big u h9, List.length_append]
      have := ih (u / 10) (by rw [Nat.pow_succ] at h; omega)
      simp; omega
theorem ba_app (a b : List UInt8) : (⟨a.toArray⟩ : ByteArray) ++ ⟨b.toArray⟩ = ⟨(a ++ b).toArray⟩ := by
  apply ByteArray.ext
  simp
theorem ba_cons (y : UInt8) (t : List UInt8) : (⟨#[y]⟩ : ByteArray) ++ ⟨t.toArray⟩ = ⟨(y :: t).toArray⟩ := ba_app [y] t

/-- One sign as a text. -/
theorem str_one (V : World) (n : Nat) (y : UInt8) : (convert 150 9 (.slice (some ⟨V.heap.size, 0, none⟩) 1 1)).run Tryz.prog ((V.alloc (.cells #[.int .u8 (y.toNat : Int)] 5)).drewN n) = .ok (.string ⟨#[y]⟩) ((V.alloc (.cells #[.int .u8 (y.toNat : Int)] 5)).drewN n) := by
  refine run_convert_bytes_back _ 150 9 5 ⟨V.heap.size, 0, none⟩ 1 [y] Tryz.underlying150 Tryz.underlying5 Tryz.underlying9 fun j hj => ?_
  rw [Addr.add_lit]
  match j, hj with
  | 0, _ => rw [World.cell?_drewN, World.cell?_alloc_at _ _ _ _ rfl]; rfl

end Go.Proofs.YtnpdecbgakgbgaaGreatDoor

namespace Go.Proofs.YtnpdecbgakgbgaaGreatDoor
open Go.RowKit

set_option maxHeartbeats 1000000 in
theorem power_any (k : Nat) (w : World) (hk : k < 13) : Calls Tryz.prog 139 #[.int .i64 (k : Int)] w fun e w' => e = .returned (.int .i64 ((10 ^ k : Nat) : Int)) ∧ w = w' := by
  go_enter Tryz.func139, Tryz.ntmps139
  go_wp2
  go_loop [3, 4] (fun p i => ∃ j q : Nat, i = .int .i64 (j : Int) ∧ p = .int .i64 (q : Int) ∧ j ≤ k ∧ Hid (q = 10 ^ j)) (fun _ i => k - (intOf i).toNat)
  case atStart => exact ⟨0, 1, rfl, rfl, Nat.zero_le _, rfl⟩
  case round =>
    obtain ⟨j, q, rfl, rfl, hj, hq⟩ := hrel
    by_cases hlt : j < k
    · have hb : q ≤ 1000000000000 := by
        rw [hq.out]
        have : 10 ^ j ≤ 10 ^ 12 := Nat.pow_le_pow_right (by decide) (by omega)
        omega
      have e1 : IntKind.i64.wrap (10 * (q : Int)) = ((10 * q : Nat) : Int) := by rw [IntKind.wrap_i64]; omega
      have hq' : Hid (10 * q = 10 ^ (j + 1)) := (by rw [hq.out, Nat.pow_succ, Nat.mul_comm] : 10 * q = 10 ^ (j + 1))
      obtain ⟨q2, hq2⟩ : ∃ q2, q2 = 10 * q := ⟨_, rfl⟩
      rw [← hq2] at e1
      have HQ : Hid (q2 = 10 ^ (j + 1)) := (by rw [hq2]; exact hq'.out : q2 = 10 ^ (j + 1))
      clear hb hq2 hq' hq
      go_wp2
      go_round
      case rel => exact ⟨j + 1, q2, by go_num, rfl, by omega, HQ⟩
      case measure => simp [intOf]; omega
    · obtain rfl : j = k := by omega
      clear hk hj
      go_wp2
      go_ret
      exact ⟨ret_int (by rw [hq.out]; simp), rfl⟩

set_option maxHeartbeats 400000 in
theorem refRight_any (u s : Int) (w : World) : Calls Tryz.prog 123 #[dv u s] w fun e w' => e = .returned (.bool (rightS s)) ∧ Grew w w' := by
  go_enter Tryz.func123, Tryz.ntmps123
  go_wp2
  all_goals go_ret
  all_goals refine ⟨ret_bool ?_, by repeat (first | exact Grew.refl _ | apply Grew.drew | apply Grew.drewN | apply Grew.alloc | apply Grew.more)⟩
  all_goals rw [Bool.eq_iff_iff, rightS_iff]
  all_goals simp
  all_goals omega
end Go.Proofs.YtnpdecbgakgbgaaGreatDoor

namespace Go.Proofs.YtnpdecbgakgbgaaGreatDoor
open Go.RowKit
attribute [local go_sem] cell?_more frozen?_more setCell_more more_lt more_more more_drew more_drewN setCell_drewN alloc_drewN

/-- How long a text is. -/
def strLen : Value → Nat
  | .string b => b.size
  | _ => 0
/-- Digits with as many noughts ahead that more than s are there. -/
def pad (s : Nat) (l : List UInt8) : List UInt8 := List.replicate (s + 1 - l.length) 48 ++ l
theorem pad_more (s : Nat) (l : List UInt8) (h : l.length ≤ s) : pad s (48 :: l) = pad s l := by
  unfold pad
  rw [List.length_cons, show s + 1 - l.length = (s + 1 - (l.length + 1)) + 1 by omega, List.replicate_succ']
  simp
theorem pad_done (s : Nat) (l : List UInt8) (h : s < l.length) : pad s l = l := by
  unfold pad
  rw [show s + 1 - l.length = 0 by omega]; rfl
theorem pad_len (s : Nat) (l : List UInt8) : (pad s l).length = max (s + 1) l.length := by
  unfold pad
  rw [List.length_append, List.length_replicate]; omega
theorem ba_nil (t : List UInt8) : (⟨#[]⟩ : ByteArray) ++ ⟨t.toArray⟩ = ⟨([] ++ t).toArray⟩ := ba_app [] t
theorem cut_text (P T : List UInt8) (m : Nat) : (⟨P.toArray⟩ : ByteArray) ++ (ByteArray.mk T.toArray).extract 0 m ++ ⟨#[46]⟩ ++ (ByteArray.mk T.toArray).extract m T.length = ⟨(P ++ (T.take m ++ 46 :: T.drop m)).toArray⟩ := by
  apply ByteArray.ext
  simp [ByteArray.data_extract]
  exact List.take_of_length_le (by simp)
/-- The text of units of a scale. -/
def dtext (u : Int) (s : Nat) : List UInt8 :=
  (if u < 0 then [45] else []) ++ (if s = 0 then pad 0 (digs u.natAbs) else (pad s (digs u.natAbs)).take ((pad s (digs u.natAbs)).length - s) ++ 46 :: (pad s (digs u.natAbs)).drop ((pad s (digs u.natAbs)).length - s))

end Go.Proofs.YtnpdecbgakgbgaaGreatDoor

namespace Go.Proofs.YtnpdecbgakgbgaaGreatDoor
open Go.RowKit Go.Shelf

shelf_lay LaysM.n171 Nm 171 at Tryz as Tryz.laysItoa
shelf_lay LaysM.n316 Nm 316 at Tryz as Tryz.laysClone

/-- The library's table of powers of ten. -/
def Ptab (w : World) : Prop := Lib.TabIs Tryz.prog w "internal/strconv.uint64pow10" .u64 Lib.pow10Tab
theorem Ptab.later {w w' : World} (h : Ptab w) (hb : Below w.heap.size w w') : Ptab w' := by
  unfold Ptab Lib.TabIs World.var? at *
  cases hg : Tryz.prog.globalNamed "internal/strconv.uint64pow10" with
  | none => rw [hg] at h; cases h
  | some g =>
    rw [hg] at h
    simp only [Option.bind_some] at h ⊢
    have hlt : g < w.heap.size := by
      rcases Nat.lt_or_ge g w.heap.size with h' | h'
      · exact h'
      · rw [Array.getElem?_eq_none h'] at h; cases h
    rw [hb.block g hlt]
    exact h

theorem dec_digs (u : Nat) : Lib.decDigits u = digs u := by
  induction u using Nat.strongRecOn with
  | ind u ih =>
    by_cases h : u < 10
    · rw [Lib.decDigits, dif_pos h, digs_small u h]
    · rw [Lib.decDigits, dif_neg h, digs_big u h, ih (u / 10) (by omega)]
theorem itoa_text (n : Int) : Lib.itoa n = dtext n 0 := by
  unfold Lib.itoa dtext
  have e : pad 0 (digs n.natAbs) = digs n.natAbs := by
    refine pad_done 0 _ ?_
    by_cases h : n.natAbs < 10
    · rw [digs_small _ h]; simp
    · rw [digs_big _ h]; simp
  rw [if_pos rfl, e]
  split
  · rw [dec_digs]; rfl
  · rw [dec_digs, show n.toNat = n.natAbs by omega]; rfl

theorem grow_more (l : List Obj) : ∀ (w : World), Sort.grow w l.toArray = more w l := by
  induction l with
  | nil => intro w; simp [Sort.grow, more]
  | cons o l ih =>
    intro w
    rw [more, ← ih]
    unfold Sort.grow World.alloc
    simp
theorem itoa_any (n : Int) (w : World) (h0 : -9223372036854775808 ≤ n) (h1 : n ≤ 9223372036854775807) (hP : Ptab w) : Calls Tryz.prog 146 #[.int .i64 n] w fun e w' => e = .returned (.string ⟨(dtext n 0).toArray⟩) ∧ Grew w w' := by
  rw [← itoa_text]
  refine (Any.strconv_Itoa Tryz.laysItoa n h0 h1 w hP).mono ?_
  rintro e w' ⟨rfl, k, os, rfl⟩
  refine ⟨rfl, os.toList, k, ?_⟩
  have h := grow_more os.toList (w.drewN k)
  rw [Array.toArray_toList] at h
  rw [h, more_drewN]

theorem clone_any (B : ByteArray) (w : World) (h : B.size ≤ 140737488351232) : Calls Tryz.prog 30 #[.string B] w fun e w' => e = .returned (.string B) ∧ Below w.heap.size w w' := by
  have C : ∀ W, Calls Tryz.prog 81 #[.string B] W fun e w' => e = .returned (.string B) ∧ Below W.heap.size W w' := fun W => Any.stringslite_Clone Tryz.laysClone B W (by omega)
  go_enter Tryz.func30, Tryz.ntmps30
  go_wp2_with (go_at_call 81; refine (C _).mono ?_; rintro e w' ⟨rfl, hb⟩)
  go_ret
  exact ⟨rfl, hb⟩

theorem suffix_one (l : List UInt8) (w : World) (hl : l.length ≤ 9223372036854775806) : Calls Tryz.prog 292 #[.string ⟨l.toArray⟩, .string ⟨#[46]⟩] w fun e w' => e = .returned (.bool (decide (l.getLast? = some 46))) ∧ w = w' := by
  rcases List.eq_nil_or_concat l with rfl | ⟨m, c, rfl⟩
  · go_enter Tryz.func292, Tryz.ntmps292
    go_wp2
    go_ret
    exact ⟨rfl, rfl⟩
  · have hs : (ByteArray.mk (m ++ [c]).toArray).size = m.length + 1 := by show (m ++ [c]).length = _; simp
    have e : decide ((m ++ [c]).getLast? = some 46) = decide (c = 46) := by simp
    rw [List.concat_eq_append, e]
    have hx : (((ByteArray.mk (m ++ [c]).toArray).extract m.length (m.length + 1)).toList == [46]) = decide (c = 46) := by
      rw [ba_extract, ByteArray.toList_eq]
      show (((m ++ [c]).take (m.length + 1)).drop m.length == [46]) = _
      rw [List.take_of_length_le (by simp), List.drop_left' rfl]
      by_cases h : c = 46 <;> simp [h]
    have h1 : ((m.length + 1 : Nat) : Int) = (m.length : Int) + 1 := by omega
    have h2 : (1 : Int) ≤ (m.length : Int) + 1 := by omega
    have h3 : m.length ≤ 9223372036854775805 := by simp at hl; omega
    generalize decide (c = 46) = b at *
    generalize ByteArray.mk (m ++ [c]).toArray = B at *
    generalize m.length = n at *
    clear e hl
    go_enter Tryz.func292, Tryz.ntmps292
    go_wp2
    go_ret
    exact ⟨rfl, rfl⟩

end Go.Proofs.YtnpdecbgakgbgaaGreatDoor

namespace Go.Proofs.YtnpdecbgakgbgaaGreatDoor
open Go.RowKit Go.Shelf
attribute [local go_sem] cell?_more frozen?_more setCell_more more_lt more_more more_drew more_drewN setCell_drewN alloc_drewN

set_option maxHeartbeats 2000000 in
theorem qtxt_cmp (op c : Int) (an am bn bm : Int) (ab bb : List UInt8) (w : World) (e9 : (op != 9) = true) (D : Tells 58 #[va 3 an am ⟨ab.toArray⟩, va 3 bn bm ⟨bb.toArray⟩] w (.int .i64 c)) :
    Calls Tryz.prog 56 #[.int .i64 op, va 3 an am ⟨ab.toArray⟩, va 3 bn bm ⟨bb.toArray⟩] w fun e w' => e = .returned (rs (cmpR op c)) ∧ Below w.heap.size w w' := by
  have HC := fun W => qcompared_any op c W
  obtain ⟨w0, hw0, bxa, bxb, bxr, Bw⟩ := three_boxes w ⟨3, an, am, ab⟩ ⟨3, bn, bm, bb⟩
  dsimp only at hw0
  have B0 : Below w0.heap.size w0 w0 := Below.refl _ _
  go_enter Tryz.func56, Tryz.ntmps56
  go_wp2_with fail
  rw [← hw0]
  clear hw0
  obtain ⟨a0, a1, a2, a3⟩ := bxa.at4
  obtain ⟨b0, b1, b2, b3⟩ := bxb.at4
  dsimp only at a0 a1 a2 a3 b0 b1 b2 b3
  go_wp2_with fail
  refine (D _ Bw).mono ?_
  rintro e w1 ⟨rfl, B1⟩
  have br := bxr.later B1
  obtain ⟨r0, r1, r2, r3⟩ := br.at4
  dsimp only [nul] at r0 r1 r2 r3
  simp only [Nat.zero_add] at r1 r2 r3
  have f0 := br.free 0
  have f1 := br.free 1
  have f2 := br.free 2
  have f3 := br.free 3
  have lt1 := br.lt
  have Be := below_trans Bw B1
  clear D a0 a1 a2 a3 b0 b1 b2 b3 br bxr
  go_wp2_with (go_at_call 57; refine (HC _).mono ?_; rintro e w3 ⟨rfl, os2, n2, rfl⟩)
  refine bodyPost_ret_by (v := rs (cmpR op c)) ?_ rfl ⟨rfl, ?_⟩
  · simp [results, Tryz.results56, go_sem, r0, r1, r2, r3, lt1]
  · refine below_trans (Be.setCell (p := ⟨w.heap.size + 1 + 1, 0, none⟩) (by dsimp only; omega) (.int .i64 (cmpR op c).1.k) |>.setCell (p := ⟨w.heap.size + 1 + 1, 1, none⟩) (by dsimp only; omega) (.int .i64 (cmpR op c).1.n) |>.setCell (p := ⟨w.heap.size + 1 + 1, 2, none⟩) (by dsimp only; omega) (.int .i64 (cmpR op c).1.m) |>.setCell (p := ⟨w.heap.size + 1 + 1, 3, none⟩) (by dsimp only; omega) (.string ⟨(cmpR op c).1.b.toArray⟩)) (Grew.below ?_)
    repeat (first | assumption | exact Grew.refl _ | apply Grew.drew | apply Grew.drewN | apply Grew.alloc | apply Grew.more)

set_option maxHeartbeats 2000000 in
theorem qtxt_over (an am bn bm : Int) (ab bb : List UInt8) (w : World) (ha : ab.length ≤ 256) (hb : bb.length ≤ 256) (ho : 256 < ab.length + bb.length) :
    Calls Tryz.prog 56 #[.int .i64 9, va 3 an am ⟨ab.toArray⟩, va 3 bn bm ⟨bb.toArray⟩] w fun e w' => e = .returned (.tuple #[va 0 0 0 ⟨#[]⟩, .int .i64 32]) ∧ Below w.heap.size w w' := by
  have hs : (256 : Int) < (ab.length : Int) + (bb.length : Int) := by omega
  have hw : IntKind.i64.wrap ((ab.length : Int) + (bb.length : Int)) = (ab.length : Int) + (bb.length : Int) := by rw [IntKind.wrap_i64]; omega
  obtain ⟨w0, hw0, bxa, bxb, bxr, Bw⟩ := three_boxes w ⟨3, an, am, ab⟩ ⟨3, bn, bm, bb⟩
  dsimp only at hw0
  have B0 : Below w0.heap.size w0 w0 := Below.refl _ _
  go_enter Tryz.func56, Tryz.ntmps56
  go_wp2_with fail
  rw [← hw0]
  clear hw0
  obtain ⟨a0, a1, a2, a3⟩ := bxa.at4
  obtain ⟨b0, b1, b2, b3⟩ := bxb.at4
  dsimp only at a0 a1 a2 a3 b0 b1 b2 b3
  have br := bxr.later B0
  obtain ⟨r0, r1, r2, r3⟩ := br.at4
  dsimp only [nul] at r0 r1 r2 r3
  simp only [Nat.zero_add] at r1 r2 r3
  have f0 := br.free 0
  have f1 := br.free 1
  have f2 := br.free 2
  have f3 := br.free 3
  have lt1 := br.lt
  have Be := below_trans Bw B0
  go_wp2
  refine bodyPost_ret_by (v := .tuple #[va 0 0 0 ⟨#[]⟩, .int .i64 32]) ?_ rfl ⟨rfl, ?_⟩
  · simp [results, Tryz.results56, go_sem, r0, r1, r2, r3]
  · exact Be

theorem ba_append (x y : List UInt8) : (⟨x.toArray⟩ : ByteArray) ++ ⟨y.toArray⟩ = ⟨(x ++ y).toArray⟩ := by
  apply ByteArray.ext
  simp

set_option maxHeartbeats 2000000 in
theorem qtxt_join (an am bn bm : Int) (ab bb : List UInt8) (w : World) (ho : ¬ 256 < ab.length + bb.length) :
    Calls Tryz.prog 56 #[.int .i64 9, va 3 an am ⟨ab.toArray⟩, va 3 bn bm ⟨bb.toArray⟩] w fun e w' => e = .returned (.tuple #[va 3 0 0 ⟨(ab ++ bb).toArray⟩, .int .i64 0]) ∧ Below w.heap.size w w' := by
  have hs : ¬ (256 : Int) < (ab.length : Int) + (bb.length : Int) := by omega
  have hw : IntKind.i64.wrap ((ab.length : Int) + (bb.length : Int)) = (ab.length : Int) + (bb.length : Int) := by rw [IntKind.wrap_i64]; omega
  have C : ∀ W, Calls Tryz.prog 30 #[.string (⟨ab.toArray⟩ ++ ⟨bb.toArray⟩)] W fun e w' => e = .returned (.string ⟨(ab ++ bb).toArray⟩) ∧ Below W.heap.size W w' := by
    intro W
    rw [ba_append]
    exact clone_any _ W (by show (ab ++ bb).toArray.size ≤ _; simp; omega)
  obtain ⟨w0, hw0, bxa, bxb, bxr, Bw⟩ := three_boxes w ⟨3, an, am, ab⟩ ⟨3, bn, bm, bb⟩
  dsimp only at hw0
  have B0 : Below w0.heap.size w0 w0 := Below.refl _ _
  go_enter Tryz.func56, Tryz.ntmps56
  go_wp2_with fail
  rw [← hw0]
  clear hw0
  obtain ⟨a0, a1, a2, a3⟩ := bxa.at4
  obtain ⟨b0, b1, b2, b3⟩ := bxb.at4
  dsimp only at a0 a1 a2 a3 b0 b1 b2 b3
  go_wp2_with fail
  refine (C _).mono ?_
  rintro e w1 ⟨rfl, B1⟩
  have br := bxr.later B1
  obtain ⟨r0, r1, r2, r3⟩ := br.at4
  dsimp only [nul] at r0 r1 r2 r3
  simp only [Nat.zero_add] at r1 r2 r3
  have f0 := br.free 0
  have f1 := br.free 1
  have f2 := br.free 2
  have f3 := br.free 3
  have lt1 := br.lt
  have Be := below_trans Bw B1
  clear C a0 a1 a2 a3 b0 b1 b2 b3 br bxr
  go_wp2
  refine bodyPost_ret_by (v := .tuple #[va 3 0 0 ⟨(ab ++ bb).toArray⟩, .int .i64 0]) ?_ rfl ⟨rfl, ?_⟩
  · simp [results, Tryz.results56, go_sem, r0, r1, r2, r3]
  · refine below_trans (Be.setCell (p := ⟨w.heap.size + 1 + 1, 0, none⟩) (by dsimp only; omega) (.int .i64 3) |>.setCell (p := ⟨w.heap.size + 1 + 1, 1, none⟩) (by dsimp only; omega) (.int .i64 0) |>.setCell (p := ⟨w.heap.size + 1 + 1, 2, none⟩) (by dsimp only; omega) (.int .i64 0) |>.setCell (p := ⟨w.heap.size + 1 + 1, 3, none⟩) (by dsimp only; omega) (.string ⟨(ab ++ bb).toArray⟩)) (Grew.below ?_)
    repeat (first | assumption | exact Grew.refl _ | apply Grew.drew | apply Grew.drewN | apply Grew.alloc | apply Grew.more)

end Go.Proofs.YtnpdecbgakgbgaaGreatDoor

namespace Go.Proofs.YtnpdecbgakgbgaaGreatDoor
open Go.RowKit Go.Shelf
attribute [local go_sem] cell?_more frozen?_more setCell_more more_lt more_more more_drew more_drewN setCell_drewN alloc_drewN

theorem vof_vO (t : Int) : vof t = vv (vO t) := by unfold vof vO; split <;> rfl
theorem qof_any (t : Int) (w : World) : Calls Tryz.prog 90 #[.int .i64 t] w fun e w' => e = .returned (vv (vO t)) ∧ Grew w w' := by rw [← vof_vO]; exact of_any t w

set_option maxHeartbeats 2000000 in
theorem qtr_ff (op ak an am bk bn bm t u : Int) (ab bb : ByteArray) (w : World) (y0 : Bool) (Ta : ∀ W, Calls Tryz.prog 91 #[va ak an am ab] W fun e w' => e = .returned (.tuple #[.int .i64 t, .bool false]) ∧ Grew W w') (Tb : ∀ W, Calls Tryz.prog 91 #[va bk bn bm bb] W fun e w' => e = .returned (.tuple #[.int .i64 u, .bool y0]) ∧ Grew W w') :
    Calls Tryz.prog 50 #[.int .i64 op, va ak an am ab, va bk bn bm bb] w fun e w' => e = .returned (.tuple #[va 0 0 0 ⟨#[]⟩, .int .i64 31]) ∧ Grew w w' := by
  go_enter Tryz.func50, Tryz.ntmps50
  go_wp2_with fail
  refine (Ta _).mono ?_
  rintro e w1 ⟨rfl, os1, n1, rfl⟩
  go_wp2_with fail
  refine (Tb _).mono ?_
  rintro e w2 ⟨rfl, os2, n2, rfl⟩
  go_wp2
  all_goals refine bodyPost_ret_by (v := .tuple #[va 0 0 0 ⟨#[]⟩, .int .i64 31]) ?_ rfl ⟨rfl, (by repeat (first | assumption | exact Grew.refl _ | apply Grew.drew | apply Grew.drewN | apply Grew.alloc | apply Grew.more))⟩
  all_goals simp [results, Tryz.results50, go_sem]

set_option maxHeartbeats 2000000 in
theorem qtr_tf (op ak an am bk bn bm t u : Int) (ab bb : ByteArray) (w : World)  (Ta : ∀ W, Calls Tryz.prog 91 #[va ak an am ab] W fun e w' => e = .returned (.tuple #[.int .i64 t, .bool true]) ∧ Grew W w') (Tb : ∀ W, Calls Tryz.prog 91 #[va bk bn bm bb] W fun e w' => e = .returned (.tuple #[.int .i64 u, .bool false]) ∧ Grew W w') :
    Calls Tryz.prog 50 #[.int .i64 op, va ak an am ab, va bk bn bm bb] w fun e w' => e = .returned (.tuple #[va 0 0 0 ⟨#[]⟩, .int .i64 31]) ∧ Grew w w' := by
  go_enter Tryz.func50, Tryz.ntmps50
  go_wp2_with fail
  refine (Ta _).mono ?_
  rintro e w1 ⟨rfl, os1, n1, rfl⟩
  go_wp2_with fail
  refine (Tb _).mono ?_
  rintro e w2 ⟨rfl, os2, n2, rfl⟩
  go_wp2
  all_goals refine bodyPost_ret_by (v := .tuple #[va 0 0 0 ⟨#[]⟩, .int .i64 31]) ?_ rfl ⟨rfl, (by repeat (first | assumption | exact Grew.refl _ | apply Grew.drew | apply Grew.drewN | apply Grew.alloc | apply Grew.more))⟩
  all_goals simp [results, Tryz.results50, go_sem]

set_option maxHeartbeats 2000000 in
theorem qtr_and (ak an am bk bn bm t u : Int) (ab bb : ByteArray) (w : World)  (Ta : ∀ W, Calls Tryz.prog 91 #[va ak an am ab] W fun e w' => e = .returned (.tuple #[.int .i64 t, .bool true]) ∧ Grew W w') (Tb : ∀ W, Calls Tryz.prog 91 #[va bk bn bm bb] W fun e w' => e = .returned (.tuple #[.int .i64 u, .bool true]) ∧ Grew W w') :
    Calls Tryz.prog 50 #[.int .i64 17, va ak an am ab, va bk bn bm bb] w fun e w' => e = .returned (rs (vO (tand t u), 0)) ∧ Grew w w' := by
  have C := fun W => and_any t u W
  have O := fun W => qof_any (tand t u) W
  go_enter Tryz.func50, Tryz.ntmps50
  go_wp2_with fail
  refine (Ta _).mono ?_
  rintro e w1 ⟨rfl, os1, n1, rfl⟩
  go_wp2_with fail
  refine (Tb _).mono ?_
  rintro e w2 ⟨rfl, os2, n2, rfl⟩
  go_wp2_with (first
    | (go_at_call 101; refine (C _).mono ?_; rintro e w3 ⟨rfl, rfl⟩)
    | (go_at_call 90; refine (O _).mono ?_; rintro e w3 ⟨rfl, os3, n3, rfl⟩))
  refine bodyPost_ret_by (v := rs (vO (tand t u), 0)) ?_ rfl ⟨rfl, (by repeat (first | assumption | exact Grew.refl _ | apply Grew.drew | apply Grew.drewN | apply Grew.alloc | apply Grew.more))⟩
  simp [results, Tryz.results50, go_sem]

set_option maxHeartbeats 2000000 in
theorem qtr_or (op ak an am bk bn bm t u : Int) (ab bb : ByteArray) (w : World) (e17 : (op == 17) = false) (Ta : ∀ W, Calls Tryz.prog 91 #[va ak an am ab] W fun e w' => e = .returned (.tuple #[.int .i64 t, .bool true]) ∧ Grew W w') (Tb : ∀ W, Calls Tryz.prog 91 #[va bk bn bm bb] W fun e w' => e = .returned (.tuple #[.int .i64 u, .bool true]) ∧ Grew W w') :
    Calls Tryz.prog 50 #[.int .i64 op, va ak an am ab, va bk bn bm bb] w fun e w' => e = .returned (rs (vO (tor t u), 0)) ∧ Grew w w' := by
  have C := fun W => or_any t u W
  have O := fun W => qof_any (tor t u) W
  go_enter Tryz.func50, Tryz.ntmps50
  go_wp2_with fail
  refine (Ta _).mono ?_
  rintro e w1 ⟨rfl, os1, n1, rfl⟩
  go_wp2_with fail
  refine (Tb _).mono ?_
  rintro e w2 ⟨rfl, os2, n2, rfl⟩
  go_wp2_with (first
    | (go_at_call 102; refine (C _).mono ?_; rintro e w3 ⟨rfl, rfl⟩)
    | (go_at_call 90; refine (O _).mono ?_; rintro e w3 ⟨rfl, os3, n3, rfl⟩))
  refine bodyPost_ret_by (v := rs (vO (tor t u), 0)) ?_ rfl ⟨rfl, (by repeat (first | assumption | exact Grew.refl _ | apply Grew.drew | apply Grew.drewN | apply Grew.alloc | apply Grew.more))⟩
  simp [results, Tryz.results50, go_sem]

theorem qtru_any (op : Int) (a b : Va) (w : World) : Calls Tryz.prog 50 #[.int .i64 op, vv a, vv b] w fun e w' => e = .returned (rs (truR op a b)) ∧ Grew w w' := by
  have A := fun W => truth_any a.k a.n a.m ⟨a.b.toArray⟩ W
  have B := fun W => truth_any b.k b.n b.m ⟨b.b.toArray⟩ W
  unfold truR
  cases ha : tB a
  · rw [if_neg (by simp)]
    rw [show truB a.k a.n a.m ⟨a.b.toArray⟩ = false from ha] at A
    exact qtr_ff op _ _ _ _ _ _ _ _ _ _ w _ A B
  · rw [show truB a.k a.n a.m ⟨a.b.toArray⟩ = true from ha] at A
    cases hb : tB b
    · rw [if_neg (by simp)]
      rw [show truB b.k b.n b.m ⟨b.b.toArray⟩ = false from hb] at B
      exact qtr_tf op _ _ _ _ _ _ _ _ _ _ w A B
    · rw [if_pos (by rfl)]
      rw [show truB b.k b.n b.m ⟨b.b.toArray⟩ = true from hb] at B
      by_cases h : op = 17
      · subst h
        rw [if_pos rfl]
        exact qtr_and _ _ _ _ _ _ _ _ _ _ w A B
      · rw [if_neg h]
        exact qtr_or op _ _ _ _ _ _ _ _ _ _ w (by simpa using h) A B

set_option maxHeartbeats 2000000 in
theorem qnot_any (a : Va) (w : World) : Calls Tryz.prog 37 #[vv a] w fun e w' => e = .returned (rs (notR a)) ∧ Grew w w' := by
  have A := fun W => truth_any a.k a.n a.m ⟨a.b.toArray⟩ W
  unfold notR
  cases ha : tB a
  · rw [if_neg (by simp)]
    rw [show truB a.k a.n a.m ⟨a.b.toArray⟩ = false from ha] at A
    generalize truN a.k a.n a.m ⟨a.b.toArray⟩ = t at *
    go_enter Tryz.func37, Tryz.ntmps37
    go_wp2_with (go_at_call 91; refine (A _).mono ?_; rintro e w1 ⟨rfl, os1, n1, rfl⟩)
    refine bodyPost_ret_by (v := rs (nul, 31)) ?_ rfl ⟨rfl, (by repeat (first | assumption | exact Grew.refl _ | apply Grew.drew | apply Grew.drewN | apply Grew.alloc | apply Grew.more))⟩
    simp [results, Tryz.results37, go_sem, nul]
  · rw [if_pos rfl]
    rw [show truB a.k a.n a.m ⟨a.b.toArray⟩ = true from ha] at A
    unfold tN
    generalize truN a.k a.n a.m ⟨a.b.toArray⟩ = t at *
    have C := fun W => not_any t W
    have O := fun W => qof_any (tnot t) W
    go_enter Tryz.func37, Tryz.ntmps37
    go_wp2_with (first
      | (go_at_call 91; refine (A _).mono ?_; rintro e w1 ⟨rfl, os1, n1, rfl⟩)
      | (go_at_call 92; refine (C _).mono ?_; rintro e w3 ⟨rfl, rfl⟩)
      | (go_at_call 90; refine (O _).mono ?_; rintro e w3 ⟨rfl, os3, n3, rfl⟩))
    refine bodyPost_ret_by (v := rs (vO (tnot t), 0)) ?_ rfl ⟨rfl, (by repeat (first | assumption | exact Grew.refl _ | apply Grew.drew | apply Grew.drewN | apply Grew.alloc | apply Grew.more))⟩
    simp [results, Tryz.results37, go_sem]
end Go.Proofs.YtnpdecbgakgbgaaGreatDoor
