/-
  The library's CutPrefix and Cut at texts of one sign, and rightWhole and rightPart of package decimal: for every text.
-/
import Derived.Test.YtibbenhplmmmiaaGreatDoorChecked
import Derived.Test.YtibbenhplmmmiaaGreatDoorDCutM
import Derived.Test.YtibbenhplmmmiaaGreatDoorMiDWide3
import Derived.WalkKit
import Derived.WalkSpells
import Derived.WalkLawsBesides
import Derived.Laws.IdiomStrings
import Derived.Deep.RegionWith
namespace Go.Proofs.YtibbenhplmmmiaaGreatDoor
open Go.RowKit

theorem ba_extract (l : List UInt8) (a b : Nat) : (ByteArray.mk l.toArray).extract a b = ⟨((l.take b).drop a).toArray⟩ := by
  apply ByteArray.ext
  simp [ByteArray.data_extract]
  exact (List.drop_take ..).symm

theorem not_empty (c : UInt8) (l : List UInt8) : (ByteArray.mk (c :: l).toArray).toList.isEmpty = false := by
  rw [← decide_eq_emptyBytes]
  refine decide_eq_false ?_
  intro h
  have := congrArg ByteArray.size h
  exact absurd this (by show ¬ (c :: l).length = 0; simp)

theorem rightPart_any (l : List UInt8) (w : World) : Calls Tryz.prog 210 #[.string ⟨l.toArray⟩] w fun e w' => e = .returned (.bool (rightP l)) ∧ w = w' := by
  match l with
  | [] =>
    go_enter Tryz.func210, Tryz.ntmps210
    go_wp2
    all_goals go_ret
    all_goals exact ⟨rfl, rfl⟩
  | c :: l =>
    have h0 := not_empty c l
    have hs : (ByteArray.mk (c :: l).toArray).size = l.length + 1 := rfl
    have e : rightP (c :: l) = decide ((l.length : Int) + 1 ≤ 6) := by simp [rightP]; omega
    rw [e]
    generalize ByteArray.mk (c :: l).toArray = B at *
    clear e
    go_enter Tryz.func210, Tryz.ntmps210
    go_wp2
    all_goals go_ret
    all_goals exact ⟨rfl, rfl⟩

theorem rightWhole_any (l : List UInt8) (w : World) : Calls Tryz.prog 209 #[.string ⟨l.toArray⟩] w fun e w' => e = .returned (.bool (rightW l)) ∧ w = w' := by
  match l with
  | [] =>
    go_enter Tryz.func209, Tryz.ntmps209
    go_wp2
    all_goals go_ret
    all_goals exact ⟨rfl, rfl⟩
  | c :: l =>
    have h0 := not_empty c l
    have hs : (ByteArray.mk (c :: l).toArray).size = l.length + 1 := rfl
    have hg : ∀ h, (ByteArray.mk (c :: l).toArray)[0]'h = c := fun h => rfl
    by_cases h1 : c :: l = [48]
    · rw [h1]
      go_enter Tryz.func209, Tryz.ntmps209
      go_wp2
      all_goals go_ret
      all_goals exact ⟨rfl, rfl⟩
    · have h2 : ((ByteArray.mk (c :: l).toArray).toList == [48]) = false := by
        rw [ByteArray.toList_eq]
        exact beq_eq_false_iff_ne.2 h1
      by_cases h3 : c = 48
      · have e : rightW (c :: l) = false := by simp [rightW, h3]; rw [h3] at h1; simpa using h1
        have h4 : (c.toNat : Int) = 48 := by rw [h3]; rfl
        rw [e]
        generalize ByteArray.mk (c :: l).toArray = B at *
        clear e h1
        go_enter Tryz.func209, Tryz.ntmps209
        go_wp2
        all_goals go_ret
        all_goals exact ⟨rfl, rfl⟩
      · have e : rightW (c :: l) = true := by simp [rightW, h3]
        have h4 : ¬ (c.toNat : Int) = 48 := by
          intro h
          have h5 : c.toNat = 48 := by omega
          exact h3 (UInt8.toNat_inj.1 h5)
        have h5 : ((c.toNat : Int) != 48) = true := by simpa using h4
        rw [e, ← h5]
        generalize ByteArray.mk (c :: l).toArray = B at *
        clear e h1 h3 h4 h5
        go_enter Tryz.func209, Tryz.ntmps209
        go_wp2
        all_goals go_ret
        all_goals exact ⟨rfl, rfl⟩

theorem cutPrefix_any (l : List UInt8) (w : World) (hl : l.length ≤ 9223372036854775806) :
    Calls Tryz.prog 208 #[.string ⟨l.toArray⟩, .string ⟨#[45]⟩] w fun e w' => e = .returned (.tuple #[.string ⟨(if l.head? = some 45 then l.drop 1 else l).toArray⟩, .bool (decide (l.head? = some 45))]) ∧ w = w' := by
  match l, hl with
  | [], _ =>
    go_enter Tryz.func208, Tryz.ntmps208
    go_wp2
    refine bodyPost_ret_by (v := .tuple #[.string ⟨#[]⟩, .bool false]) ?_ rfl ⟨rfl, rfl⟩
    simp [results, Tryz.results208, go_sem]
  | c :: l, hl =>
    have hs : (ByteArray.mk (c :: l).toArray).size = l.length + 1 := rfl
    have hx : (((ByteArray.mk (c :: l).toArray).extract 0 1).toList == [45]) = decide (c = 45) := by
      rw [ba_extract, ByteArray.toList_eq]
      show ([c] == [45]) = _
      by_cases h : c = 45 <;> simp [h]
    have hy : (ByteArray.mk (c :: l).toArray).extract 1 (l.length + 1) = ⟨l.toArray⟩ := by
      rw [ba_extract]
      show (⟨(((c :: l).take (l.length + 1)).drop 1).toArray⟩ : ByteArray) = _
      rw [List.take_of_length_le (by simp)]
      rfl
    have hl1 : l.length ≤ 9223372036854775805 := by simp at hl; omega
    have h1 : ((l.length + 1 : Nat) : Int) = (l.length : Int) + 1 := by omega
    have h2 : (1 : Int) ≤ (l.length : Int) + 1 := by omega
    by_cases hc : c = 45
    · have e1 : (c :: l).head? = some 45 := by rw [hc]; rfl
      rw [if_pos e1, decide_eq_true e1]
      rw [decide_eq_true hc] at hx
      show Calls Tryz.prog 208 #[.string ⟨(c :: l).toArray⟩, .string ⟨#[45]⟩] w fun e w' => e = .returned (.tuple #[.string ⟨l.toArray⟩, .bool true]) ∧ w = w'
      generalize ByteArray.mk (c :: l).toArray = B at *
      generalize ByteArray.mk l.toArray = R at *
      clear e1 hc hl
      go_enter Tryz.func208, Tryz.ntmps208
      go_wp2
      refine bodyPost_ret_by (v := .tuple #[.string R, .bool true]) ?_ rfl ⟨rfl, rfl⟩
      simp [results, Tryz.results208, go_sem]
    · have e1 : ¬ (c :: l).head? = some 45 := by simpa using hc
      rw [if_neg e1, decide_eq_false e1]
      rw [decide_eq_false hc] at hx
      generalize ByteArray.mk (c :: l).toArray = B at *
      clear e1 hc hl hy
      go_enter Tryz.func208, Tryz.ntmps208
      go_wp2
      refine bodyPost_ret_by (v := .tuple #[.string B, .bool false]) ?_ rfl ⟨rfl, rfl⟩
      simp [results, Tryz.results208, go_sem]

theorem indexByte_at (B : ByteArray) (r : Int) (h : firstIdx B 46 = r) (w : World) : (callFunc 306 #[.string B, .int .u8 46]).run Tryz.prog w = .ok (.value (.int .i64 r)) w := by
  rw [run_callFunc_extern Tryz.func306 (by kernel_rfl) (by kernel_rfl) (by kernel_rfl) (e := Extern.BytealgIndexByte.indexByte) (by kernel_rfl), run_indexByte_string]
  rw [show ((46 : Int).toNat.toUInt8) = 46 from rfl, h]
  rfl

set_option maxRecDepth 10000 in
theorem index_any (l : List UInt8) (w : World) : Calls Tryz.prog 257 #[.string ⟨l.toArray⟩, .string ⟨#[46]⟩] w fun e w' => e = .returned (.int .i64 (firstIdx ⟨l.toArray⟩ 46)) ∧ w = w' := by
  have hc : ∀ h, (ByteArray.mk #[46])[0]'h = 46 := fun h => rfl
  by_cases hd : l = [46]
  · have hx2 : (([46] : List UInt8) == (ByteArray.mk l.toArray).toList) = true := by
      rw [ByteArray.toList_eq, hd]; rfl
    have hx : (({ data := #[46] } : ByteArray).toList == (ByteArray.mk l.toArray).toList) = true := by
      rw [ByteArray.toList_eq, ByteArray.toList_eq, hd]; rfl
    have e : firstIdx ⟨l.toArray⟩ 46 = 0 := by rw [hd]; decide +kernel
    rw [e]
    generalize ByteArray.mk l.toArray = B at *
    clear hd e
    go_enter Tryz.func257, Tryz.ntmps257
    go_wp2
    all_goals go_ret
    all_goals exact ⟨rfl, rfl⟩
  · have hx : (({ data := #[46] } : ByteArray).toList == (ByteArray.mk l.toArray).toList) = false := by
      rw [ByteArray.toList_eq, ByteArray.toList_eq]
      exact beq_eq_false_iff_ne.2 (fun h => hd h.symm)
    have hx2 : (([46] : List UInt8) == (ByteArray.mk l.toArray).toList) = false := by
      rw [ByteArray.toList_eq]
      exact beq_eq_false_iff_ne.2 (fun h => hd h.symm)
    have F := fun w => indexByte_at _ _ (rfl : firstIdx ⟨l.toArray⟩ 46 = _) w
    generalize firstIdx ⟨l.toArray⟩ 46 = r at *
    generalize ByteArray.mk l.toArray = B at *
    clear hd
    go_enter Tryz.func257, Tryz.ntmps257
    go_wp2
    all_goals go_ret
    all_goals exact ⟨rfl, rfl⟩

theorem cutlite_any (l : List UInt8) (w : World) (hl : l.length ≤ 9223372036854775806) :
    Calls Tryz.prog 199 #[.string ⟨l.toArray⟩, .string ⟨#[46]⟩] w fun e w' => e = .returned (.tuple #[.string ⟨(cutPt l).1.toArray⟩, .string ⟨(cutPt l).2.1.toArray⟩, .bool (cutPt l).2.2]) ∧ Grew w w' := by
  have hs : (ByteArray.mk l.toArray).size = l.length := rfl
  have I := fun W => index_any l W
  rcases first_cut l with ⟨h1, h2⟩ | ⟨i, h1, h2, h3⟩
  · rw [h1] at I
    rw [h2]
    show Calls Tryz.prog 199 #[.string ⟨l.toArray⟩, .string ⟨#[46]⟩] w fun e w' => e = .returned (.tuple #[.string ⟨l.toArray⟩, .string ⟨#[]⟩, .bool false]) ∧ Grew w w'
    generalize ByteArray.mk l.toArray = B at *
    clear h1 h2 hl
    go_enter Tryz.func199, Tryz.ntmps199
    go_wp2_with (go_at_call 257; refine (I _).mono ?_; rintro e w' ⟨rfl, rfl⟩)
    refine bodyPost_ret_by (v := .tuple #[.string B, .string ⟨#[]⟩, .bool false]) ?_ rfl ⟨rfl, Grew.refl _⟩
    simp [results, Tryz.results199, go_sem]
  · have hy : (ByteArray.mk l.toArray).extract 0 i = ⟨(l.take i).toArray⟩ := by rw [ba_extract]; rfl
    have hz : (ByteArray.mk l.toArray).extract (i + 1) l.length = ⟨(l.drop (i + 1)).toArray⟩ := by rw [ba_extract, List.take_length]
    rw [h1] at I
    rw [h3]
    show Calls Tryz.prog 199 #[.string ⟨l.toArray⟩, .string ⟨#[46]⟩] w fun e w' => e = .returned (.tuple #[.string ⟨(l.take i).toArray⟩, .string ⟨(l.drop (i + 1)).toArray⟩, .bool true]) ∧ Grew w w'
    generalize ByteArray.mk l.toArray = B at *
    generalize ByteArray.mk (l.take i).toArray = R1 at *
    generalize ByteArray.mk (l.drop (i + 1)).toArray = R2 at *
    have i0 : (0 : Int) ≤ (i : Int) := by omega
    have i1 : (i : Int) < (l.length : Int) := by omega
    have i2 : IntKind.i64.wrap ((i : Int) + 1) = (i : Int) + 1 := by rw [IntKind.wrap_i64]; omega
    have i3 : (0 : Int) ≤ (i : Int) + 1 := by omega
    have i4 : (i : Int) + 1 ≤ (l.length : Int) := by omega
    have i5 : ((i : Int) + 1).toNat = i + 1 := by omega
    have i6 : (i : Int) ≤ (l.length : Int) := by omega
    clear h1 h3 hl
    go_enter Tryz.func199, Tryz.ntmps199
    go_wp2_with (go_at_call 257; refine (I _).mono ?_; rintro e w' ⟨rfl, rfl⟩)
    go_region_with fail
    all_goals go_wp2
    all_goals refine bodyPost_ret_by (v := .tuple #[.string R1, .string R2, .bool true]) ?_ rfl ⟨rfl, ?_⟩
    all_goals first
      | (simp [results, Tryz.results199, go_sem]; done)
      | (repeat (first | exact Grew.refl _ | apply Grew.drew | apply Grew.drewN | apply Grew.alloc | apply Grew.more))

theorem cut_any (l : List UInt8) (w : World) (hl : l.length ≤ 9223372036854775806) :
    Calls Tryz.prog 140 #[.string ⟨l.toArray⟩, .string ⟨#[46]⟩] w fun e w' => e = .returned (.tuple #[.string ⟨(cutPt l).1.toArray⟩, .string ⟨(cutPt l).2.1.toArray⟩, .bool (cutPt l).2.2]) ∧ Grew w w' := by
  have C := fun W => cutlite_any l W hl
  generalize ByteArray.mk l.toArray = B at *
  generalize ByteArray.mk (cutPt l).1.toArray = R1 at *
  generalize ByteArray.mk (cutPt l).2.1.toArray = R2 at *
  generalize (cutPt l).2.2 = b at *
  clear hl
  go_enter Tryz.func140, Tryz.ntmps140
  go_wp2_with (go_at_call 199; refine (C _).mono ?_; rintro e w' ⟨rfl, os, n, rfl⟩)
  refine bodyPost_ret_by (v := .tuple #[.string R1, .string R2, .bool b]) ?_ rfl ⟨rfl, ?_⟩
  · simp [results, Tryz.results140, go_sem]
  · repeat (first | exact Grew.refl _ | apply Grew.drew | apply Grew.drewN | apply Grew.alloc | apply Grew.more)
end Go.Proofs.YtibbenhplmmmiaaGreatDoor
