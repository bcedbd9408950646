/-
  strings.Cut at a comma.
-/
import Derived.Test.YtibbenhplmmmiaaGreatDoorChecked
import Derived.Test.YtibbenhplmmmiaaGreatDoorMiDWide3
import Derived.Test.YtibbenhplmmmiaaGreatDoorPtM
import Derived.WalkKit
import Derived.WalkSpells
import Derived.WalkLawsBesides
import Derived.Laws.IdiomStrings
import Derived.Deep.RegionWith
namespace Go.Proofs.YtibbenhplmmmiaaGreatDoor.Pt
open Go.RowKit Go.Proofs.YtibbenhplmmmiaaGreatDoor
attribute [local go_sem] cell?_more frozen?_more setCell_more more_lt more_more more_drew more_drewN setCell_drewN alloc_drewN
theorem ba_get (l : List UInt8) (i : Nat) (h : i < l.length) : (ByteArray.mk l.toArray)[i]! = l[i] := by
  rw [getElem!_pos _ i (show i < (ByteArray.mk l.toArray).size from h)]
  rfl
/-- Where a byte is first met, and how a text is parted there. -/
theorem ba_extract (l : List UInt8) (a b : Nat) : (ByteArray.mk l.toArray).extract a b = ⟨((l.take b).drop a).toArray⟩ := by
  apply ByteArray.ext
  simp [ByteArray.data_extract]
  exact (List.drop_take ..).symm

/-- Where a byte is first met, and how a text is parted there. -/
theorem first_cutC (l : List UInt8) : (firstIdx ⟨l.toArray⟩ 44 = -1 ∧ cutCm l = (l, [], false)) ∨ (∃ i : Nat, firstIdx ⟨l.toArray⟩ 44 = (i : Int) ∧ i < l.length ∧ cutCm l = (l.take i, l.drop (i + 1), true)) := by
  unfold firstIdx
  have hs : (ByteArray.mk l.toArray).size = l.length := rfl
  rw [hs]
  cases h : (List.range l.length).find? (fun i => (ByteArray.mk l.toArray)[i]! == 44) with
  | none =>
    left
    refine ⟨rfl, cutCm_none l ?_⟩
    rw [List.find?_range_eq_none] at h
    intro c hc e
    obtain ⟨i, hi, rfl⟩ := List.getElem_of_mem hc
    have := h i hi
    rw [ba_get l i hi, e] at this
    simp at this
  | some i =>
    right
    rw [List.find?_range_eq_some] at h
    obtain ⟨h1, h2, h3⟩ := h
    have hi : i < l.length := by simpa using h2
    refine ⟨i, rfl, hi, ?_⟩
    rw [ba_get l i hi] at h1
    have e : l[i] = 44 := eq_of_beq h1
    have hsplit : l = l.take i ++ 44 :: l.drop (i + 1) := by
      rw [← e, ← List.drop_eq_getElem_cons hi, List.take_append_drop]
    conv => lhs; rw [hsplit]
    refine cutCm_some _ _ ?_
    intro c hc e2
    obtain ⟨j, hj, rfl⟩ := List.getElem_of_mem hc
    have hj' : j < i := by rw [List.length_take] at hj; omega
    have := h3 j hj'
    rw [ba_get l j (by omega)] at this
    rw [List.getElem_take] at e2
    rw [e2] at this
    simp at this
theorem indexByteC_at (B : ByteArray) (r : Int) (h : firstIdx B 44 = r) (w : World) : (callFunc 306 #[.string B, .int .u8 44]).run Tryz.prog w = .ok (.value (.int .i64 r)) w := by
  rw [run_callFunc_extern Tryz.func306 (by kernel_rfl) (by kernel_rfl) (by kernel_rfl) (e := Extern.BytealgIndexByte.indexByte) (by kernel_rfl), run_indexByte_string]
  rw [show ((44 : Int).toNat.toUInt8) = 44 from rfl, h]
  rfl

set_option maxRecDepth 10000 in
theorem indexC_any (l : List UInt8) (w : World) : Calls Tryz.prog 257 #[.string ⟨l.toArray⟩, .string ⟨#[44]⟩] w fun e w' => e = .returned (.int .i64 (firstIdx ⟨l.toArray⟩ 44)) ∧ w = w' := by
  have hc : ∀ h, (ByteArray.mk #[44])[0]'h = 44 := fun h => rfl
  by_cases hd : l = [44]
  · have hx2 : (([44] : List UInt8) == (ByteArray.mk l.toArray).toList) = true := by
      rw [ByteArray.toList_eq, hd]; rfl
    have hx : (({ data := #[44] } : ByteArray).toList == (ByteArray.mk l.toArray).toList) = true := by
      rw [ByteArray.toList_eq, ByteArray.toList_eq, hd]; rfl
    have e : firstIdx ⟨l.toArray⟩ 44 = 0 := by rw [hd]; decide +kernel
    rw [e]
    generalize ByteArray.mk l.toArray = B at *
    clear hd e
    go_enter Tryz.func257, Tryz.ntmps257
    go_wp2
    all_goals go_ret
    all_goals exact ⟨rfl, rfl⟩
  · have hx : (({ data := #[44] } : ByteArray).toList == (ByteArray.mk l.toArray).toList) = false := by
      rw [ByteArray.toList_eq, ByteArray.toList_eq]
      exact beq_eq_false_iff_ne.2 (fun h => hd h.symm)
    have hx2 : (([44] : List UInt8) == (ByteArray.mk l.toArray).toList) = false := by
      rw [ByteArray.toList_eq]
      exact beq_eq_false_iff_ne.2 (fun h => hd h.symm)
    have F := fun w => indexByteC_at _ _ (rfl : firstIdx ⟨l.toArray⟩ 44 = _) w
    generalize firstIdx ⟨l.toArray⟩ 44 = r at *
    generalize ByteArray.mk l.toArray = B at *
    clear hd
    go_enter Tryz.func257, Tryz.ntmps257
    go_wp2
    all_goals go_ret
    all_goals exact ⟨rfl, rfl⟩

theorem cutliteC_any (l : List UInt8) (w : World) (hl : l.length ≤ 9223372036854775806) :
    Calls Tryz.prog 199 #[.string ⟨l.toArray⟩, .string ⟨#[44]⟩] w fun e w' => e = .returned (.tuple #[.string ⟨(cutCm l).1.toArray⟩, .string ⟨(cutCm l).2.1.toArray⟩, .bool (cutCm l).2.2]) ∧ Grew w w' := by
  have hs : (ByteArray.mk l.toArray).size = l.length := rfl
  have I := fun W => indexC_any l W
  rcases first_cutC l with ⟨h1, h2⟩ | ⟨i, h1, h2, h3⟩
  · rw [h1] at I
    rw [h2]
    show Calls Tryz.prog 199 #[.string ⟨l.toArray⟩, .string ⟨#[44]⟩] w fun e w' => e = .returned (.tuple #[.string ⟨l.toArray⟩, .string ⟨#[]⟩, .bool false]) ∧ Grew w w'
    generalize ByteArray.mk l.toArray = B at *
    clear h1 h2 hl
    go_enter Tryz.func199, Tryz.ntmps199
    go_wp2_with (go_at_call 257; refine (I _).mono ?_; rintro e w' ⟨rfl, rfl⟩)
    refine bodyPost_ret_by (v := .tuple #[.string B, .string ⟨#[]⟩, .bool false]) ?_ rfl ⟨rfl, Grew.refl _⟩
    simp [results, Tryz.results199, go_sem]
  · have hy : (ByteArray.mk l.toArray).extract 0 i = ⟨(l.take i).toArray⟩ := by rw [ba_extract]; rfl
    have hz : (ByteArray.mk l.toArray).extract (i + 1) l.length = ⟨(l.drop (i + 1)).toArray⟩ := by rw [ba_extract, List.take_length]
    rw [h1] at I
    rw [h3]
    show Calls Tryz.prog 199 #[.string ⟨l.toArray⟩, .string ⟨#[44]⟩] w fun e w' => e = .returned (.tuple #[.string ⟨(l.take i).toArray⟩, .string ⟨(l.drop (i + 1)).toArray⟩, .bool true]) ∧ Grew w w'
    generalize ByteArray.mk l.toArray = B at *
    generalize ByteArray.mk (l.take i).toArray = R1 at *
    generalize ByteArray.mk (l.drop (i + 1)).toArray = R2 at *
    have i0 : (0 : Int) ≤ (i : Int) := by omega
    have i1 : (i : Int) < (l.length : Int) := by omega
    have i2 : IntKind.i64.wrap ((i : Int) + 1) = (i : Int) + 1 := by rw [IntKind.wrap_i64]; omega
    have i3 : (0 : Int) ≤ (i : Int) + 1 := by omega
    have i4 : (i : Int) + 1 ≤ (l.length : Int) := by omega
    have i5 : ((i : Int) + 1).toNat = i + 1 := by omega
    have i6 : (i : Int) ≤ (l.length : Int) := by omega
    clear h1 h3 hl
    go_enter Tryz.func199, Tryz.ntmps199
    go_wp2_with (go_at_call 257; refine (I _).mono ?_; rintro e w' ⟨rfl, rfl⟩)
    go_region_with fail
    all_goals go_wp2
    all_goals refine bodyPost_ret_by (v := .tuple #[.string R1, .string R2, .bool true]) ?_ rfl ⟨rfl, ?_⟩
    all_goals first
      | (simp [results, Tryz.results199, go_sem]; done)
      | (repeat (first | exact Grew.refl _ | apply Grew.drew | apply Grew.drewN | apply Grew.alloc | apply Grew.more))

theorem cutC_any (l : List UInt8) (w : World) (hl : l.length ≤ 9223372036854775806) :
    Calls Tryz.prog 140 #[.string ⟨l.toArray⟩, .string ⟨#[44]⟩] w fun e w' => e = .returned (.tuple #[.string ⟨(cutCm l).1.toArray⟩, .string ⟨(cutCm l).2.1.toArray⟩, .bool (cutCm l).2.2]) ∧ Grew w w' := by
  have C := fun W => cutliteC_any l W hl
  generalize ByteArray.mk l.toArray = B at *
  generalize ByteArray.mk (cutCm l).1.toArray = R1 at *
  generalize ByteArray.mk (cutCm l).2.1.toArray = R2 at *
  generalize (cutCm l).2.2 = b at *
  clear hl
  go_enter Tryz.func140, Tryz.ntmps140
  go_wp2_with (go_at_call 199; refine (C _).mono ?_; rintro e w' ⟨rfl, os, n, rfl⟩)
  refine bodyPost_ret_by (v := .tuple #[.string R1, .string R2, .bool b]) ?_ rfl ⟨rfl, ?_⟩
  · simp [results, Tryz.results140, go_sem]
  · repeat (first | exact Grew.refl _ | apply Grew.drew | apply Grew.drewN | apply Grew.alloc | apply Grew.more)
end Go.Proofs.YtibbenhplmmmiaaGreatDoor.Pt
