/-
  The document's Print: the text of any decimal.
-/
import Derived.Test.YtibbenhplmmmiaaGreatDoorDText1
import Derived.Test.YtibbenhplmmmiaaGreatDoorDPower
import Derived.Deep.RegionHeld2
namespace Go.Proofs.YtibbenhplmmmiaaGreatDoor
open Go.RowKit
attribute [local go_sem] cell?_more frozen?_more setCell_more more_lt more_more more_drew more_drewN setCell_drewN alloc_drewN

/-- How long a text is. -/
def strLen : Value → Nat
  | .string b => b.size
  | _ => 0
/-- Digits with as many noughts ahead that more than s are there. -/
def pad (s : Nat) (l : List UInt8) : List UInt8 := List.replicate (s + 1 - l.length) 48 ++ l
theorem pad_more (s : Nat) (l : List UInt8) (h : l.length ≤ s) : pad s (48 :: l) = pad s l := by
  unfold pad
  rw [List.length_cons, show s + 1 - l.length = (s + 1 - (l.length + 1)) + 1 by omega, List.replicate_succ']
  simp
theorem pad_done (s : Nat) (l : List UInt8) (h : s < l.length) : pad s l = l := by
  unfold pad
  rw [show s + 1 - l.length = 0 by omega]; rfl
theorem pad_len (s : Nat) (l : List UInt8) : (pad s l).length = max (s + 1) l.length := by
  unfold pad
  rw [List.length_append, List.length_replicate]; omega
theorem ba_nil (t : List UInt8) : (⟨#[]⟩ : ByteArray) ++ ⟨t.toArray⟩ = ⟨([] ++ t).toArray⟩ := ba_app [] t
theorem cut_text (P T : List UInt8) (m : Nat) : (⟨P.toArray⟩ : ByteArray) ++ (ByteArray.mk T.toArray).extract 0 m ++ ⟨#[46]⟩ ++ (ByteArray.mk T.toArray).extract m T.length = ⟨(P ++ (T.take m ++ 46 :: T.drop m)).toArray⟩ := by
  apply ByteArray.ext
  simp [ByteArray.data_extract]
  exact List.take_of_length_le (by simp)
/-- The text of units of a scale. -/
def dtext (u : Int) (s : Nat) : List UInt8 :=
  (if u < 0 then [45] else []) ++ (if s = 0 then pad 0 (digs u.natAbs) else (pad s (digs u.natAbs)).take ((pad s (digs u.natAbs)).length - s) ++ 46 :: (pad s (digs u.natAbs)).drop ((pad s (digs u.natAbs)).length - s))

set_option maxHeartbeats 4000000 in
theorem rprint_good (u : Int) (s : Nat) (w : World) (hs : s ≤ 6) (u0 : -9223372036854775808 ≤ u) (u1 : u ≤ 9223372036854775807) :
    Calls Tryz.prog 41 #[dv u (s : Int)] w fun e w' => e = .returned (.string ⟨(dtext u s).toArray⟩) ∧ Grew w w' := by
  have Ra := fun W => refRight_any u (s : Int) W
  have hr : rightS (s : Int) = true := (rightS_iff _).2 (by omega)
  rw [hr] at Ra
  obtain ⟨U, hU⟩ : ∃ U, U = u.natAbs := ⟨_, rfl⟩
  have HD := fun W => rdigits_any U W (by omega)
  have HLEN : Hid ((digs U).length ≤ 20) := digs_len 19 U (by have : (10 : Nat) ^ (19 + 1) = 100000000000000000000 := by decide
                                                              omega)
  obtain ⟨D, hD⟩ : ∃ D, D = digs U := ⟨_, rfl⟩
  rw [← hD] at HD HLEN
  obtain ⟨sg, hsg⟩ : ∃ sg : List UInt8, sg = if u < 0 then [45] else [] := ⟨_, rfl⟩
  have HT : Hid (dtext u s = sg ++ (if s = 0 then pad s D else (pad s D).take ((pad s D).length - s) ++ 46 :: (pad s D).drop ((pad s D).length - s))) := by
    show dtext u s = _
    unfold dtext
    rw [hsg, hD, hU]
    by_cases h : s = 0
    · rw [if_pos h, if_pos h, h]
    · rw [if_neg h, if_neg h]
  by_cases hn : u < 0
  · have e1 : IntKind.u64.wrap (-(IntKind.u64.wrap u)) = (U : Int) := by rw [IntKind.wrap_u64, IntKind.wrap_u64]; omega
    rw [if_pos hn] at hsg
    subst hsg
    clear hU hD hr u0 u1
    go_enter Tryz.func41, Tryz.ntmps41
    go_wp2_with (first
      | (go_at_call 89; refine (Ra _).mono ?_; rintro e w' ⟨rfl, os, n, rfl⟩)
      | (go_at_call 90; refine (HD _).mono ?_; rintro e w' ⟨rfl, os1, n1, rfl⟩))
    clear HD Ra
    go_loopw [5] (fun t wr => ∃ (T : List UInt8), t = .string ⟨T.toArray⟩ ∧ Hid (pad s T = pad s D ∧ T.length ≤ 20) ∧ wr = (more (w.alloc (Obj.cells #[Value.int IntKind.i64 u, Value.int IntKind.i64 (s : Int)] 72)) (os ++ os1)).drewN (n + n1)) (fun t _ => s + 1 - (strLen t))
    case atStart => exact ⟨D, rfl, ⟨rfl, HLEN.out⟩, rfl⟩
    case round =>
      obtain ⟨T, rfl, hT, rfl⟩ := hrel
      have hsz : (ByteArray.mk T.toArray).size = T.length := rfl
      by_cases hle : T.length ≤ s
      · have hli : (T.length : Int) ≤ (s : Int) := by omega
        have hb : ¬ 9223372036854775807 < 1 + T.length := by omega
        have HP : Hid (pad s (48 :: T) = pad s D ∧ (48 :: T).length ≤ 20) := ⟨by rw [pad_more s T hle]; exact hT.out.1, by rw [List.length_cons]; omega⟩
        clear hT
        go_wp2_with fail
        go_roundw
        case rel => exact ⟨48 :: T, congrArg Value.string (ba_cons 48 T), HP, by first | rfl | trivial⟩
        case measure =>
          rw [ba_cons]
          show s + 1 - (48 :: T).length < s + 1 - T.length
          rw [List.length_cons]; omega
      · have hli : ¬ (T.length : Int) ≤ (s : Int) := by omega
        have hTD : pad s D = T := by rw [← hT.out.1, pad_done s T (by omega)]
        have hlen := hT.out.2
        rw [hTD] at HT
        have hne : ¬ T = [] := by intro h; rw [h] at hle; simp at hle
        by_cases hs0 : s = 0
        · subst hs0
          have HT0 : Hid (dtext u 0 = [45] ++ T) := by show dtext u 0 = _; rw [HT.out, if_pos rfl]
          have hb : ¬ 9223372036854775807 < 1 + T.length := by omega
          clear HT hTD hT
          go_wp2_with fail
          go_ret
          refine ⟨?_, (by repeat (first | exact Grew.refl _ | apply Grew.drew | apply Grew.drewN | apply Grew.alloc | apply Grew.more))⟩
          rw [HT0.out, ba_cons]; rfl
        · have hsi : ¬ (s : Int) = 0 := by omega
          have hsb : ((s : Int) == 0) = false := by simp [hs0]
          obtain ⟨m, hm⟩ : ∃ m, m = T.length - s := ⟨_, rfl⟩
          have HTm : Hid (dtext u s = [45] ++ (T.take m ++ 46 :: T.drop m)) := by show dtext u s = _; rw [HT.out, if_neg hs0, hm]
          have em : IntKind.i64.wrap ((T.length : Int) - (s : Int)) = (m : Int) := by rw [IntKind.wrap_i64]; omega
          have m0 : (0 : Int) ≤ (m : Int) := by omega
          have m1 : (m : Int) ≤ (T.length : Int) := by omega
          have z1 : ¬ 9223372036854775807 < 1 + min m T.length := by omega
          have z2 : ¬ 9223372036854775807 < 1 + min m T.length + 1 := by omega
          have z3 : ¬ 9223372036854775807 < 1 + min m T.length + 1 + (T.length - m) := by omega
          have HC := cut_text [45] T m
          rw [← HTm.out] at HC
          have HC2 : Hid (_ = _) := HC
          clear HT hTD hT hs0 hm HC
          go_wp2_with fail
          go_region_held2 (fun W => W.cell? ⟨w.heap.size, 1, none⟩ = some (.int .i64 (s : Int))) (simp (maxDischargeDepth := 12) [go_sem]) (fail)
          all_goals go_wp2_with fail
          all_goals go_ret
          all_goals refine ⟨?_, (by repeat (first | exact Grew.refl _ | apply Grew.drew | apply Grew.drewN | apply Grew.alloc | apply Grew.more))⟩
          all_goals exact congrArg (fun b => Ending.returned (Value.string b)) HC2.out
  · have e1 : IntKind.u64.wrap u = (U : Int) := by rw [IntKind.wrap_u64]; omega
    rw [if_neg hn] at hsg
    subst hsg
    clear hU hD hr u0 u1
    go_enter Tryz.func41, Tryz.ntmps41
    go_wp2_with (first
      | (go_at_call 89; refine (Ra _).mono ?_; rintro e w' ⟨rfl, os, n, rfl⟩)
      | (go_at_call 90; refine (HD _).mono ?_; rintro e w' ⟨rfl, os1, n1, rfl⟩))
    clear HD Ra
    go_loopw [5] (fun t wr => ∃ (T : List UInt8), t = .string ⟨T.toArray⟩ ∧ Hid (pad s T = pad s D ∧ T.length ≤ 20) ∧ wr = (more (w.alloc (Obj.cells #[Value.int IntKind.i64 u, Value.int IntKind.i64 (s : Int)] 72)) (os ++ os1)).drewN (n + n1)) (fun t _ => s + 1 - (strLen t))
    case atStart => exact ⟨D, rfl, ⟨rfl, HLEN.out⟩, rfl⟩
    case round =>
      obtain ⟨T, rfl, hT, rfl⟩ := hrel
      have hsz : (ByteArray.mk T.toArray).size = T.length := rfl
      by_cases hle : T.length ≤ s
      · have hli : (T.length : Int) ≤ (s : Int) := by omega
        have hb : ¬ 9223372036854775807 < 1 + T.length := by omega
        have HP : Hid (pad s (48 :: T) = pad s D ∧ (48 :: T).length ≤ 20) := ⟨by rw [pad_more s T hle]; exact hT.out.1, by rw [List.length_cons]; omega⟩
        clear hT
        go_wp2_with fail
        go_roundw
        case rel => exact ⟨48 :: T, congrArg Value.string (ba_cons 48 T), HP, by first | rfl | trivial⟩
        case measure =>
          rw [ba_cons]
          show s + 1 - (48 :: T).length < s + 1 - T.length
          rw [List.length_cons]; omega
      · have hli : ¬ (T.length : Int) ≤ (s : Int) := by omega
        have hTD : pad s D = T := by rw [← hT.out.1, pad_done s T (by omega)]
        have hlen := hT.out.2
        rw [hTD] at HT
        have hne : ¬ T = [] := by intro h; rw [h] at hle; simp at hle
        by_cases hs0 : s = 0
        · subst hs0
          have HT0 : Hid (dtext u 0 = ([] : List UInt8) ++ T) := by show dtext u 0 = _; rw [HT.out, if_pos rfl]
          have hb : ¬ 9223372036854775807 < T.length := by omega
          clear HT hTD hT
          go_wp2_with fail
          go_ret
          refine ⟨?_, (by repeat (first | exact Grew.refl _ | apply Grew.drew | apply Grew.drewN | apply Grew.alloc | apply Grew.more))⟩
          rw [HT0.out, ba_nil]; rfl
        · have hsi : ¬ (s : Int) = 0 := by omega
          have hsb : ((s : Int) == 0) = false := by simp [hs0]
          obtain ⟨m, hm⟩ : ∃ m, m = T.length - s := ⟨_, rfl⟩
          have HTm : Hid (dtext u s = ([] : List UInt8) ++ (T.take m ++ 46 :: T.drop m)) := by show dtext u s = _; rw [HT.out, if_neg hs0, hm]
          have em : IntKind.i64.wrap ((T.length : Int) - (s : Int)) = (m : Int) := by rw [IntKind.wrap_i64]; omega
          have m0 : (0 : Int) ≤ (m : Int) := by omega
          have m1 : (m : Int) ≤ (T.length : Int) := by omega
          have z1 : ¬ 9223372036854775807 < min m T.length := by omega
          have z2 : ¬ 9223372036854775807 < min m T.length + 1 := by omega
          have z3 : ¬ 9223372036854775807 < min m T.length + 1 + (T.length - m) := by omega
          have HC := cut_text ([] : List UInt8) T m
          rw [← HTm.out] at HC
          have HC2 : Hid (_ = _) := HC
          clear HT hTD hT hs0 hm HC
          go_wp2_with fail
          go_region_held2 (fun W => W.cell? ⟨w.heap.size, 1, none⟩ = some (.int .i64 (s : Int))) (simp (maxDischargeDepth := 12) [go_sem]) (fail)
          all_goals go_wp2_with fail
          all_goals go_ret
          all_goals refine ⟨?_, (by repeat (first | exact Grew.refl _ | apply Grew.drew | apply Grew.drewN | apply Grew.alloc | apply Grew.more))⟩
          all_goals exact congrArg (fun b => Ending.returned (Value.string b)) HC2.out
end Go.Proofs.YtibbenhplmmmiaaGreatDoor
