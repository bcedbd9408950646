/-
  The contract of the document's Good: whether a text is good UTF-8, as the library's ValidString tells it.
  The contracts of the document's Right and Same.
-/
import Derived.Test.YtnpdecbgakgbgaaGreatDoorProg
import Derived.WalkKit
import Derived.WalkMore
import Derived.WalkSpells
import Derived.WalkLawsBesides
import Derived.RowKit
import Derived.Below
import Derived.Laws.RangeAny
import Derived.Lib.TrimUEq
import Derived.Lib.ValidLaws
import Derived.Lib.OthersKept
import Derived.Laws.IdiomStrings
import Derived.Test.YtnpdecbgakgbgaaGreatDoorMkJumps
namespace Go.Proofs.YtnpdecbgakgbgaaGreatDoor
open Go.RowKit

theorem bad_rune (l : List UInt8) (hne : l ≠ []) (hr : (Lib.decodeL l).1 = 65533) : (Lib.decodeL l).2 = 1 ↔ (l.length < 3 ∨ l.take 3 ≠ [239, 191, 189]) := by
  rw [Lib.decodeL_N] at hr ⊢
  have b0 := (l.getD 0 0).toNat_lt
  have b1 := (l.getD 1 0).toNat_lt
  have b2 := (l.getD 2 0).toNat_lt
  have b3 := (l.getD 3 0).toNat_lt
  have key : l.take 3 = [239, 191, 189] ↔ (3 ≤ l.length ∧ (l.getD 0 0).toNat = 239 ∧ (l.getD 1 0).toNat = 191 ∧ (l.getD 2 0).toNat = 189) := by
    match l with
    | [] => simp
    | [a] => simp
    | [a, b] => simp
    | a :: b :: c :: l =>
      simp only [List.take_succ_cons, List.take_zero, List.cons.injEq, and_true, List.length_cons, List.getD_cons_zero, List.getD_cons_succ]
      constructor
      · rintro ⟨rfl, rfl, rfl⟩; exact ⟨by omega, rfl, rfl, rfl⟩
      · rintro ⟨_, h0, h1, h2⟩; exact ⟨UInt8.toNat_inj.1 h0, UInt8.toNat_inj.1 h1, UInt8.toNat_inj.1 h2⟩
  rw [Ne, key]
  have hl : 0 < l.length := List.length_pos_iff.2 hne
  generalize (l.getD 0 0).toNat = a at *
  generalize (l.getD 1 0).toNat = b at *
  generalize (l.getD 2 0).toNat = c at *
  generalize (l.getD 3 0).toNat = d at *
  generalize l.length = n at *
  clear key
  unfold Lib.decodeN at hr ⊢
  split at hr
  · rename_i h; exfalso; simp only at hr; omega
  rename_i h
  rw [if_neg h]
  split at hr
  · rename_i h'
    rw [if_pos h']
    split at hr
    · exfalso; simp only at hr; omega
    · rename_i h''; rw [if_neg h'']
      refine ⟨fun _ => ?_, fun _ => rfl⟩
      by_cases hn : 3 ≤ n ∧ a = 239 ∧ b = 191 ∧ c = 189
      · exfalso; obtain ⟨h4, rfl, rfl, rfl⟩ := hn; omega
      · exact .inr hn
  rename_i h'
  rw [if_neg h']
  split at hr
  · rename_i h2
    rw [if_pos h2]
    split at hr
    · rename_i h''; rw [if_pos h'']
      simp only at hr
      refine ⟨fun h => by simp at h, fun h => ?_⟩
      exfalso
      rcases h with h | h
      · omega
      · exact h ⟨by omega, by omega, by omega, by omega⟩
    · rename_i h''; rw [if_neg h'']
      refine ⟨fun _ => ?_, fun _ => rfl⟩
      by_cases hn : 3 ≤ n ∧ a = 239 ∧ b = 191 ∧ c = 189
      · exfalso; obtain ⟨h4, rfl, rfl, rfl⟩ := hn; omega
      · exact .inr hn
  rename_i h2
  rw [if_neg h2]
  split at hr
  · rename_i h3
    rw [if_pos h3]
    split at hr
    · exfalso; simp only at hr; omega
    · rename_i h''; rw [if_neg h'']
      refine ⟨fun _ => ?_, fun _ => rfl⟩
      by_cases hn : 3 ≤ n ∧ a = 239 ∧ b = 191 ∧ c = 189
      · exfalso; obtain ⟨h4, rfl, rfl, rfl⟩ := hn; omega
      · exact .inr hn
  rename_i h3
  rw [if_neg h3]
  refine ⟨fun _ => ?_, fun _ => rfl⟩
  by_cases hn : 3 ≤ n ∧ a = 239 ∧ b = 191 ∧ c = 189
  · exfalso; obtain ⟨h4, rfl, rfl, rfl⟩ := hn; omega
  · exact .inr hn

theorem extract3 (s : ByteArray) (pos : Nat) (_h : pos + 3 ≤ s.size) : (s.extract pos (pos + 3)).toList = (s.data.toList.drop pos).take 3 := by
  rw [ByteArray.toList_eq]
  simp [ByteArray.data_extract]

set_option maxHeartbeats 1000000 in
theorem good_any (s : ByteArray) (w : World) (hs : s.size ≤ 140737488351232) : Calls Tryz.prog 77 #[.string s] w fun e w' => e = .returned (.bool (Lib.validD s.data.toList)) ∧ Below w.heap.size w w' := by
  obtain ⟨V, hV⟩ : ∃ V, V = Lib.validD s.data.toList := ⟨_, rfl⟩
  rw [← hV]
  have hsz : s.data.toList.length = s.size := rfl
  have bel : ∀ pos, Below w.heap.size w (w.iter s pos) := fun pos => (Below.refl _ w).alloc (Nat.le_refl _) _
  go_enter Tryz.func77, Tryz.ntmps77
  go_wp2
  go_loopw [7] (fun _ wr => ∃ pos : Nat, wr = w.iter s pos ∧ pos ≤ s.size ∧ Hid (Lib.validD (s.data.toList.drop pos) = V)) (fun _ wr => s.size - wr.iterPos w.heap.size)
  case atStart => exact ⟨0, rfl, Nat.zero_le _, hV.symm⟩
  case round =>
    obtain ⟨pos, rfl, hp0, HV⟩ := hrel
    by_cases hp : pos < s.size
    · have hne : s.data.toList.drop pos ≠ [] := by
        intro h
        have := congrArg List.length h
        simp at this
        omega
      have hdd := Lib.decodeL_drop s pos
      have hst := Lib.validD_step _ hne
      have hwd := Lib.decodeL_width (s.data.toList.drop pos)
      have hle := Lib.decodeL_le _ hne
      rw [List.length_drop, hsz] at hle
      have hbr := bad_rune _ hne
      have hdl : (s.data.toList.drop pos).length = s.size - pos := by simp
      have hnx : ∀ ty, (Instr.next (.pointer (some ⟨w.heap.size, 0, none⟩)) true ty).run Tryz.prog (w.iter s pos) = _ := fun ty => run_next_any w s pos ty hp
      rw [hdd] at hst hwd hle hbr
      rw [List.drop_drop] at hst
      generalize Utf8.decode s pos = d at *
      obtain ⟨c, n⟩ := d
      simp only at hnx hst hwd hle hbr
      by_cases hc : c = 65533
      · subst hc
        by_cases h3 : s.size < pos + 3
        · have h3' : (s.size : Int) < (pos : Int) + 3 := by omega
          have HF : Hid (V = false) := by
            show V = false
            rw [← HV.out, hst, if_pos ⟨rfl, (hbr rfl).2 (.inl (by omega))⟩]
          clear hdd hst hbr hV HV hne hdl
          go_wp2
          go_ret
          exact ⟨by rw [HF.out]; rfl, bel _⟩
        · have h3' : ¬ (s.size : Int) < (pos : Int) + 3 := by omega
          have h3n : pos + 3 ≤ s.size := by omega
          have h3z : (pos : Int) + 3 ≤ (s.size : Int) := by omega
          have hx := extract3 s pos h3n
          by_cases he : (s.data.toList.drop pos).take 3 = [239, 191, 189]
          · have hx' : ((s.extract pos (pos + 3)).toList == [239, 191, 189]) = true := by rw [hx, he]; rfl
            have hn1 : n ≠ 1 := fun h => by
              rcases (hbr rfl).1 h with h | h
              · omega
              · exact h he
            have HV' : Hid (Lib.validD (s.data.toList.drop (pos + n)) = V) := by
              show _ = _
              rw [← HV.out, hst, if_neg (fun h => hn1 h.2)]
            clear hdd hst hbr hV HV hne hdl hx he
            go_wp2
            go_roundw
            case rel => exact ⟨pos + n, rfl, by omega, HV'⟩
            case measure => simp; omega
          · have hx' : ((s.extract pos (pos + 3)).toList == [239, 191, 189]) = false := by rw [hx]; exact beq_eq_false_iff_ne.2 he
            have HF : Hid (V = false) := by
              show V = false
              rw [← HV.out, hst, if_pos ⟨rfl, (hbr rfl).2 (.inr he)⟩]
            clear hdd hst hbr hV HV hne hdl hx he
            go_wp2
            go_ret
            exact ⟨by rw [HF.out]; rfl, bel _⟩
      · have hc' : ((c : Int) == 65533) = false := by rw [beq_eq_false_iff_ne]; omega
        have HV' : Hid (Lib.validD (s.data.toList.drop (pos + n)) = V) := by
          show _ = _
          rw [← HV.out, hst, if_neg (fun h => hc h.1)]
        clear hdd hst hbr hV HV hne hdl hc
        go_wp2
        go_roundw
        case rel => exact ⟨pos + n, rfl, by omega, HV'⟩
        case measure => simp; omega
    · have hnx : ∀ ty, (Instr.next (.pointer (some ⟨w.heap.size, 0, none⟩)) true ty).run Tryz.prog (w.iter s pos) = _ := fun ty => run_next_end w s pos ty hp
      have HF : Hid (V = true) := by
        show V = true
        rw [← HV.out, List.drop_eq_nil_of_le (by omega)]
        rfl
      clear hV HV
      go_wp2
      go_ret
      exact ⟨by rw [HF.out]; rfl, bel _⟩
end Go.Proofs.YtnpdecbgakgbgaaGreatDoor

namespace Go.Proofs.YtnpdecbgakgbgaaGreatDoor
open Go.RowKit Go.Shelf
attribute [local go_sem] cell?_more frozen?_more setCell_more more_lt more_more more_drew more_drewN setCell_drewN alloc_drewN

theorem emptyE (b : ByteArray) : b.toList.isEmpty = (b.data.toList == []) := by
  rw [Lib.toList_data]
  cases b.data.toList <;> rfl

theorem rpoint_any (x y : Int) (w : World) : Calls Tryz.prog 75 #[dv x y] w fun e w' => e = .returned (.bool (ok1 x && ok1 y)) ∧ Grew w w' := by
  go_enter Tryz.func75, Tryz.ntmps75
  go_wp2
  all_goals go_ret
  all_goals refine ⟨ret_bool ?_, (by repeat (first | exact Grew.refl _ | apply Grew.drew | apply Grew.drewN | apply Grew.alloc | apply Grew.more))⟩
  all_goals simp_all [ok1]
  all_goals try omega

set_option maxHeartbeats 1000000 in
theorem rright_0 (n m : Int) (b : ByteArray) (w : World) : Calls Tryz.prog 26 #[va 0 n m b] w fun e w' => e = .returned (.bool (vrt 0 n m b)) ∧ Below w.heap.size w w' := by
  go_enter Tryz.func26, Tryz.ntmps26
  go_wp2
  all_goals go_ret
  all_goals refine ⟨ret_bool ?_, Grew.below (by repeat (first | exact Grew.refl _ | apply Grew.drew | apply Grew.drewN | apply Grew.alloc | apply Grew.more))⟩
  all_goals simp_all [vrt, vft, emptyE]

set_option maxHeartbeats 1000000 in
theorem rright_1 (n m : Int) (b : ByteArray) (w : World) : Calls Tryz.prog 26 #[va 1 n m b] w fun e w' => e = .returned (.bool (vrt 1 n m b)) ∧ Below w.heap.size w w' := by
  go_enter Tryz.func26, Tryz.ntmps26
  go_wp2
  all_goals go_ret
  all_goals refine ⟨ret_bool ?_, Grew.below (by repeat (first | exact Grew.refl _ | apply Grew.drew | apply Grew.drewN | apply Grew.alloc | apply Grew.more))⟩
  all_goals simp_all [vrt, vft, emptyE]

set_option maxHeartbeats 1000000 in
theorem rright_2 (n m : Int) (b : ByteArray) (w : World) : Calls Tryz.prog 26 #[va 2 n m b] w fun e w' => e = .returned (.bool (vrt 2 n m b)) ∧ Below w.heap.size w w' := by
  go_enter Tryz.func26, Tryz.ntmps26
  go_wp2
  all_goals go_ret
  all_goals refine ⟨ret_bool ?_, Grew.below (by repeat (first | exact Grew.refl _ | apply Grew.drew | apply Grew.drewN | apply Grew.alloc | apply Grew.more))⟩
  all_goals simp [vrt, vft, emptyE, rightS]
  all_goals first | omega | (simp_all; try omega)

set_option maxHeartbeats 1000000 in
theorem rright_4 (n m : Int) (b : ByteArray) (w : World) : Calls Tryz.prog 26 #[va 4 n m b] w fun e w' => e = .returned (.bool (vrt 4 n m b)) ∧ Below w.heap.size w w' := by
  go_enter Tryz.func26, Tryz.ntmps26
  go_wp2
  all_goals go_ret
  all_goals refine ⟨ret_bool ?_, Grew.below (by repeat (first | exact Grew.refl _ | apply Grew.drew | apply Grew.drewN | apply Grew.alloc | apply Grew.more))⟩
  all_goals simp_all [vrt, vft, emptyE]

set_option maxHeartbeats 1000000 in
theorem rright_5 (n m : Int) (b : ByteArray) (w : World) : Calls Tryz.prog 26 #[va 5 n m b] w fun e w' => e = .returned (.bool (vrt 5 n m b)) ∧ Below w.heap.size w w' := by
  have R := fun W => rpoint_any n m W
  have hv : vrt 5 n m b = ((ok1 n && ok1 m) && (b.data.toList == [])) := by simp [vrt, vft, Bool.and_comm]
  rw [hv]
  generalize (ok1 n && ok1 m) = g at *
  clear hv
  cases g
  all_goals
    go_enter Tryz.func26, Tryz.ntmps26
    go_wp2_with (go_at_call 75; refine (R _).mono ?_; rintro e w1 ⟨rfl, os1, n1, rfl⟩)
    all_goals go_ret
    all_goals refine ⟨ret_bool ?_, Grew.below (by repeat (first | exact Grew.refl _ | apply Grew.drew | apply Grew.drewN | apply Grew.alloc | apply Grew.more))⟩
    all_goals simp [emptyE]

set_option maxHeartbeats 1000000 in
theorem rright_3 (n m : Int) (b : ByteArray) (w : World) : Calls Tryz.prog 26 #[va 3 n m b] w fun e w' => e = .returned (.bool (vrt 3 n m b)) ∧ Below w.heap.size w w' := by
  by_cases hn : n = 0
  · subst hn
    by_cases hm : m = 0
    · subst hm
      by_cases hb : b.size ≤ 256
      · have V := fun W => good_any b W (by omega)
        have hv : vrt 3 0 0 b = Lib.validD b.data.toList := by simp [vrt, vft, hb]
        rw [hv]
        have hb' : (b.size : Int) ≤ 256 := by omega
        generalize Lib.validD b.data.toList = g at *
        clear hv hb
        go_enter Tryz.func26, Tryz.ntmps26
        go_wp2_with (go_at_call 77; refine (V _).mono ?_; rintro e w1 ⟨rfl, bb1⟩)
        all_goals go_ret
        all_goals exact ⟨rfl, below_trans (Grew.below (by repeat (first | exact Grew.refl _ | apply Grew.drew | apply Grew.drewN | apply Grew.alloc | apply Grew.more))) bb1⟩
      · have hv : vrt 3 0 0 b = false := by simp [vrt, vft, hb]
        rw [hv]
        have hb' : ¬ (b.size : Int) ≤ 256 := by omega
        clear hv hb
        go_enter Tryz.func26, Tryz.ntmps26
        go_wp2
        all_goals go_ret
        all_goals exact ⟨rfl, Grew.below (by repeat (first | exact Grew.refl _ | apply Grew.drew | apply Grew.drewN | apply Grew.alloc | apply Grew.more))⟩
    · have hv : vrt 3 0 m b = false := by simp [vrt, hm]
      have hm' : (m == 0) = false := by simpa using hm
      rw [hv]
      clear hv hm
      go_enter Tryz.func26, Tryz.ntmps26
      go_wp2
      all_goals go_ret
      all_goals exact ⟨rfl, Grew.below (by repeat (first | exact Grew.refl _ | apply Grew.drew | apply Grew.drewN | apply Grew.alloc | apply Grew.more))⟩
  · have hv : vrt 3 n m b = false := by simp [vrt, hn]
    have hn' : (n == 0) = false := by simpa using hn
    rw [hv]
    clear hv hn
    go_enter Tryz.func26, Tryz.ntmps26
    go_wp2
    all_goals go_ret
    all_goals exact ⟨rfl, Grew.below (by repeat (first | exact Grew.refl _ | apply Grew.drew | apply Grew.drewN | apply Grew.alloc | apply Grew.more))⟩

set_option maxHeartbeats 1000000 in
theorem rright_o (k : Int) (n m : Int) (b : ByteArray) (w : World) (h0 : k ≠ 0) (h1 : k ≠ 1) (h2 : k ≠ 2) (h3 : k ≠ 3) (h4 : k ≠ 4) (h5 : k ≠ 5) : Calls Tryz.prog 26 #[va k n m b] w fun e w' => e = .returned (.bool (vrt k n m b)) ∧ Below w.heap.size w w' := by
  have c0 : (k == 0) = false := by simpa using h0
  have c1 : (k == 1) = false := by simpa using h1
  have c2 : (k == 2) = false := by simpa using h2
  have c3 : (k == 3) = false := by simpa using h3
  have c4 : (k == 4) = false := by simpa using h4
  have c5 : (k == 5) = false := by simpa using h5
  have hv : vrt k n m b = false := by simp [vrt, vft, h0, h1, h2, h3, h4, h5]
  rw [hv]
  clear hv
  go_enter Tryz.func26, Tryz.ntmps26
  go_wp2
  all_goals go_ret
  all_goals exact ⟨rfl, Grew.below (by repeat (first | exact Grew.refl _ | apply Grew.drew | apply Grew.drewN | apply Grew.alloc | apply Grew.more))⟩

/-- The document's Right says what the program's does. -/
theorem rright_any (k n m : Int) (b : ByteArray) (w : World) : Calls Tryz.prog 26 #[va k n m b] w fun e w' => e = .returned (.bool (vrt k n m b)) ∧ Below w.heap.size w w' := by
  by_cases h0 : k = 0
  · subst h0; exact rright_0 n m b w
  by_cases h1 : k = 1
  · subst h1; exact rright_1 n m b w
  by_cases h2 : k = 2
  · subst h2; exact rright_2 n m b w
  by_cases h3 : k = 3
  · subst h3; exact rright_3 n m b w
  by_cases h4 : k = 4
  · subst h4; exact rright_4 n m b w
  by_cases h5 : k = 5
  · subst h5; exact rright_5 n m b w
  exact rright_o k n m b w h0 h1 h2 h3 h4 h5

set_option maxHeartbeats 1000000 in
theorem rsame_any (k n m : Int) (b : ByteArray) (k' n' m' : Int) (b' : ByteArray) (w : World) :
    Calls Tryz.prog 19 #[va k n m b, va k' n' m' b'] w fun e w' => e = .returned (.bool (k == k' && (n == n' && (m == m' && b.toList == b'.toList)))) ∧ Grew w w' := by
  go_enter Tryz.func19, Tryz.ntmps19
  go_wp2
  all_goals go_ret
  all_goals refine ⟨ret_bool ?_, (by repeat (first | exact Grew.refl _ | apply Grew.drew | apply Grew.drewN | apply Grew.alloc | apply Grew.more))⟩
  all_goals simp_all

end Go.Proofs.YtnpdecbgakgbgaaGreatDoor
