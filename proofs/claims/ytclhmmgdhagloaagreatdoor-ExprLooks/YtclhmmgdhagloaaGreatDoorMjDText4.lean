/-
  The document's Print: the text of any decimal.
  What the program's Print writes, from the last digit on, is the text.
  A scope that is entered ahead of its one label and jumps back to it a few times: its passes, one behind the other. Nothing of the program is in it.
  Toward the program's Print: passes by induction, the room.
-/
import Derived.Test.YtclhmmgdhagloaaGreatDoorMhDText1
import Derived.Test.YtclhmmgdhagloaaGreatDoorDPower
import Derived.Deep.RegionHeld2
import Derived.ScopeJumps
import Derived.Tactics
namespace Go.Proofs.YtclhmmgdhagloaaGreatDoor
open Go.RowKit
attribute [local go_sem] cell?_more frozen?_more setCell_more more_lt more_more more_drew more_drewN setCell_drewN alloc_drewN

/-- How long a text is. -/
def strLen : Value → Nat
  | .string b => b.size
  | _ => 0
/-- Digits with as many noughts ahead that more than s are there. -/
def pad (s : Nat) (l : List UInt8) : List UInt8 := List.replicate (s + 1 - l.length) 48 ++ l
theorem pad_more (s : Nat) (l : List UInt8) (h : l.length ≤ s) : pad s (48 :: l) = pad s l := by
  unfold pad
  rw [List.length_cons, show s + 1 - l.length = (s + 1 - (l.length + 1)) + 1 by omega, List.replicate_succ']
  simp
theorem pad_done (s : Nat) (l : List UInt8) (h : s < l.length) : pad s l = l := by
  unfold pad
  rw [show s + 1 - l.length = 0 by omega]; rfl
theorem pad_len (s : Nat) (l : List UInt8) : (pad s l).length = max (s + 1) l.length := by
  unfold pad
  rw [List.length_append, List.length_replicate]; omega
theorem ba_nil (t : List UInt8) : (⟨#[]⟩ : ByteArray) ++ ⟨t.toArray⟩ = ⟨([] ++ t).toArray⟩ := ba_app [] t
theorem cut_text (P T : List UInt8) (m : Nat) : (⟨P.toArray⟩ : ByteArray) ++ (ByteArray.mk T.toArray).extract 0 m ++ ⟨#[46]⟩ ++ (ByteArray.mk T.toArray).extract m T.length = ⟨(P ++ (T.take m ++ 46 :: T.drop m)).toArray⟩ := by
  apply ByteArray.ext
  simp [ByteArray.data_extract]
  exact List.take_of_length_le (by simp)
/-- The text of units of a scale. -/
def dtext (u : Int) (s : Nat) : List UInt8 :=
  (if u < 0 then [45] else []) ++ (if s = 0 then pad 0 (digs u.natAbs) else (pad s (digs u.natAbs)).take ((pad s (digs u.natAbs)).length - s) ++ 46 :: (pad s (digs u.natAbs)).drop ((pad s (digs u.natAbs)).length - s))

set_option maxHeartbeats 4000000 in
theorem rprint_good (u : Int) (s : Nat) (w : World) (hs : s ≤ 6) (u0 : -9223372036854775808 ≤ u) (u1 : u ≤ 9223372036854775807) :
    Calls Tryz.prog 69 #[dv u (s : Int)] w fun e w' => e = .returned (.string ⟨(dtext u s).toArray⟩) ∧ Grew w w' := by
  have Ra := fun W => refRight_any u (s : Int) W
  have hr : rightS (s : Int) = true := (rightS_iff _).2 (by omega)
  rw [hr] at Ra
  obtain ⟨U, hU⟩ : ∃ U, U = u.natAbs := ⟨_, rfl⟩
  have HD := fun W => rdigits_any U W (by omega)
  have HLEN : Hid ((digs U).length ≤ 20) := digs_len 19 U (by have : (10 : Nat) ^ (19 + 1) = 100000000000000000000 := by decide
                                                              omega)
  obtain ⟨D, hD⟩ : ∃ D, D = digs U := ⟨_, rfl⟩
  rw [← hD] at HD HLEN
  obtain ⟨sg, hsg⟩ : ∃ sg : List UInt8, sg = if u < 0 then [45] else [] := ⟨_, rfl⟩
  have HT : Hid (dtext u s = sg ++ (if s = 0 then pad s D else (pad s D).take ((pad s D).length - s) ++ 46 :: (pad s D).drop ((pad s D).length - s))) := by
    show dtext u s = _
    unfold dtext
    rw [hsg, hD, hU]
    by_cases h : s = 0
    · rw [if_pos h, if_pos h, h]
    · rw [if_neg h, if_neg h]
  by_cases hn : u < 0
  · have e1 : IntKind.u64.wrap (-(IntKind.u64.wrap u)) = (U : Int) := by rw [IntKind.wrap_u64, IntKind.wrap_u64]; omega
    rw [if_pos hn] at hsg
    subst hsg
    clear hU hD hr u0 u1
    go_enter Tryz.func69, Tryz.ntmps69
    go_wp2_with (first
      | (go_at_call 127; refine (Ra _).mono ?_; rintro e w' ⟨rfl, os, n, rfl⟩)
      | (go_at_call 128; refine (HD _).mono ?_; rintro e w' ⟨rfl, os1, n1, rfl⟩))
    clear HD Ra
    go_loopw [5] (fun t wr => ∃ (T : List UInt8), t = .string ⟨T.toArray⟩ ∧ Hid (pad s T = pad s D ∧ T.length ≤ 20) ∧ wr = (more (w.alloc (Obj.cells #[Value.int IntKind.i64 u, Value.int IntKind.i64 (s : Int)] 102)) (os ++ os1)).drewN (n + n1)) (fun t _ => s + 1 - (strLen t))
    case atStart => exact ⟨D, rfl, ⟨rfl, HLEN.out⟩, rfl⟩
    case round =>
      obtain ⟨T, rfl, hT, rfl⟩ := hrel
      have hsz : (ByteArray.mk T.toArray).size = T.length := rfl
      by_cases hle : T.length ≤ s
      · have hli : (T.length : Int) ≤ (s : Int) := by omega
        have hb : ¬ 9223372036854775807 < 1 + T.length := by omega
        have HP : Hid (pad s (48 :: T) = pad s D ∧ (48 :: T).length ≤ 20) := ⟨by rw [pad_more s T hle]; exact hT.out.1, by rw [List.length_cons]; omega⟩
        clear hT
        go_wp2_with fail
        go_roundw
        case rel => exact ⟨48 :: T, congrArg Value.string (ba_cons 48 T), HP, by first | rfl | trivial⟩
        case measure =>
          rw [ba_cons]
          show s + 1 - (48 :: T).length < s + 1 - T.length
          rw [List.length_cons]; omega
      · have hli : ¬ (T.length : Int) ≤ (s : Int) := by omega
        have hTD : pad s D = T := by rw [← hT.out.1, pad_done s T (by omega)]
        have hlen := hT.out.2
        rw [hTD] at HT
        have hne : ¬ T = [] := by intro h; rw [h] at hle; simp at hle
        by_cases hs0 : s = 0
        · subst hs0
          have HT0 : Hid (dtext u 0 = [45] ++ T) := by show dtext u 0 = _; rw [HT.out, if_pos rfl]
          have hb : ¬ 9223372036854775807 < 1 + T.length := by omega
          clear HT hTD hT
          go_wp2_with fail
          go_ret
          refine ⟨?_, (by repeat (first | exact Grew.refl _ | apply Grew.drew | apply Grew.drewN | apply Grew.alloc | apply Grew.more))⟩
          rw [HT0.out, ba_cons]; rfl
        · have hsi : ¬ (s : Int) = 0 := by omega
          have hsb : ((s : Int) == 0) = false := by simp [hs0]
          obtain ⟨m, hm⟩ : ∃ m, m = T.length - s := ⟨_, rfl⟩
          have HTm : Hid (dtext u s = [45] ++ (T.take m ++ 46 :: T.drop m)) := by show dtext u s = _; rw [HT.out, if_neg hs0, hm]
          have em : IntKind.i64.wrap ((T.length : Int) - (s : Int)) = (m : Int) := by rw [IntKind.wrap_i64]; omega
          have m0 : (0 : Int) ≤ (m : Int) := by omega
          have m1 : (m : Int) ≤ (T.length : Int) := by omega
          have z1 : ¬ 9223372036854775807 < 1 + min m T.length := by omega
          have z2 : ¬ 9223372036854775807 < 1 + min m T.length + 1 := by omega
          have z3 : ¬ 9223372036854775807 < 1 + min m T.length + 1 + (T.length - m) := by omega
          have HC := cut_text [45] T m
          rw [← HTm.out] at HC
          have HC2 : Hid (_ = _) := HC
          clear HT hTD hT hs0 hm HC
          go_wp2_with fail
          go_region_held2 (fun W => W.cell? ⟨w.heap.size, 1, none⟩ = some (.int .i64 (s : Int))) (simp (maxDischargeDepth := 12) [go_sem]) (fail)
          all_goals go_wp2_with fail
          all_goals go_ret
          all_goals refine ⟨?_, (by repeat (first | exact Grew.refl _ | apply Grew.drew | apply Grew.drewN | apply Grew.alloc | apply Grew.more))⟩
          all_goals exact congrArg (fun b => Ending.returned (Value.string b)) HC2.out
  · have e1 : IntKind.u64.wrap u = (U : Int) := by rw [IntKind.wrap_u64]; omega
    rw [if_neg hn] at hsg
    subst hsg
    clear hU hD hr u0 u1
    go_enter Tryz.func69, Tryz.ntmps69
    go_wp2_with (first
      | (go_at_call 127; refine (Ra _).mono ?_; rintro e w' ⟨rfl, os, n, rfl⟩)
      | (go_at_call 128; refine (HD _).mono ?_; rintro e w' ⟨rfl, os1, n1, rfl⟩))
    clear HD Ra
    go_loopw [5] (fun t wr => ∃ (T : List UInt8), t = .string ⟨T.toArray⟩ ∧ Hid (pad s T = pad s D ∧ T.length ≤ 20) ∧ wr = (more (w.alloc (Obj.cells #[Value.int IntKind.i64 u, Value.int IntKind.i64 (s : Int)] 102)) (os ++ os1)).drewN (n + n1)) (fun t _ => s + 1 - (strLen t))
    case atStart => exact ⟨D, rfl, ⟨rfl, HLEN.out⟩, rfl⟩
    case round =>
      obtain ⟨T, rfl, hT, rfl⟩ := hrel
      have hsz : (ByteArray.mk T.toArray).size = T.length := rfl
      by_cases hle : T.length ≤ s
      · have hli : (T.length : Int) ≤ (s : Int) := by omega
        have hb : ¬ 9223372036854775807 < 1 + T.length := by omega
        have HP : Hid (pad s (48 :: T) = pad s D ∧ (48 :: T).length ≤ 20) := ⟨by rw [pad_more s T hle]; exact hT.out.1, by rw [List.length_cons]; omega⟩
        clear hT
        go_wp2_with fail
        go_roundw
        case rel => exact ⟨48 :: T, congrArg Value.string (ba_cons 48 T), HP, by first | rfl | trivial⟩
        case measure =>
          rw [ba_cons]
          show s + 1 - (48 :: T).length < s + 1 - T.length
          rw [List.length_cons]; omega
      · have hli : ¬ (T.length : Int) ≤ (s : Int) := by omega
        have hTD : pad s D = T := by rw [← hT.out.1, pad_done s T (by omega)]
        have hlen := hT.out.2
        rw [hTD] at HT
        have hne : ¬ T = [] := by intro h; rw [h] at hle; simp at hle
        by_cases hs0 : s = 0
        · subst hs0
          have HT0 : Hid (dtext u 0 = ([] : List UInt8) ++ T) := by show dtext u 0 = _; rw [HT.out, if_pos rfl]
          have hb : ¬ 9223372036854775807 < T.length := by omega
          clear HT hTD hT
          go_wp2_with fail
          go_ret
          refine ⟨?_, (by repeat (first | exact Grew.refl _ | apply Grew.drew | apply Grew.drewN | apply Grew.alloc | apply Grew.more))⟩
          rw [HT0.out, ba_nil]; rfl
        · have hsi : ¬ (s : Int) = 0 := by omega
          have hsb : ((s : Int) == 0) = false := by simp [hs0]
          obtain ⟨m, hm⟩ : ∃ m, m = T.length - s := ⟨_, rfl⟩
          have HTm : Hid (dtext u s = ([] : List UInt8) ++ (T.take m ++ 46 :: T.drop m)) := by show dtext u s = _; rw [HT.out, if_neg hs0, hm]
          have em : IntKind.i64.wrap ((T.length : Int) - (s : Int)) = (m : Int) := by rw [IntKind.wrap_i64]; omega
          have m0 : (0 : Int) ≤ (m : Int) := by omega
          have m1 : (m : Int) ≤ (T.length : Int) := by omega
          have z1 : ¬ 9223372036854775807 < min m T.length := by omega
          have z2 : ¬ 9223372036854775807 < min m T.length + 1 := by omega
          have z3 : ¬ 9223372036854775807 < min m T.length + 1 + (T.length - m) := by omega
          have HC := cut_text ([] : List UInt8) T m
          rw [← HTm.out] at HC
          have HC2 : Hid (_ = _) := HC
          clear HT hTD hT hs0 hm HC
          go_wp2_with fail
          go_region_held2 (fun W => W.cell? ⟨w.heap.size, 1, none⟩ = some (.int .i64 (s : Int))) (simp (maxDischargeDepth := 12) [go_sem]) (fail)
          all_goals go_wp2_with fail
          all_goals go_ret
          all_goals refine ⟨?_, (by repeat (first | exact Grew.refl _ | apply Grew.drew | apply Grew.drewN | apply Grew.alloc | apply Grew.more))⟩
          all_goals exact congrArg (fun b => Ending.returned (Value.string b)) HC2.out
end Go.Proofs.YtclhmmgdhagloaaGreatDoor

namespace Go.Proofs.YtclhmmgdhagloaaGreatDoor

/-- One digit more ahead of what is written; a point ahead of it where the scale is reached. -/
def told (s k x : Nat) (t : List UInt8) : List UInt8 := UInt8.ofNat (48 + x % 10) :: (if 0 < k ∧ k = s then 46 :: t else t)
/-- What is written in the end: x is left, k digits are told. -/
def written (s : Nat) : Nat → Nat → Nat → List UInt8 → List UInt8
  | 0, _, _, t => t
  | f + 1, k, x, t => if 0 < x / 10 ∨ k + 1 ≤ s then written s f (k + 1) (x / 10) (told s k x t) else told s k x t

/-- The digits of x, at least n of them. -/
def digsN : Nat → Nat → List UInt8
  | 0, _ => []
  | n + 1, x => digsN n (x / 10) ++ [UInt8.ofNat (48 + x % 10)]
theorem digsN_len (n : Nat) : ∀ x, (digsN n x).length = n := by
  induction n with
  | zero => intro x; rfl
  | succ n ih => intro x; simp [digsN, ih]
/-- As many digits as there are, or noughts ahead. -/
theorem pad_digs (s : Nat) : ∀ x, pad s (digs x) = digsN (max (s + 1) (digs x).length) x := by
  induction s with
  | zero =>
    intro x
    have h1 : 1 ≤ (digs x).length := by
      by_cases h : x < 10
      · rw [digs_small x h]; simp
      · rw [digs_big x h]; simp
    rw [pad_done 0 _ (by omega), Nat.max_eq_right (by omega)]
    clear h1
    induction x using Nat.strongRecOn with
    | _ x ih =>
      by_cases h : x < 10
      · rw [digs_small x h]
        show _ = digsN 0 (x / 10) ++ [UInt8.ofNat (48 + x % 10)]
        rw [Nat.mod_eq_of_lt h]; rfl
      · have hb := digs_big x h
        have e : (digs x).length = (digs (x / 10)).length + 1 := by rw [hb]; simp
        rw [e]
        show digs x = digsN _ (x / 10) ++ [_]
        rw [← ih (x / 10) (by omega)]
        exact hb
  | succ s ih =>
    intro x
    by_cases h : x < 10
    · have e1 : pad (s + 1) (digs x) = pad s (digs 0) ++ [UInt8.ofNat (48 + x % 10)] := by
        rw [digs_small x h, digs_small 0 (by decide), Nat.mod_eq_of_lt h]
        unfold pad
        simp only [List.length_cons, List.length_nil]
        rw [show s + 1 + 1 - (0 + 1) = (s + 1 - (0 + 1)) + 1 by omega, List.replicate_succ']
        rfl
      rw [e1, ih 0]
      have e2 : (digs x).length = 1 := by rw [digs_small x h]; rfl
      have e3 : (digs 0).length = 1 := by rw [digs_small 0 (by decide)]; rfl
      rw [e2, e3, Nat.max_eq_left (by omega), Nat.max_eq_left (by omega)]
      show _ = digsN (s + 1) (x / 10) ++ [_]
      rw [show x / 10 = 0 by omega]
    · have e1 : pad (s + 1) (digs x) = pad s (digs (x / 10)) ++ [UInt8.ofNat (48 + x % 10)] := by
        rw [digs_big x h]
        unfold pad
        simp only [List.length_append, List.length_cons, List.length_nil, Nat.zero_add]
        rw [show s + 1 + 1 - ((digs (x / 10)).length + 1) = s + 1 - (digs (x / 10)).length by omega, List.append_assoc]
      rw [e1, ih (x / 10)]
      have e2 : (digs x).length = (digs (x / 10)).length + 1 := by rw [digs_big x h]; simp
      rw [e2, show max (s + 1 + 1) ((digs (x / 10)).length + 1) = max (s + 1) (digs (x / 10)).length + 1 by omega]
      rfl

theorem digs_pos (x : Nat) : 1 ≤ (digs x).length := by
  by_cases h : x < 10
  · rw [digs_small x h]; simp
  · rw [digs_big x h]; simp
theorem digsN_add (a b : Nat) : ∀ x, digsN (a + b) x = digsN a (x / 10 ^ b) ++ digsN b x := by
  induction b with
  | zero => intro x; simp [digsN]
  | succ b ih =>
    intro x
    show digsN (a + b) (x / 10) ++ [_] = _ ++ (digsN b (x / 10) ++ [_])
    rw [ih (x / 10), Nat.div_div_eq_div_mul, Nat.pow_succ, Nat.mul_comm 10, List.append_assoc]
theorem digs_digsN (x : Nat) : digs x = digsN (digs x).length x := by
  have h := pad_digs 0 x
  rw [pad_done 0 _ (digs_pos x), Nat.max_eq_right (digs_pos x)] at h
  exact h
theorem digs_cut (s : Nat) : ∀ x, (digs (x / 10 ^ s)).length = max 1 ((digs x).length - s) := by
  induction s with
  | zero => intro x; have := digs_pos x; simp; omega
  | succ s ih =>
    intro x
    rw [Nat.pow_succ, Nat.mul_comm, ← Nat.div_div_eq_div_mul, ih (x / 10)]
    by_cases h : x < 10
    · rw [show x / 10 = 0 by omega, digs_small 0 (by decide), digs_small x h]; simp
    · have e : (digs x).length = (digs (x / 10)).length + 1 := by rw [digs_big x h]; simp
      omega

/-- Behind the point's place: the digits alone. -/
theorem written_whole (s : Nat) (f : Nat) : ∀ k x t, (s < k ∨ s = 0) → (digs x).length ≤ f → written s f k x t = digs x ++ t := by
  induction f with
  | zero => intro k x t _ h; have := digs_pos x; omega
  | succ f ih =>
    intro k x t hk hf
    have hp : ¬ (0 < k ∧ k = s) := by omega
    unfold written told
    rw [if_neg hp]
    by_cases h : x < 10
    · rw [if_neg (by omega), digs_small x h, Nat.mod_eq_of_lt h]; rfl
    · have hb := digs_big x h
      have e : (digs x).length = (digs (x / 10)).length + 1 := by rw [hb]; simp
      rw [if_pos (.inl (by omega)), ih (k + 1) (x / 10) _ (by omega) (by omega), hb, List.append_assoc]; rfl
/-- At the point's place. -/
theorem written_point (s f x : Nat) (t : List UInt8) (hs : 0 < s) (hf : (digs x).length ≤ f) : written s f s x t = digs x ++ 46 :: t := by
  cases f with
  | zero => have := digs_pos x; omega
  | succ f =>
    unfold written told
    rw [if_pos (show 0 < s ∧ s = s from ⟨hs, rfl⟩)]
    by_cases h : x < 10
    · rw [if_neg (by omega), digs_small x h, Nat.mod_eq_of_lt h]; rfl
    · have hb := digs_big x h
      have e : (digs x).length = (digs (x / 10)).length + 1 := by rw [hb]; simp
      rw [if_pos (.inl (by omega)), written_whole s f (s + 1) (x / 10) _ (.inl (by omega)) (by omega), hb, List.append_assoc]; rfl
/-- Ahead of it. -/
theorem written_part (s f : Nat) (hs : 0 < s) (j : Nat) : ∀ k x t, k + j = s → (digs (x / 10 ^ j)).length ≤ f → written s (f + j) k x t = digs (x / 10 ^ j) ++ 46 :: (digsN j x ++ t) := by
  induction j with
  | zero => intro k x t hk hf; obtain rfl : k = s := by omega
            rw [Nat.pow_zero, Nat.div_one] at hf ⊢
            exact written_point k f x t hs hf
  | succ j ih =>
    intro k x t hk hf
    have hp : ¬ (0 < k ∧ k = s) := by omega
    show written s (f + j + 1) k x t = _
    unfold written told
    rw [if_neg hp, if_pos (.inr (by omega))]
    have e : x / 10 ^ (j + 1) = x / 10 / 10 ^ j := by rw [Nat.pow_succ, Nat.mul_comm, ← Nat.div_div_eq_div_mul]
    rw [e] at hf ⊢
    rw [ih (k + 1) (x / 10) _ (by omega) hf]
    simp [digsN]

/-- What is written is the text, without its sign. -/
theorem written_text (s x f : Nat) (hf : (digs x).length + s + 1 ≤ f) :
    written s f 0 x [] = if s = 0 then pad 0 (digs x) else (pad s (digs x)).take ((pad s (digs x)).length - s) ++ 46 :: (pad s (digs x)).drop ((pad s (digs x)).length - s) := by
  by_cases h : s = 0
  · rw [if_pos h, written_whole s f 0 x [] (.inr h) (by omega), pad_done 0 _ (digs_pos x), List.append_nil]
  · rw [if_neg h]
    have hc := digs_cut s x
    obtain ⟨g, rfl⟩ : ∃ g, f = g + s := ⟨f - s, by omega⟩
    rw [written_part s g (by omega) s 0 x [] (by omega) (by rw [hc]; omega), List.append_nil]
    have hN : max (s + 1) (digs x).length = (digs (x / 10 ^ s)).length + s := by rw [hc]; omega
    have e : pad s (digs x) = digs (x / 10 ^ s) ++ digsN s x := by rw [pad_digs, hN, digsN_add, ← digs_digsN]
    rw [e, List.length_append, digsN_len, Nat.add_sub_cancel, List.take_left, List.drop_left]
end Go.Proofs.YtclhmmgdhagloaaGreatDoor

namespace Go.Proofs.YtclhmmgdhagloaaGreatDoor

/-- n passes from the label at most. -/
def passes (P : Program) (l : Nat) (rest : Code) (Q : Exit → Act → World → Prop) : Nat → Act → World → Prop
  | 0, _, _ => False
  | n + 1, a, w => rest.wp P (Exit.jump l (passes P l rest Q n) Q) a w

theorem wp_scope_passes {P : Program} {a : Act} {w : World} {Q : Exit → Act → World → Prop} {c rest : Code} (l n : Nat) (hf : findLabel c l = some rest)
    (first : c.wp P (Exit.jump l (passes P l rest Q n) Q) a w) : (Code.scope c).wp P Q a w := by
  intro b k cs
  have hg : gotoIn l (.inScope c :: k) = some (.code rest :: .inScope c :: k) := by simp [gotoIn, hf]
  have key : ∀ n a w, passes P l rest Q n a w → ∃ e a' w', Q e a' w' ∧ Arrives P (lone (b.at a (.code rest :: .inScope c :: k)) cs w) b k cs e a' w' := by
    intro n
    induction n with
    | zero => intro a w h; exact h.elim
    | succ n ih =>
      intro a w hJ
      obtain ⟨e, a₁, w₁, hq, harr⟩ := hJ b (.inScope c :: k) cs
      cases e with
      | normal => exact ⟨.normal, a₁, w₁, hq, Steps.trans harr (.one step_inScope)⟩
      | exit id => exact ⟨.exit id, a₁, w₁, hq, fun k' hk => harr k' (by simp [exitTo, hk])⟩
      | goto l' =>
        obtain ⟨rfl, hJ'⟩ := hq
        obtain ⟨e₂, a₂, w₂, hq₂, harr₂⟩ := ih a₁ w₁ hJ'
        exact ⟨e₂, a₂, w₂, hq₂, .of_steps (harr _ hg) harr₂⟩
      | ret => exact ⟨_, a₁, w₁, hq, harr⟩
      | panic ch => exact ⟨_, a₁, w₁, hq, harr⟩
      | outgrown => exact ⟨_, a₁, w₁, hq, harr⟩
  obtain ⟨e, a₁, w₁, hq, harr⟩ := first b (.inScope c :: k) cs
  cases e with
  | normal => exact ⟨.normal, a₁, w₁, hq, .head step_scope (Steps.trans harr (.one step_inScope))⟩
  | exit id => exact ⟨.exit id, a₁, w₁, hq, fun k' hk => .head step_scope (harr k' (by simp [exitTo, hk]))⟩
  | goto l' =>
    obtain ⟨rfl, hJ'⟩ := hq
    obtain ⟨e₂, a₂, w₂, hq₂, harr₂⟩ := key _ a₁ w₁ hJ'
    exact ⟨e₂, a₂, w₂, hq₂, .of_steps (.head step_scope (harr _ hg)) harr₂⟩
  | ret => exact ⟨_, a₁, w₁, hq, .of_steps (.one step_scope) harr⟩
  | panic ch => exact ⟨_, a₁, w₁, hq, .of_steps (.one step_scope) harr⟩
  | outgrown => exact ⟨_, a₁, w₁, hq, .of_steps (.one step_scope) harr⟩
end Go.Proofs.YtclhmmgdhagloaaGreatDoor

namespace Go.Proofs.YtclhmmgdhagloaaGreatDoor
open Go.RowKit

/-- Passes by induction: each leads to the next, or out. -/
theorem pass_ind {P : Program} {l : Nat} {body : Code} {Q : Exit → Act → World → Prop} (R : Nat → Act → World → Prop) (none0 : ∀ a w, ¬ R 0 a w)
    (step : ∀ (f : Nat) (K : Act → World → Prop), (∀ a w, R f a w → K a w) → ∀ a w, R (f + 1) a w → body.wp P (Exit.jump l K Q) a w) (F : Nat) {a : Act} {w : World} (h : R (F + 1) a w) :
    body.wp P (Exit.jump l (passes P l (Code.skip.seq body) Q F) Q) a w := by
  refine step F _ ?_ a w h
  clear h
  induction F with
  | zero => intro a w h; exact absurd h (none0 a w)
  | succ F ih => intro a w h; exact wp_seq (wp_skip (step F _ ih a w h))

/-- The room: what is written lies at its end. -/
def Room (C : Array Value) (t : List UInt8) (j : Nat) : Prop :=
  C.size = 21 ∧ j + t.length = 21 ∧ (∀ i, i < 21 → ∃ y : UInt8, C[i]? = some (.int .u8 (y.toNat : Int))) ∧ ∀ i (h : i < t.length), C[j + i]? = some (.int .u8 (t[i].toNat : Int))
theorem Room.cons {C : Array Value} {t : List UInt8} {j : Nat} (h : Room C t (j + 1)) (y : UInt8) : Room (C.setIfInBounds j (.int .u8 (y.toNat : Int))) (y :: t) j := by
  obtain ⟨h1, h2, h3, h4⟩ := h
  refine ⟨by simpa using h1, by rw [List.length_cons]; omega, fun i hi => ?_, fun i hi => ?_⟩
  · by_cases e : i = j
    · subst e; exact ⟨y, by rw [Array.getElem?_setIfInBounds_self, if_pos (by omega)]⟩
    · obtain ⟨z, hz⟩ := h3 i hi
      exact ⟨z, by rw [Array.getElem?_setIfInBounds_ne (by omega)]; exact hz⟩
  · cases i with
    | zero => rw [Nat.add_zero, Array.getElem?_setIfInBounds_self, if_pos (by omega)]; rfl
    | succ i =>
      rw [Array.getElem?_setIfInBounds_ne (by omega)]
      have := h4 i (by simpa using hi)
      rw [show j + 1 + i = j + (i + 1) by omega] at this
      exact this

theorem str_room (V : World) (n : Nat) (C : Array Value) (t : List UInt8) (j L : Nat) (h : Room C t j) (hL : L = t.length) :
    (convert 145 9 (.slice (some ⟨V.heap.size, j, none⟩) L L)).run Tryz.prog ((V.alloc (.cells C 241)).drewN n) = .ok (.string ⟨t.toArray⟩) ((V.alloc (.cells C 241)).drewN n) := by
  subst hL
  refine run_convert_bytes_back _ 145 9 5 ⟨V.heap.size, j, none⟩ t.length t Tryz.underlying145 Tryz.underlying5 Tryz.underlying9 fun i hi => ?_
  rw [Addr.add_lit]
  rw [World.cell?_drewN, World.cell?_alloc_at _ _ _ _ rfl]
  exact h.2.2.2 i hi

theorem written_ge (s f : Nat) : ∀ k x t, t.length ≤ (written s f k x t).length := by
  induction f with
  | zero => intro k x t; exact Nat.le_refl _
  | succ f ih =>
    intro k x t
    have h1 : t.length ≤ (told s k x t).length := by unfold told; split <;> simp <;> omega
    unfold written
    split
    · exact Nat.le_trans h1 (ih _ _ _)
    · exact h1
theorem written_told (s f k x : Nat) (t : List UInt8) : (told s k x t).length ≤ (written s (f + 1) k x t).length := by
  unfold written
  split
  · exact written_ge _ _ _ _ _
  · exact Nat.le_refl _

end Go.Proofs.YtclhmmgdhagloaaGreatDoor
