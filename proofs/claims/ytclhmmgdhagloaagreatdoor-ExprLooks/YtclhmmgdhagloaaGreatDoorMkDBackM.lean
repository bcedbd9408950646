/-
  The program's tellDigits: the number of the digits that a text begins with, and how many they are.
  Texts of decimals there and back, as lists of bytes: what is printed is read as it was, what is read is printed as it was. Nothing of the program is in it.
-/
import Derived.Test.YtclhmmgdhagloaaGreatDoorMjDText4
import Derived.Test.YtclhmmgdhagloaaGreatDoorMhDText1
namespace Go.Proofs.YtclhmmgdhagloaaGreatDoor
open Go.RowKit

/-- One digit more; what does not fit is the greatest number. -/
def nextN (n : Nat) (c : UInt8) : Nat := if n * 10 + (c.toNat - 48) < 18446744073709551616 then n * 10 + (c.toNat - 48) else 18446744073709551615
/-- The number of the digits that a list begins with, and how many they are. -/
def tellF : List UInt8 → Nat → Nat → Nat × Nat
  | [], n, i => (n, i)
  | c :: l, n, i => if c.toNat < 48 ∨ 57 < c.toNat then (n, i) else tellF l (nextN n c) (i + 1)

set_option maxRecDepth 20000 in
set_option maxHeartbeats 4000000 in
theorem tell_any (bs : List UInt8) (w : World) (hb : bs.length ≤ 9223372036854775806) :
    Calls Tryz.prog 297 #[.string ⟨bs.toArray⟩] w fun e w' => e = .returned (.tuple #[.int .u64 ((tellF bs 0 0).1 : Int), .int .i64 ((tellF bs 0 0).2 : Int)]) ∧ w = w' := by
  obtain ⟨R, hR⟩ : ∃ R, R = tellF bs 0 0 := ⟨_, rfl⟩
  rw [← hR]
  go_enter Tryz.func297, Tryz.ntmps297
  go_wp2
  refine wp_scope_passes 0 bs.length rfl ?_
  go_wp2_with fail
  apply wp_label
  rename_i aK
  refine aK _ _ ?_
  refine pass_ind (fun f a W => ∃ (i n : Nat) (z4 z5 z6 z7 z8 z9 z10 z11 z12 z13 z14 z15 z16 z17 z18 z19 z20 z21 z22 z23 z24 z25 z26 z27 z28 z29 z30 z31 z32 z33 z34 z35 z36 z37 z38 z39 z40 z41 z42 z43 z44 z45 z46 : Value), a = { tmps := #[Value.string { data := bs.toArray }, undef, Value.int IntKind.u64 (n : Int), Value.int IntKind.i64 (i : Int), z4, z5, z6, z7, z8, z9, z10, z11, z12, z13, z14, z15, z16, z17, z18, z19, z20, z21, z22, z23, z24, z25, z26, z27, z28, z29, z30, z31, z32, z33, z34, z35, z36, z37, z38, z39, z40, z41, z42, z43, z44, z45, z46], defers := [] } ∧ W = w ∧ Hid (i ≤ bs.length ∧ n < 18446744073709551616 ∧ i + f = bs.length + 1 ∧ tellF (bs.drop i) n i = R)) ?none0 ?step bs.length ?start
  case none0 =>
    rintro a W ⟨i, n, z4, z5, z6, z7, z8, z9, z10, z11, z12, z13, z14, z15, z16, z17, z18, z19, z20, z21, z22, z23, z24, z25, z26, z27, z28, z29, z30, z31, z32, z33, z34, z35, z36, z37, z38, z39, z40, z41, z42, z43, z44, z45, z46, rfl, rfl, hI⟩
    have h1 := hI.out
    omega
  case start =>
    exact ⟨0, 0, _, _, _, _, _, _, _, _, _, _, _, _, _, _, _, _, _, _, _, _, _, _, _, _, _, _, _, _, _, _, _, _, _, _, _, _, _, _, _, _, _, _, _, rfl, rfl, ⟨Nat.zero_le _, by decide, by omega, hR.symm⟩⟩
  case step =>
    rintro f K hK a W ⟨i, n, z4, z5, z6, z7, z8, z9, z10, z11, z12, z13, z14, z15, z16, z17, z18, z19, z20, z21, z22, z23, z24, z25, z26, z27, z28, z29, z30, z31, z32, z33, z34, z35, z36, z37, z38, z39, z40, z41, z42, z43, z44, z45, z46, rfl, rfl, hI⟩
    obtain ⟨h1, h2, h3, h4⟩ := hI.out
    have hsz : (ByteArray.mk bs.toArray).size = bs.length := rfl
    by_cases he : i = bs.length
    · have hei : (i : Int) = (bs.length : Int) := by omega
      have HR : Hid (R = (n, bs.length)) := by show R = _; rw [← h4, he, List.drop_length]; rfl
      subst he
      clear hI h1 h2 h3 h4 hR hb hei
      go_wp2
      simp only [Exit.jump]
      refine bodyPost_ret_by (v := .tuple #[.int .u64 (n : Int), .int .i64 (bs.length : Int)]) ?_ (by rfl) ⟨by rw [HR.out], rfl⟩
      simp [results, Tryz.results297, go_sem]
    · have hne : ¬ (i : Int) = (bs.length : Int) := by omega
      have hlt : i < bs.length := by omega
      have i0 : (0 : Int) ≤ (i : Int) := by omega
      have i1 : (i : Int) < (bs.length : Int) := by omega
      obtain ⟨c, hc0⟩ : ∃ c, c = bs[i] := ⟨_, rfl⟩
      have hc : ∀ h, (ByteArray.mk bs.toArray)[i]'h = c := fun h => by rw [hc0]; rfl
      have hdr : bs.drop i = c :: bs.drop (i + 1) := by rw [hc0]; exact List.drop_eq_getElem_cons hlt
      rw [hdr] at h4
      by_cases hlo : c.toNat < 48
      · have HR : Hid (R = (n, i)) := by show R = _; rw [← h4]; unfold tellF; rw [if_pos (.inl hlo)]
        have hli : (c.toNat : Int) < 48 := by omega
        clear hI h1 h2 h3 h4 he hR hb hc0 hdr
        go_wp2
        simp only [Exit.jump]
        refine bodyPost_ret_by (v := .tuple #[.int .u64 (n : Int), .int .i64 (i : Int)]) ?_ (by rfl) ⟨by rw [HR.out], rfl⟩
        simp [results, Tryz.results297, go_sem]
      · have hli : ¬ (c.toNat : Int) < 48 := by omega
        by_cases hhi : 57 < c.toNat
        · have HR : Hid (R = (n, i)) := by show R = _; rw [← h4]; unfold tellF; rw [if_pos (.inr hhi)]
          have hhj : (57 : Int) < (c.toNat : Int) := by omega
          clear hI h1 h2 h3 h4 he hR hb hc0 hdr
          go_wp2
          simp only [Exit.jump]
          refine bodyPost_ret_by (v := .tuple #[.int .u64 (n : Int), .int .i64 (i : Int)]) ?_ (by rfl) ⟨by rw [HR.out], rfl⟩
          simp [results, Tryz.results297, go_sem]
        · have hhj : ¬ (57 : Int) < (c.toNat : Int) := by omega
          obtain ⟨d, hd⟩ : ∃ d, d = c.toNat - 48 := ⟨_, rfl⟩
          have e1 : IntKind.u8.wrap ((c.toNat : Int) - 48) = (d : Int) := by rw [IntKind.wrap_u8]; omega
          have e2 : IntKind.u64.wrap (d : Int) = (d : Int) := by rw [IntKind.wrap_u64]; omega
          have M := fun W => mul64_any n 10 h2 (by decide) W
          obtain ⟨H, hH⟩ : ∃ H, H = n * 10 / 18446744073709551616 := ⟨_, rfl⟩
          obtain ⟨Lo, hLo⟩ : ∃ Lo, Lo = n * 10 % 18446744073709551616 := ⟨_, rfl⟩
          rw [← hH, ← hLo] at M
          have A := fun W => add64_0 (Lo : Int) (d : Int) (by omega) (by omega) W
          obtain ⟨S, hS⟩ : ∃ S : Nat, ((Lo : Int) + (d : Int)) % 18446744073709551616 = (S : Int) := ⟨(Lo + d) % 18446744073709551616, by omega⟩
          obtain ⟨Q, hQ⟩ : ∃ Q : Nat, ((Lo : Int) + (d : Int)) / 18446744073709551616 = (Q : Int) := ⟨(Lo + d) / 18446744073709551616, by omega⟩
          rw [hS, hQ] at A
          obtain ⟨E, hE⟩ : ∃ E, E = H + Q := ⟨_, rfl⟩
          have eE : IntKind.u64.wrap ((H : Int) + (Q : Int)) = (E : Int) := by rw [IntKind.wrap_u64]; omega
          obtain ⟨k1, hk1⟩ : ∃ k1, k1 = i + 1 := ⟨_, rfl⟩
          have e5 : IntKind.i64.wrap ((i : Int) + 1) = (k1 : Int) := by rw [IntKind.wrap_i64]; omega
          have hval : n * 10 + d = E * 18446744073709551616 + S := by omega
          have hS2 : S < 18446744073709551616 := by omega
          have hnx : tellF (bs.drop (i + 1)) (nextN n c) (i + 1) = R := by
            rw [← h4]
            show _ = if _ then _ else _
            rw [if_neg (by omega)]
          by_cases hE0 : E = 0
          · subst hE0
            have HN : Hid (k1 ≤ bs.length ∧ S < 18446744073709551616 ∧ k1 + f = bs.length + 1 ∧ tellF (bs.drop k1) S k1 = R) := by
              refine ⟨by omega, hS2, by omega, ?_⟩
              rw [← hnx, hk1]
              unfold nextN
              rw [← hd, if_pos (by omega), hval, Nat.zero_mul, Nat.zero_add]
            clear hI h1 h2 h3 h4 he hR hb hc0 hdr hH hLo hS hQ hE hval hd hk1 hlt hlo hhi hS2 hnx
            go_wp2_with (go_at_call 256; refine (M _).mono ?_; rintro e w' ⟨rfl, rfl⟩)
            apply wp_goto
            refine ⟨rfl, ?_⟩
            exact hK _ _ ⟨k1, S, _, _, _, _, _, _, _, _, _, _, _, _, _, _, _, _, _, _, _, _, _, _, _, _, _, _, _, _, _, _, _, _, _, _, _, _, _, _, _, _, _, _, _, rfl, rfl, HN⟩
          · have hEi : (0 : Int) < (E : Int) := by omega
            have HN : Hid (k1 ≤ bs.length ∧ 18446744073709551615 < 18446744073709551616 ∧ k1 + f = bs.length + 1 ∧ tellF (bs.drop k1) 18446744073709551615 k1 = R) := by
              refine ⟨by omega, by decide, by omega, ?_⟩
              rw [← hnx, hk1]
              unfold nextN
              rw [← hd, if_neg (by omega)]
            clear hE0 hI h1 h2 h3 h4 he hR hb hc0 hdr hH hLo hS hQ hE hval hd hk1 hlt hlo hhi hS2 hnx
            go_wp2_with (go_at_call 256; refine (M _).mono ?_; rintro e w' ⟨rfl, rfl⟩)
            apply wp_goto
            refine ⟨rfl, ?_⟩
            exact hK _ _ ⟨k1, 18446744073709551615, _, _, _, _, _, _, _, _, _, _, _, _, _, _, _, _, _, _, _, _, _, _, _, _, _, _, _, _, _, _, _, _, _, _, _, _, _, _, _, _, _, _, _, rfl, rfl, HN⟩
end Go.Proofs.YtclhmmgdhagloaaGreatDoor

namespace Go.Proofs.YtclhmmgdhagloaaGreatDoor

/-- A digit. -/
def isDig (c : UInt8) : Prop := 48 ≤ c.toNat ∧ c.toNat ≤ 57
/-- The number of digits, with n ahead of them. -/
def valF : List UInt8 → Nat → Nat
  | [], n => n
  | c :: l, n => valF l (n * 10 + (c.toNat - 48))
theorem valF_cons (c : UInt8) (l : List UInt8) (n : Nat) : valF (c :: l) n = valF l (n * 10 + (c.toNat - 48)) := rfl
theorem valF_app (a b : List UInt8) : ∀ n, valF (a ++ b) n = valF b (valF a n) := by
  induction a with
  | nil => intro n; rfl
  | cons c a ih => intro n; exact ih _

theorem sat_next (v : Nat) (c : UInt8) : nextN (min v 18446744073709551615) c = min (v * 10 + (c.toNat - 48)) 18446744073709551615 := by
  unfold nextN
  split <;> omega
theorem tell_digits (l : List UInt8) : ∀ v i, (∀ c ∈ l, isDig c) → tellF l (min v 18446744073709551615) i = (min (valF l v) 18446744073709551615, i + l.length) := by
  induction l with
  | nil => intro v i _; rfl
  | cons c l ih =>
    intro v i h
    have hc := h c (by simp)
    unfold tellF
    rw [if_neg (by unfold isDig at hc; omega), sat_next, ih _ _ (fun d hd => h d (by simp [hd]))]
    rw [valF_cons, List.length_cons, show i + 1 + l.length = i + (l.length + 1) by omega]
theorem tell_all (l : List UInt8) : ∀ n i, (tellF l n i).2 ≤ i + l.length ∧ ((tellF l n i).2 = i + l.length → ∀ c ∈ l, isDig c) := by
  induction l with
  | nil => intro n i; exact ⟨Nat.le_refl _, by simp⟩
  | cons c l ih =>
    intro n i
    unfold tellF
    by_cases hc : c.toNat < 48 ∨ 57 < c.toNat
    · rw [if_pos hc]
      constructor
      · show i ≤ _; simp
      · intro h
        have h' : i = i + (c :: l).length := h
        simp at h'
    · rw [if_neg hc]
      obtain ⟨h1, h2⟩ := ih (nextN n c) (i + 1)
      constructor
      · simp; omega
      · intro h d hd
        have h3 := h2 (by simp at h; omega)
        rcases List.mem_cons.1 hd with rfl | hd
        · unfold isDig; omega
        · exact h3 d hd

/-- Digits are those of their number. -/
theorem digsN_val (n : Nat) : ∀ l : List UInt8, l.length = n → (∀ c ∈ l, isDig c) → digsN n (valF l 0) = l := by
  induction n with
  | zero => intro l h _; have := List.eq_nil_of_length_eq_zero h; subst this; rfl
  | succ n ih =>
    intro l h hd
    have hne : l ≠ [] := by rintro rfl; simp at h
    obtain ⟨a, c, rfl⟩ : ∃ a c, l = a ++ [c] := ⟨l.dropLast, l.getLast hne, (List.dropLast_concat_getLast hne).symm⟩
    have ha : a.length = n := by simpa using h
    have hc : isDig c := hd c (by simp)
    have hv : valF (a ++ [c]) 0 = valF a 0 * 10 + (c.toNat - 48) := by rw [valF_app]; rfl
    unfold isDig at hc
    rw [hv]
    unfold digsN
    have e1 : (valF a 0 * 10 + (c.toNat - 48)) / 10 = valF a 0 := by omega
    have e2 : UInt8.ofNat (48 + (valF a 0 * 10 + (c.toNat - 48)) % 10) = c := by
      have : 48 + (valF a 0 * 10 + (c.toNat - 48)) % 10 = c.toNat := by omega
      rw [this]; simp
    rw [e1, e2, ih a ha (fun d hd' => hd d (by simp [hd']))]
theorem valF_lt (l : List UInt8) : ∀ n, (∀ c ∈ l, isDig c) → valF l n < (n + 1) * 10 ^ l.length := by
  induction l with
  | nil => intro n _; simp [valF]
  | cons c l ih =>
    intro n h
    have hc := h c (by simp)
    unfold isDig at hc
    have h1 := ih (n * 10 + (c.toNat - 48)) (fun d hd => h d (by simp [hd]))
    unfold valF
    have h2 : (n * 10 + (c.toNat - 48) + 1) * 10 ^ l.length ≤ (n * 10 + 10) * 10 ^ l.length := Nat.mul_le_mul_right _ (by omega)
    have h3 : (n + 1) * 10 ^ (c :: l).length = (n * 10 + 10) * 10 ^ l.length := by rw [List.length_cons, Nat.pow_succ]; grind
    omega
theorem valF_ge (l : List UInt8) : ∀ n, n * 10 ^ l.length ≤ valF l n := by
  induction l with
  | nil => intro n; simp [valF]
  | cons c l ih =>
    intro n
    have h1 := ih (n * 10 + (c.toNat - 48))
    unfold valF
    have h2 : n * 10 * 10 ^ l.length ≤ (n * 10 + (c.toNat - 48)) * 10 ^ l.length := Nat.mul_le_mul_right _ (by omega)
    have h3 : n * 10 ^ (c :: l).length = n * 10 * 10 ^ l.length := by rw [List.length_cons, Nat.pow_succ]; grind
    omega
theorem digs_ge (k : Nat) : ∀ x, 10 ^ k ≤ x → k + 1 ≤ (digs x).length := by
  induction k with
  | zero => intro x _; exact digs_pos x
  | succ k ih =>
    intro x h
    have hp : 0 < 10 ^ k := Nat.pow_pos (by decide)
    rw [Nat.pow_succ] at h
    have hx : ¬ x < 10 := by omega
    rw [digs_big x hx, List.length_append]
    have := ih (x / 10) (by omega)
    simp
    omega

/-- The text whose digits are these: what is padded is just these digits. -/
theorem pad_back (whole part : List UInt8) (hw : whole ≠ []) (h0 : whole = [48] ∨ whole.head? ≠ some 48) (hd : ∀ c ∈ whole ++ part, isDig c) :
    pad part.length (digs (valF (whole ++ part) 0)) = whole ++ part := by
  rw [pad_digs]
  have hl : max (part.length + 1) (digs (valF (whole ++ part) 0)).length = (whole ++ part).length := by
    have hL : 1 ≤ whole.length := by
      rcases Nat.eq_zero_or_pos whole.length with h | h
      · exact absurd (List.eq_nil_of_length_eq_zero h) hw
      · exact h
    have h1 : (digs (valF (whole ++ part) 0)).length ≤ (whole ++ part).length := by
      have := valF_lt (whole ++ part) 0 hd
      obtain ⟨k, hk⟩ : ∃ k, (whole ++ part).length = k + 1 := ⟨(whole ++ part).length - 1, by rw [List.length_append]; omega⟩
      rw [hk] at this ⊢
      exact digs_len k _ (by simpa using this)
    rw [List.length_append] at h1 ⊢
    rcases h0 with h0 | h0
    · have hw1 : whole.length = 1 := by rw [h0]; rfl
      omega
    · have h2 : (whole ++ part).length ≤ (digs (valF (whole ++ part) 0)).length := by
        match whole, hw, h0, hd with
        | c :: w', _, h0, hd =>
          have hc : isDig c := hd c (by simp)
          have hne : c.toNat ≠ 48 := by
            intro e
            apply h0
            have : c = 48 := UInt8.toNat_inj.1 e
            rw [this]; rfl
          unfold isDig at hc
          have h3 := valF_ge (w' ++ part) (0 * 10 + (c.toNat - 48))
          have h4 : 10 ^ (w' ++ part).length ≤ (0 * 10 + (c.toNat - 48)) * 10 ^ (w' ++ part).length := by
            have := Nat.mul_le_mul_right (10 ^ (w' ++ part).length) (show 1 ≤ 0 * 10 + (c.toNat - 48) by omega)
            omega
          have h5 := digs_ge (w' ++ part).length (valF (c :: w' ++ part) 0) (Nat.le_trans h4 h3)
          have h6 : (c :: w' ++ part).length = (w' ++ part).length + 1 := by simp
          rw [h6]; exact h5
      rw [List.length_append] at h2
      omega
  rw [hl]
  exact digsN_val _ _ rfl hd

/-- What a text is read as: the sign, the digits' number, the scale. -/
def PR (t : List UInt8) : Option (Bool × Nat × Nat) :=
  if rightW (cutPt (if t.head? = some 45 then t.drop 1 else t)).1 && (!(cutPt (if t.head? = some 45 then t.drop 1 else t)).2.2 || rightP (cutPt (if t.head? = some 45 then t.drop 1 else t)).2.1) then
    if (tellF ((cutPt (if t.head? = some 45 then t.drop 1 else t)).1 ++ (cutPt (if t.head? = some 45 then t.drop 1 else t)).2.1) 0 0).2 < ((cutPt (if t.head? = some 45 then t.drop 1 else t)).1 ++ (cutPt (if t.head? = some 45 then t.drop 1 else t)).2.1).length
      ∨ (t.head? = some 45 ∧ (tellF ((cutPt (if t.head? = some 45 then t.drop 1 else t)).1 ++ (cutPt (if t.head? = some 45 then t.drop 1 else t)).2.1) 0 0).1 = 0) then none
    else some (decide (t.head? = some 45), (tellF ((cutPt (if t.head? = some 45 then t.drop 1 else t)).1 ++ (cutPt (if t.head? = some 45 then t.drop 1 else t)).2.1) 0 0).1, (cutPt (if t.head? = some 45 then t.drop 1 else t)).2.1.length)
  else none

theorem dtext_cut (b : Bool) (n : Nat) (whole part : List UInt8) (hb : b = true → n ≠ 0) (hp : pad part.length (digs n) = whole ++ part) :
    dtext (sval b n) part.length = (if b then [45] else []) ++ (whole ++ (if part.length = 0 then [] else 46 :: part)) := by
  unfold dtext
  rw [sval_natAbs]
  have hs : (if sval b n < 0 then [45] else []) = (if b then [45] else ([] : List UInt8)) := by
    cases b
    · rw [if_neg (by simp [sval]), if_neg (by decide)]
    · have := hb rfl
      rw [if_pos (by simp [sval]; omega), if_pos rfl]
  rw [hs]
  congr 1
  by_cases h0 : part.length = 0
  · have hnil := List.eq_nil_of_length_eq_zero h0
    rw [if_pos h0, if_pos h0]
    rw [h0] at hp
    rw [hp, hnil]
  · rw [if_neg h0, if_neg h0, hp]
    have e : (whole ++ part).length - part.length = whole.length := by simp
    rw [e, List.take_left, List.drop_left]

theorem PR_back (t : List UInt8) (b : Bool) (n s : Nat) (h : PR t = some (b, n, s)) (hf : fits (sval b n) = true) : s ≤ 6 ∧ dtext (sval b n) s = t := by
  unfold PR at h
  generalize hrest : (if t.head? = some 45 then t.drop 1 else t) = rest at h
  obtain ⟨hb1, hb2⟩ := cutPt_back rest
  generalize (cutPt rest).1 = whole at *
  generalize (cutPt rest).2.1 = part at *
  generalize (cutPt rest).2.2 = pointed at *
  by_cases h1 : (rightW whole && (!pointed || rightP part)) = true
  · rw [if_pos h1] at h
    by_cases h2 : (tellF (whole ++ part) 0 0).2 < (whole ++ part).length ∨ (t.head? = some 45 ∧ (tellF (whole ++ part) 0 0).1 = 0)
    · rw [if_pos h2] at h; exact absurd h (by simp)
    · rw [if_neg h2] at h
      obtain ⟨e1, e2, e3⟩ : decide (t.head? = some 45) = b ∧ (tellF (whole ++ part) 0 0).1 = n ∧ part.length = s := by simpa using h
      have hall : ∀ c ∈ whole ++ part, isDig c := by
        obtain ⟨k1, k2⟩ := tell_all (whole ++ part) 0 0
        exact k2 (by omega)
      have ht := tell_digits (whole ++ part) 0 0 hall
      rw [show min 0 18446744073709551615 = 0 by decide] at ht
      have hn : n = min (valF (whole ++ part) 0) 18446744073709551615 := by rw [← e2, ht]
      have hfit := (fits_iff _).1 hf
      have hn2 : n = valF (whole ++ part) 0 := by
        cases b <;> simp [sval] at hfit <;> omega
      obtain ⟨hw, hpt⟩ := Bool.and_eq_true_iff.1 h1
      unfold rightW at hw
      obtain ⟨hw1, hw2⟩ := Bool.and_eq_true_iff.1 hw
      have hwn : whole ≠ [] := by rintro rfl; simp at hw1
      have hw3 : whole = [48] ∨ whole.head? ≠ some 48 := by
        rcases Bool.or_eq_true_iff.1 hw2 with k | k
        · exact Or.inl (eq_of_beq k)
        · right
          intro e
          rw [e] at k
          simp at k
      have hp := pad_back whole part hwn hw3 hall
      rw [← hn2] at hp
      have hb : b = true → n ≠ 0 := by
        rintro rfl h0
        exact h2 (Or.inr ⟨by simpa using e1, by rw [e2]; exact h0⟩)
      have hd := dtext_cut b n whole part hb hp
      rw [e3] at hd
      have hpl : (if s = 0 then [] else 46 :: part) = (if pointed then 46 :: part else ([] : List UInt8)) := by
        cases pointed
        · have := hb2 rfl
          subst this
          simp at e3
          subst e3
          rfl
        · simp at hpt
          unfold rightP at hpt
          have : part ≠ [] := by rintro rfl; simp at hpt
          have : s ≠ 0 := by
            rw [← e3]
            intro h0
            exact this (List.eq_nil_of_length_eq_zero h0)
          rw [if_neg this]; rfl
      have hs6 : s ≤ 6 := by
        cases pointed
        · have := hb2 rfl
          subst this
          simp at e3
          omega
        · simp at hpt
          unfold rightP at hpt
          simp at hpt
          omega
      refine ⟨hs6, ?_⟩
      rw [hd, hpl, ← hb1, ← hrest]
      by_cases hh : t.head? = some 45
      · have eb : b = true := by rw [← e1]; simp [hh]
        rw [eb, if_pos rfl, if_pos hh]
        match t, hh with
        | c :: t', hh =>
          have : c = 45 := by simpa using hh
          subst this; rfl
      · have eb : b = false := by rw [← e1]; simp [hh]
        rw [eb, if_neg hh]; rfl
  · rw [if_neg h1] at h; exact absurd h (by simp)

end Go.Proofs.YtclhmmgdhagloaaGreatDoor
