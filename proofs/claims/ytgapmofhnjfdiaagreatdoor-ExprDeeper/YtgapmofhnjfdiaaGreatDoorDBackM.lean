/-
  Texts of decimals there and back, as lists of bytes: what is printed is read as it was, what is read is printed as it was. Nothing of the program is in it.
-/
import Derived.Test.YtgapmofhnjfdiaaGreatDoorMkDText3
import Derived.Test.YtgapmofhnjfdiaaGreatDoorMlDText7
import Derived.Test.YtgapmofhnjfdiaaGreatDoorMiDText1
namespace Go.Proofs.YtgapmofhnjfdiaaGreatDoor

/-- A digit. -/
def isDig (c : UInt8) : Prop := 48 ≤ c.toNat ∧ c.toNat ≤ 57
/-- The number of digits, with n ahead of them. -/
def valF : List UInt8 → Nat → Nat
  | [], n => n
  | c :: l, n => valF l (n * 10 + (c.toNat - 48))
theorem valF_cons (c : UInt8) (l : List UInt8) (n : Nat) : valF (c :: l) n = valF l (n * 10 + (c.toNat - 48)) := rfl
theorem valF_app (a b : List UInt8) : ∀ n, valF (a ++ b) n = valF b (valF a n) := by
  induction a with
  | nil => intro n; rfl
  | cons c a ih => intro n; exact ih _

theorem sat_next (v : Nat) (c : UInt8) : nextN (min v 18446744073709551615) c = min (v * 10 + (c.toNat - 48)) 18446744073709551615 := by
  unfold nextN
  split <;> omega
theorem tell_digits (l : List UInt8) : ∀ v i, (∀ c ∈ l, isDig c) → tellF l (min v 18446744073709551615) i = (min (valF l v) 18446744073709551615, i + l.length) := by
  induction l with
  | nil => intro v i _; rfl
  | cons c l ih =>
    intro v i h
    have hc := h c (by simp)
    unfold tellF
    rw [if_neg (by unfold isDig at hc; omega), sat_next, ih _ _ (fun d hd => h d (by simp [hd]))]
    rw [valF_cons, List.length_cons, show i + 1 + l.length = i + (l.length + 1) by omega]
theorem tell_all (l : List UInt8) : ∀ n i, (tellF l n i).2 ≤ i + l.length ∧ ((tellF l n i).2 = i + l.length → ∀ c ∈ l, isDig c) := by
  induction l with
  | nil => intro n i; exact ⟨Nat.le_refl _, by simp⟩
  | cons c l ih =>
    intro n i
    unfold tellF
    by_cases hc : c.toNat < 48 ∨ 57 < c.toNat
    · rw [if_pos hc]
      constructor
      · show i ≤ _; simp
      · intro h
        have h' : i = i + (c :: l).length := h
        simp at h'
    · rw [if_neg hc]
      obtain ⟨h1, h2⟩ := ih (nextN n c) (i + 1)
      constructor
      · simp; omega
      · intro h d hd
        have h3 := h2 (by simp at h; omega)
        rcases List.mem_cons.1 hd with rfl | hd
        · unfold isDig; omega
        · exact h3 d hd

/-- Digits are those of their number. -/
theorem digsN_val (n : Nat) : ∀ l : List UInt8, l.length = n → (∀ c ∈ l, isDig c) → digsN n (valF l 0) = l := by
  induction n with
  | zero => intro l h _; have := List.eq_nil_of_length_eq_zero h; subst this; rfl
  | succ n ih =>
    intro l h hd
    have hne : l ≠ [] := by rintro rfl; simp at h
    obtain ⟨a, c, rfl⟩ : ∃ a c, l = a ++ [c] := ⟨l.dropLast, l.getLast hne, (List.dropLast_concat_getLast hne).symm⟩
    have ha : a.length = n := by simpa using h
    have hc : isDig c := hd c (by simp)
    have hv : valF (a ++ [c]) 0 = valF a 0 * 10 + (c.toNat - 48) := by rw [valF_app]; rfl
    unfold isDig at hc
    rw [hv]
    unfold digsN
    have e1 : (valF a 0 * 10 + (c.toNat - 48)) / 10 = valF a 0 := by omega
    have e2 : UInt8.ofNat (48 + (valF a 0 * 10 + (c.toNat - 48)) % 10) = c := by
      have : 48 + (valF a 0 * 10 + (c.toNat - 48)) % 10 = c.toNat := by omega
      rw [this]; simp
    rw [e1, e2, ih a ha (fun d hd' => hd d (by simp [hd']))]
theorem valF_lt (l : List UInt8) : ∀ n, (∀ c ∈ l, isDig c) → valF l n < (n + 1) * 10 ^ l.length := by
  induction l with
  | nil => intro n _; simp [valF]
  | cons c l ih =>
    intro n h
    have hc := h c (by simp)
    unfold isDig at hc
    have h1 := ih (n * 10 + (c.toNat - 48)) (fun d hd => h d (by simp [hd]))
    unfold valF
    have h2 : (n * 10 + (c.toNat - 48) + 1) * 10 ^ l.length ≤ (n * 10 + 10) * 10 ^ l.length := Nat.mul_le_mul_right _ (by omega)
    have h3 : (n + 1) * 10 ^ (c :: l).length = (n * 10 + 10) * 10 ^ l.length := by rw [List.length_cons, Nat.pow_succ]; grind
    omega
theorem valF_ge (l : List UInt8) : ∀ n, n * 10 ^ l.length ≤ valF l n := by
  induction l with
  | nil => intro n; simp [valF]
  | cons c l ih =>
    intro n
    have h1 := ih (n * 10 + (c.toNat - 48))
    unfold valF
    have h2 : n * 10 * 10 ^ l.length ≤ (n * 10 + (c.toNat - 48)) * 10 ^ l.length := Nat.mul_le_mul_right _ (by omega)
    have h3 : n * 10 ^ (c :: l).length = n * 10 * 10 ^ l.length := by rw [List.length_cons, Nat.pow_succ]; grind
    omega
theorem digs_ge (k : Nat) : ∀ x, 10 ^ k ≤ x → k + 1 ≤ (digs x).length := by
  induction k with
  | zero => intro x _; exact digs_pos x
  | succ k ih =>
    intro x h
    have hp : 0 < 10 ^ k := Nat.pow_pos (by decide)
    rw [Nat.pow_succ] at h
    have hx : ¬ x < 10 := by omega
    rw [digs_big x hx, List.length_append]
    have := ih (x / 10) (by omega)
    simp
    omega

/-- The text whose digits are these: what is padded is just these digits. -/
theorem pad_back (whole part : List UInt8) (hw : whole ≠ []) (h0 : whole = [48] ∨ whole.head? ≠ some 48) (hd : ∀ c ∈ whole ++ part, isDig c) :
    pad part.length (digs (valF (whole ++ part) 0)) = whole ++ part := by
  rw [pad_digs]
  have hl : max (part.length + 1) (digs (valF (whole ++ part) 0)).length = (whole ++ part).length := by
    have hL : 1 ≤ whole.length := by
      rcases Nat.eq_zero_or_pos whole.length with h | h
      · exact absurd (List.eq_nil_of_length_eq_zero h) hw
      · exact h
    have h1 : (digs (valF (whole ++ part) 0)).length ≤ (whole ++ part).length := by
      have := valF_lt (whole ++ part) 0 hd
      obtain ⟨k, hk⟩ : ∃ k, (whole ++ part).length = k + 1 := ⟨(whole ++ part).length - 1, by rw [List.length_append]; omega⟩
      rw [hk] at this ⊢
      exact digs_len k _ (by simpa using this)
    rw [List.length_append] at h1 ⊢
    rcases h0 with h0 | h0
    · have hw1 : whole.length = 1 := by rw [h0]; rfl
      omega
    · have h2 : (whole ++ part).length ≤ (digs (valF (whole ++ part) 0)).length := by
        match whole, hw, h0, hd with
        | c :: w', _, h0, hd =>
          have hc : isDig c := hd c (by simp)
          have hne : c.toNat ≠ 48 := by
            intro e
            apply h0
            have : c = 48 := UInt8.toNat_inj.1 e
            rw [this]; rfl
          unfold isDig at hc
          have h3 := valF_ge (w' ++ part) (0 * 10 + (c.toNat - 48))
          have h4 : 10 ^ (w' ++ part).length ≤ (0 * 10 + (c.toNat - 48)) * 10 ^ (w' ++ part).length := by
            have := Nat.mul_le_mul_right (10 ^ (w' ++ part).length) (show 1 ≤ 0 * 10 + (c.toNat - 48) by omega)
            omega
          have h5 := digs_ge (w' ++ part).length (valF (c :: w' ++ part) 0) (Nat.le_trans h4 h3)
          have h6 : (c :: w' ++ part).length = (w' ++ part).length + 1 := by simp
          rw [h6]; exact h5
      rw [List.length_append] at h2
      omega
  rw [hl]
  exact digsN_val _ _ rfl hd

/-- What a text is read as: the sign, the digits' number, the scale. -/
def PR (t : List UInt8) : Option (Bool × Nat × Nat) :=
  if rightW (cutPt (if t.head? = some 45 then t.drop 1 else t)).1 && (!(cutPt (if t.head? = some 45 then t.drop 1 else t)).2.2 || rightP (cutPt (if t.head? = some 45 then t.drop 1 else t)).2.1) then
    if (tellF ((cutPt (if t.head? = some 45 then t.drop 1 else t)).1 ++ (cutPt (if t.head? = some 45 then t.drop 1 else t)).2.1) 0 0).2 < ((cutPt (if t.head? = some 45 then t.drop 1 else t)).1 ++ (cutPt (if t.head? = some 45 then t.drop 1 else t)).2.1).length
      ∨ (t.head? = some 45 ∧ (tellF ((cutPt (if t.head? = some 45 then t.drop 1 else t)).1 ++ (cutPt (if t.head? = some 45 then t.drop 1 else t)).2.1) 0 0).1 = 0) then none
    else some (decide (t.head? = some 45), (tellF ((cutPt (if t.head? = some 45 then t.drop 1 else t)).1 ++ (cutPt (if t.head? = some 45 then t.drop 1 else t)).2.1) 0 0).1, (cutPt (if t.head? = some 45 then t.drop 1 else t)).2.1.length)
  else none

theorem dtext_cut (b : Bool) (n : Nat) (whole part : List UInt8) (hb : b = true → n ≠ 0) (hp : pad part.length (digs n) = whole ++ part) :
    dtext (sval b n) part.length = (if b then [45] else []) ++ (whole ++ (if part.length = 0 then [] else 46 :: part)) := by
  unfold dtext
  rw [sval_natAbs]
  have hs : (if sval b n < 0 then [45] else []) = (if b then [45] else ([] : List UInt8)) := by
    cases b
    · rw [if_neg (by simp [sval]), if_neg (by decide)]
    · have := hb rfl
      rw [if_pos (by simp [sval]; omega), if_pos rfl]
  rw [hs]
  congr 1
  by_cases h0 : part.length = 0
  · have hnil := List.eq_nil_of_length_eq_zero h0
    rw [if_pos h0, if_pos h0]
    rw [h0] at hp
    rw [hp, hnil]
  · rw [if_neg h0, if_neg h0, hp]
    have e : (whole ++ part).length - part.length = whole.length := by simp
    rw [e, List.take_left, List.drop_left]

theorem PR_back (t : List UInt8) (b : Bool) (n s : Nat) (h : PR t = some (b, n, s)) (hf : fits (sval b n) = true) : s ≤ 6 ∧ dtext (sval b n) s = t := by
  unfold PR at h
  generalize hrest : (if t.head? = some 45 then t.drop 1 else t) = rest at h
  obtain ⟨hb1, hb2⟩ := cutPt_back rest
  generalize (cutPt rest).1 = whole at *
  generalize (cutPt rest).2.1 = part at *
  generalize (cutPt rest).2.2 = pointed at *
  by_cases h1 : (rightW whole && (!pointed || rightP part)) = true
  · rw [if_pos h1] at h
    by_cases h2 : (tellF (whole ++ part) 0 0).2 < (whole ++ part).length ∨ (t.head? = some 45 ∧ (tellF (whole ++ part) 0 0).1 = 0)
    · rw [if_pos h2] at h; exact absurd h (by simp)
    · rw [if_neg h2] at h
      obtain ⟨e1, e2, e3⟩ : decide (t.head? = some 45) = b ∧ (tellF (whole ++ part) 0 0).1 = n ∧ part.length = s := by simpa using h
      have hall : ∀ c ∈ whole ++ part, isDig c := by
        obtain ⟨k1, k2⟩ := tell_all (whole ++ part) 0 0
        exact k2 (by omega)
      have ht := tell_digits (whole ++ part) 0 0 hall
      rw [show min 0 18446744073709551615 = 0 by decide] at ht
      have hn : n = min (valF (whole ++ part) 0) 18446744073709551615 := by rw [← e2, ht]
      have hfit := (fits_iff _).1 hf
      have hn2 : n = valF (whole ++ part) 0 := by
        cases b <;> simp [sval] at hfit <;> omega
      obtain ⟨hw, hpt⟩ := Bool.and_eq_true_iff.1 h1
      unfold rightW at hw
      obtain ⟨hw1, hw2⟩ := Bool.and_eq_true_iff.1 hw
      have hwn : whole ≠ [] := by rintro rfl; simp at hw1
      have hw3 : whole = [48] ∨ whole.head? ≠ some 48 := by
        rcases Bool.or_eq_true_iff.1 hw2 with k | k
        · exact Or.inl (eq_of_beq k)
        · right
          intro e
          rw [e] at k
          simp at k
      have hp := pad_back whole part hwn hw3 hall
      rw [← hn2] at hp
      have hb : b = true → n ≠ 0 := by
        rintro rfl h0
        exact h2 (Or.inr ⟨by simpa using e1, by rw [e2]; exact h0⟩)
      have hd := dtext_cut b n whole part hb hp
      rw [e3] at hd
      have hpl : (if s = 0 then [] else 46 :: part) = (if pointed then 46 :: part else ([] : List UInt8)) := by
        cases pointed
        · have := hb2 rfl
          subst this
          simp at e3
          subst e3
          rfl
        · simp at hpt
          unfold rightP at hpt
          have : part ≠ [] := by rintro rfl; simp at hpt
          have : s ≠ 0 := by
            rw [← e3]
            intro h0
            exact this (List.eq_nil_of_length_eq_zero h0)
          rw [if_neg this]; rfl
      have hs6 : s ≤ 6 := by
        cases pointed
        · have := hb2 rfl
          subst this
          simp at e3
          omega
        · simp at hpt
          unfold rightP at hpt
          simp at hpt
          omega
      refine ⟨hs6, ?_⟩
      rw [hd, hpl, ← hb1, ← hrest]
      by_cases hh : t.head? = some 45
      · have eb : b = true := by rw [← e1]; simp [hh]
        rw [eb, if_pos rfl, if_pos hh]
        match t, hh with
        | c :: t', hh =>
          have : c = 45 := by simpa using hh
          subst this; rfl
      · have eb : b = false := by rw [← e1]; simp [hh]
        rw [eb, if_neg hh]; rfl
  · rw [if_neg h1] at h; exact absurd h (by simp)

end Go.Proofs.YtgapmofhnjfdiaaGreatDoor
