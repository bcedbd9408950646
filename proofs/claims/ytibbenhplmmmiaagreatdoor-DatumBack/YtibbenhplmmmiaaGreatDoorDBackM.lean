/-
  Texts of decimals there and back, as lists of bytes: what is printed is read as it was, what is read is printed as it was. Nothing of the program is in it.
-/
import Derived.Test.YtibbenhplmmmiaaGreatDoorDText3
import Derived.Test.YtibbenhplmmmiaaGreatDoorMrDText7
import Derived.Test.YtibbenhplmmmiaaGreatDoorDCutM
namespace Go.Proofs.YtibbenhplmmmiaaGreatDoor

/-- A digit. -/
def isDig (c : UInt8) : Prop := 48 ≤ c.toNat ∧ c.toNat ≤ 57
/-- The number of digits, with n ahead of them. -/
def valF : List UInt8 → Nat → Nat
  | [], n => n
  | c :: l, n => valF l (n * 10 + (c.toNat - 48))
theorem valF_cons (c : UInt8) (l : List UInt8) (n : Nat) : valF (c :: l) n = valF l (n * 10 + (c.toNat - 48)) := rfl
theorem valF_app (a b : List UInt8) : ∀ n, valF (a ++ b) n = valF b (valF a n) := by
  induction a with
  | nil => intro n; rfl
  | cons c a ih => intro n; exact ih _

theorem sat_next (v : Nat) (c : UInt8) : nextN (min v 18446744073709551615) c = min (v * 10 + (c.toNat - 48)) 18446744073709551615 := by
  unfold nextN
  split <;> omega
theorem tell_digits (l : List UInt8) : ∀ v i, (∀ c ∈ l, isDig c) → tellF l (min v 18446744073709551615) i = (min (valF l v) 18446744073709551615, i + l.length) := by
  induction l with
  | nil => intro v i _; rfl
  | cons c l ih =>
    intro v i h
    have hc := h c (by simp)
    unfold tellF
    rw [if_neg (by unfold isDig at hc; omega), sat_next, ih _ _ (fun d hd => h d (by simp [hd]))]
    rw [valF_cons, List.length_cons, show i + 1 + l.length = i + (l.length + 1) by omega]
theorem valF_lt (l : List UInt8) : ∀ n, (∀ c ∈ l, isDig c) → valF l n < (n + 1) * 10 ^ l.length := by
  induction l with
  | nil => intro n _; simp [valF]
  | cons c l ih =>
    intro n h
    have hc := h c (by simp)
    unfold isDig at hc
    have h1 := ih (n * 10 + (c.toNat - 48)) (fun d hd => h d (by simp [hd]))
    unfold valF
    have h2 : (n * 10 + (c.toNat - 48) + 1) * 10 ^ l.length ≤ (n * 10 + 10) * 10 ^ l.length := Nat.mul_le_mul_right _ (by omega)
    have h3 : (n + 1) * 10 ^ (c :: l).length = (n * 10 + 10) * 10 ^ l.length := by rw [List.length_cons, Nat.pow_succ]; grind
    omega
theorem digs_ge (k : Nat) : ∀ x, 10 ^ k ≤ x → k + 1 ≤ (digs x).length := by
  induction k with
  | zero => intro x _; exact digs_pos x
  | succ k ih =>
    intro x h
    have hp : 0 < 10 ^ k := Nat.pow_pos (by decide)
    rw [Nat.pow_succ] at h
    have hx : ¬ x < 10 := by omega
    rw [digs_big x hx, List.length_append]
    have := ih (x / 10) (by omega)
    simp
    omega

/-- The digits of a number, and their number. -/
theorem digsN_dig (n : Nat) : ∀ x, ∀ c ∈ digsN n x, isDig c := by
  induction n with
  | zero => intro x c h; simp [digsN] at h
  | succ n ih =>
    intro x c h
    unfold digsN at h
    rcases List.mem_append.1 h with h | h
    · exact ih _ c h
    · have : c = UInt8.ofNat (48 + x % 10) := by simpa using h
      subst this
      unfold isDig
      rw [UInt8.toNat_ofNat']
      omega
theorem valF_digsN (n : Nat) : ∀ x, x < 10 ^ n → valF (digsN n x) 0 = x := by
  induction n with
  | zero => intro x h; simp at h; subst h; rfl
  | succ n ih =>
    intro x h
    unfold digsN
    rw [valF_app, ih (x / 10) (by rw [Nat.pow_succ] at h; omega)]
    unfold valF
    unfold valF
    rw [UInt8.toNat_ofNat']
    omega
theorem digs_lt (x : Nat) : x < 10 ^ (digs x).length := by
  have h := digs_digsN x
  have h1 := valF_lt (digs x) 0 (by rw [h]; exact digsN_dig _ _)
  rcases Nat.lt_or_ge x (10 ^ (digs x).length) with k | k
  · exact k
  · exfalso
    have := digs_ge _ _ k
    omega
theorem val_pad (s x : Nat) : valF (pad s (digs x)) 0 = x := by
  rw [pad_digs]
  exact valF_digsN _ _ (Nat.lt_of_lt_of_le (digs_lt x) (Nat.pow_le_pow_right (by decide) (Nat.le_max_right _ _)))
theorem pad_dig (s x : Nat) : ∀ c ∈ pad s (digs x), isDig c := by rw [pad_digs]; exact digsN_dig _ _

/-- What a text is read as: the sign, the digits' number, the scale. -/
def PR (t : List UInt8) : Option (Bool × Nat × Nat) :=
  if rightW (cutPt (if t.head? = some 45 then t.drop 1 else t)).1 && (!(cutPt (if t.head? = some 45 then t.drop 1 else t)).2.2 || rightP (cutPt (if t.head? = some 45 then t.drop 1 else t)).2.1) then
    if (tellF ((cutPt (if t.head? = some 45 then t.drop 1 else t)).1 ++ (cutPt (if t.head? = some 45 then t.drop 1 else t)).2.1) 0 0).2 < ((cutPt (if t.head? = some 45 then t.drop 1 else t)).1 ++ (cutPt (if t.head? = some 45 then t.drop 1 else t)).2.1).length
      ∨ (t.head? = some 45 ∧ (tellF ((cutPt (if t.head? = some 45 then t.drop 1 else t)).1 ++ (cutPt (if t.head? = some 45 then t.drop 1 else t)).2.1) 0 0).1 = 0) then none
    else some (decide (t.head? = some 45), (tellF ((cutPt (if t.head? = some 45 then t.drop 1 else t)).1 ++ (cutPt (if t.head? = some 45 then t.drop 1 else t)).2.1) 0 0).1, (cutPt (if t.head? = some 45 then t.drop 1 else t)).2.1.length)
  else none

theorem dtext_cut (b : Bool) (n : Nat) (whole part : List UInt8) (hb : b = true → n ≠ 0) (hp : pad part.length (digs n) = whole ++ part) :
    dtext (sval b n) part.length = (if b then [45] else []) ++ (whole ++ (if part.length = 0 then [] else 46 :: part)) := by
  unfold dtext
  rw [sval_natAbs]
  have hs : (if sval b n < 0 then [45] else []) = (if b then [45] else ([] : List UInt8)) := by
    cases b
    · rw [if_neg (by simp [sval]), if_neg (by decide)]
    · have := hb rfl
      rw [if_pos (by simp [sval]; omega), if_pos rfl]
  rw [hs]
  congr 1
  by_cases h0 : part.length = 0
  · have hnil := List.eq_nil_of_length_eq_zero h0
    rw [if_pos h0, if_pos h0]
    rw [h0] at hp
    rw [hp, hnil]
  · rw [if_neg h0, if_neg h0, hp]
    have e : (whole ++ part).length - part.length = whole.length := by simp
    rw [e, List.take_left, List.drop_left]

theorem PR_there (u : Int) (s : Nat) (hs : s ≤ 6) (u0 : -9223372036854775808 ≤ u) (u1 : u ≤ 9223372036854775807) : PR (dtext u s) = some (decide (u < 0), u.natAbs, s) := by
  have hD := pad_dig s u.natAbs
  have hV := val_pad s u.natAbs
  have hLen := pad_len s (digs u.natAbs)
  -- its whole part and the rest
  obtain ⟨whole, part, hwp, hpl, hwl⟩ : ∃ whole part, pad s (digs u.natAbs) = whole ++ part ∧ part.length = s ∧ 1 ≤ whole.length := by
    refine ⟨(pad s (digs u.natAbs)).take ((pad s (digs u.natAbs)).length - s), (pad s (digs u.natAbs)).drop ((pad s (digs u.natAbs)).length - s), (List.take_append_drop _ _).symm, ?_, ?_⟩
    · rw [List.length_drop]; omega
    · rw [List.length_take]; omega
  have hne : whole ≠ [] := by rintro rfl; simp at hwl
  have hw3 : whole = [48] ∨ whole.head? ≠ some 48 := by
    by_cases hc : (digs u.natAbs).length ≤ s
    · left
      have e : pad s (digs u.natAbs) = 48 :: (List.replicate (s - (digs u.natAbs).length) 48 ++ digs u.natAbs) := by
        unfold pad
        rw [show s + 1 - (digs u.natAbs).length = (s - (digs u.natAbs).length) + 1 by omega, List.replicate_succ]; rfl
      have hl1 : whole.length = 1 := by
        have := congrArg List.length hwp
        rw [hLen, List.length_append] at this
        omega
      match whole, hl1 with
      | [c], _ =>
        rw [e] at hwp
        have : (48 : UInt8) = c := (List.cons.inj hwp).1
        rw [this]
    · have e : pad s (digs u.natAbs) = digs u.natAbs := pad_done s _ (by omega)
      rw [e] at hwp
      by_cases hz : u.natAbs < 10
      · rw [digs_small _ hz] at hwp hc
        simp at hc
        subst hc
        have hp0 : part = [] := List.eq_nil_of_length_eq_zero hpl
        subst hp0
        rw [List.append_nil] at hwp
        by_cases h0 : u.natAbs = 0
        · left; rw [← hwp, h0]; rfl
        · right
          rw [← hwp]
          simp
          intro e
          have := congrArg UInt8.toNat e
          rw [UInt8.toNat_ofNat'] at this
          simp at this
          omega
      · right
        intro hh
        match whole, hh with
        | c :: w', hh =>
          have hc48 : c = 48 := by simpa using hh
          subst hc48
          have hv : valF (48 :: (w' ++ part)) 0 = u.natAbs := by
            have := digs_digsN u.natAbs
            rw [← List.cons_append, ← hwp]
            have := val_pad 0 u.natAbs
            rw [pad_done 0 _ (digs_pos _)] at this
            exact this
          have hlt := valF_lt (w' ++ part) 0 (fun c hc => hD c (by rw [e, hwp]; simp at hc ⊢; exact Or.inr hc))
          have hv2 : valF (w' ++ part) 0 = u.natAbs := by
            rw [valF_cons] at hv
            exact hv
          have hll : (digs u.natAbs).length = (w' ++ part).length + 1 := by rw [hwp]; simp
          have h9 := digs_len
          have : (digs u.natAbs).length ≤ (w' ++ part).length := by
            have hpos : 1 ≤ (w' ++ part).length := by
              rcases Nat.eq_zero_or_pos (w' ++ part).length with k | k
              · rw [k] at hlt
                simp at hlt
                omega
              · exact k
            obtain ⟨k, hk⟩ : ∃ k, (w' ++ part).length = k + 1 := ⟨(w' ++ part).length - 1, by omega⟩
            rw [hk]
            refine digs_len k _ ?_
            rw [← hk, ← hv2]
            simpa using hlt
          omega
  have hall : ∀ c ∈ whole ++ part, isDig c := by rw [← hwp]; exact hD
  have h46 : ∀ c ∈ whole, c ≠ 46 := by
    intro c hc e
    have := hall c (by simp [hc])
    subst e
    unfold isDig at this
    exact absurd this.1 (by decide)
  have ht := tell_digits (whole ++ part) 0 0 hall
  rw [show min 0 18446744073709551615 = 0 by decide, ← hwp, hV] at ht
  have hmin : min u.natAbs 18446744073709551615 = u.natAbs := by omega
  rw [hmin, Nat.zero_add, hwp] at ht
  -- the text
  have hb : decide (u < 0) = true → u.natAbs ≠ 0 := by simp; omega
  have hT := dtext_cut (decide (u < 0)) u.natAbs whole part hb (by rw [hpl]; exact hwp)
  rw [sval_of, hpl] at hT
  have hhead : (whole ++ (if s = 0 then [] else 46 :: part)).head? ≠ some 45 := by
    match whole, hne, hall with
    | c :: w', _, hall =>
      have h := hall c (by simp)
      unfold isDig at h
      intro e
      have e2 : c = 45 := by simpa using e
      rw [e2] at h
      exact absurd h.1 (by decide)
  have hcut : cutPt (whole ++ (if s = 0 then [] else 46 :: part)) = (whole, part, decide (s ≠ 0)) := by
    by_cases h0 : s = 0
    · subst h0
      have hp0 : part = [] := List.eq_nil_of_length_eq_zero hpl
      subst hp0
      rw [if_pos rfl, List.append_nil, cutPt_none _ h46]; rfl
    · rw [if_neg h0, cutPt_some _ _ h46]; simp [h0]
  have hrW : rightW whole = true := by
    unfold rightW
    have : whole.isEmpty = false := by
      match whole, hne with
      | _ :: _, _ => rfl
    rw [this]
    rcases hw3 with k | k
    · rw [k]; rfl
    · simp [k]
  have hrP : (!decide (s ≠ 0) || rightP part) = true := by
    by_cases h0 : s = 0
    · simp [h0]
    · have : part.isEmpty = false := by
        cases part
        · simp at hpl; omega
        · rfl
      unfold rightP
      rw [this, hpl]
      simp [hs]
  have key : ∀ t : List UInt8, (if t.head? = some 45 then t.drop 1 else t) = whole ++ (if s = 0 then [] else 46 :: part) → decide (t.head? = some 45) = decide (u < 0) → PR t = some (decide (u < 0), u.natAbs, s) := by
    intro t h1 h2
    unfold PR
    rw [h1, hcut]
    show (if (rightW whole && (!decide (s ≠ 0) || rightP part)) = true then if (tellF (whole ++ part) 0 0).2 < (whole ++ part).length ∨ (t.head? = some 45 ∧ (tellF (whole ++ part) 0 0).1 = 0) then none else some (decide (t.head? = some 45), (tellF (whole ++ part) 0 0).1, part.length) else none) = _
    rw [if_pos (by rw [hrW, hrP]; rfl), ht, if_neg, h2, hpl]
    rintro (k | ⟨k1, k2⟩)
    · exact absurd k (Nat.lt_irrefl _)
    · have : decide (u < 0) = true := by rw [← h2]; simp [k1]
      exact hb this k2
  rw [hT]
  by_cases hu : u < 0
  · have e : decide (u < 0) = true := by simp [hu]
    refine key _ ?_ ?_
    · rw [e, if_pos rfl]; rfl
    · rw [e, if_pos rfl]; rfl
  · have e : decide (u < 0) = false := by simp [hu]
    have e0 : (if decide (u < 0) = true then [45] else ([] : List UInt8)) = [] := by rw [e]; rfl
    rw [e0, List.nil_append]
    refine key _ ?_ ?_
    · rw [if_neg hhead]
    · rw [e]; exact decide_eq_false hhead
end Go.Proofs.YtibbenhplmmmiaaGreatDoor
