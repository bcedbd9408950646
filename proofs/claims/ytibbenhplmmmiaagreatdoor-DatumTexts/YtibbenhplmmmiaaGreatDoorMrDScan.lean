/-
  The program's Print of a decimal that is not right: the empty text.
  The document's reading of a decimal's text, as a list of bytes; it answers as the program's does. Nothing of the program is in it.
-/
import Derived.Test.YtibbenhplmmmiaaGreatDoorDArith
import Derived.Test.YtibbenhplmmmiaaGreatDoorMnDText7
import Derived.Test.YtibbenhplmmmiaaGreatDoorDBackM
import Derived.Test.YtibbenhplmmmiaaGreatDoorDParse
namespace Go.Proofs.YtibbenhplmmmiaaGreatDoor
open Go.RowKit

end Go.Proofs.YtibbenhplmmmiaaGreatDoor

namespace Go.Proofs.YtibbenhplmmmiaaGreatDoor

/-- The signs of a text from the place i on, the sign's place f: where the point is, how many digits, their number (of the first forty). -/
def scan (f : Nat) : List UInt8 → Nat → Option Nat → Nat → Nat → Option (Option Nat × Nat × Nat)
  | [], _, pt, n, v => some (pt, n, v)
  | c :: l, i, pt, n, v =>
    if c = 46 ∧ pt = none ∧ f < i then scan f l (i + 1) (some i) n v
    else if 48 ≤ c.toNat ∧ c.toNat ≤ 57 then scan f l (i + 1) pt (n + 1) (if n + 1 ≤ 40 then v * 10 + (c.toNat - 48) else v)
    else none

theorem scan_cons (f : Nat) (c : UInt8) (l : List UInt8) (i : Nat) (pt : Option Nat) (n v : Nat) : scan f (c :: l) i pt n v = if c = 46 ∧ pt = none ∧ f < i then scan f l (i + 1) (some i) n v
    else if 48 ≤ c.toNat ∧ c.toNat ≤ 57 then scan f l (i + 1) pt (n + 1) (if n + 1 ≤ 40 then v * 10 + (c.toNat - 48) else v) else none := rfl

/-- Digits alone. -/
theorem scan_digits (f : Nat) (l : List UInt8) : ∀ i pt n v, (∀ c ∈ l, isDig c) → ∃ v', scan f l i pt n v = some (pt, n + l.length, v') ∧ (n + l.length ≤ 40 → v' = valF l v) := by
  induction l with
  | nil => intro i pt n v _; exact ⟨v, rfl, fun _ => rfl⟩
  | cons c l ih =>
    intro i pt n v h
    have hc := h c (by simp)
    unfold isDig at hc
    obtain ⟨v', h1, h2⟩ := ih (i + 1) pt (n + 1) (if n + 1 ≤ 40 then v * 10 + (c.toNat - 48) else v) (fun d hd => h d (by simp [hd]))
    refine ⟨v', ?_, ?_⟩
    · unfold scan
      have hne : c ≠ 46 := by
        intro e
        have := congrArg UInt8.toNat e
        have h46 : (46 : UInt8).toNat = 46 := rfl
        omega
      rw [if_neg (fun h => hne h.1), if_pos hc, h1, List.length_cons]
      congr 3
      omega
    · intro h3
      rw [List.length_cons] at h3
      rw [h2 (by omega), if_pos (by omega)]
      rfl
/-- With the point behind it a second one is none. -/
theorem scan_bad (f : Nat) (l : List UInt8) : ∀ i p n v, ¬ (∀ c ∈ l, isDig c) → scan f l i (some p) n v = none := by
  induction l with
  | nil => intro i p n v h; exact absurd (by simp) h
  | cons c l ih =>
    intro i p n v h
    unfold scan
    rw [if_neg (by simp)]
    by_cases hc : 48 ≤ c.toNat ∧ c.toNat ≤ 57
    · rw [if_pos hc]
      refine ih _ _ _ _ ?_
      intro h2
      refine h (fun d hd => ?_)
      rcases List.mem_cons.1 hd with rfl | hd
      · exact hc
      · exact h2 d hd
    · rw [if_neg hc]

theorem scan_app (f : Nat) (b : List UInt8) (a : List UInt8) : (∀ c ∈ a, c ≠ 46) → ∀ i n v, ((∀ c ∈ a, isDig c) → ∃ v', scan f (a ++ b) i none n v = scan f b (i + a.length) none (n + a.length) v' ∧ (n + a.length ≤ 40 → v' = valF a v)) ∧
    (¬ (∀ c ∈ a, isDig c) → scan f (a ++ b) i none n v = none) := by
  induction a with
  | nil => intro _ i n v; exact ⟨fun _ => ⟨v, rfl, fun _ => rfl⟩, fun h => absurd (by simp) h⟩
  | cons c a ih =>
    intro h46 i n v
    have hne : c ≠ 46 := h46 c (by simp)
    have ih' := ih (fun d hd => h46 d (by simp [hd])) (i + 1) (n + 1) (if n + 1 ≤ 40 then v * 10 + (c.toNat - 48) else v)
    constructor
    · intro hd
      have hc := hd c (by simp)
      obtain ⟨v', h1, h2⟩ := ih'.1 (fun d hd' => hd d (by simp [hd']))
      refine ⟨v', ?_, ?_⟩
      · show scan f (c :: (a ++ b)) i none n v = _
        rw [scan_cons, if_neg (fun h => hne h.1), if_pos (show 48 ≤ c.toNat ∧ c.toNat ≤ 57 from hc), h1, List.length_cons, show i + 1 + a.length = i + (a.length + 1) by omega, show n + 1 + a.length = n + (a.length + 1) by omega]
      · intro h3
        rw [List.length_cons] at h3
        rw [h2 (by omega), if_pos (by omega)]
        rfl
    · intro hd
      show scan f (c :: (a ++ b)) i none n v = none
      rw [scan_cons, if_neg (fun h => hne h.1)]
      by_cases hc : 48 ≤ c.toNat ∧ c.toNat ≤ 57
      · rw [if_pos hc]
        refine ih'.2 (fun h2 => hd (fun d hd' => ?_))
        rcases List.mem_cons.1 hd' with rfl | hd'
        · exact hc
        · exact h2 d hd'
      · rw [if_neg hc]
theorem cutPt_no46 (l : List UInt8) : ∀ c ∈ (cutPt l).1, c ≠ 46 := by
  induction l with
  | nil => intro c h; simp [cutPt] at h
  | cons d l ih =>
    intro c h
    unfold cutPt at h
    by_cases hd : d = 46
    · rw [if_pos hd] at h; simp at h
    · rw [if_neg hd] at h
      rcases List.mem_cons.1 h with rfl | h
      · exact hd
      · exact ih c h

/-- What the document answers. -/
def RV (t : List UInt8) (f : Nat) : Option (Option Nat × Nat × Nat) → Value
  | none => .tuple #[dv 0 0, .int .i64 21]
  | some (pt, n, v) =>
    if n = 0 ∨ pt = some (t.length - 1) ∨ 6 < (match pt with | none => 0 | some p => t.length - p - 1) ∨ ((match pt with | none => 0 | some p => t.length - p - 1) + 1 < n ∧ (t.drop f).head? = some 48) ∨ (f = 1 ∧ v = 0 ∧ n ≤ 40) then .tuple #[dv 0 0, .int .i64 21]
    else if 40 < n then .tuple #[dv 0 0, .int .i64 32]
    else dres (sval (decide (f = 1)) v) ((match pt with | none => 0 | some p => t.length - p - 1 : Nat) : Int)

/-- Both read alike. -/
theorem scan_PV (t : List UInt8) (f : Nat) (hf : f = if t.head? = some 45 then 1 else 0) : RV t f (scan f (t.drop f) f none 0 0) = PV t := by
  have hrest : (if t.head? = some 45 then t.drop 1 else t) = t.drop f := by
    rw [hf]; split <;> rfl
  have hf1 : (t.head? = some 45) ↔ f = 1 := by rw [hf]; split <;> simp_all
  have hlen : (t.drop f).length + f = t.length := by
    rw [hf]
    split
    · rename_i h
      match t, h with
      | c :: t', _ => simp
    · simp
  unfold PV PR
  rw [hrest]
  obtain ⟨hb1, hb2⟩ := cutPt_back (t.drop f)
  have h46 := cutPt_no46 (t.drop f)
  generalize hrs : t.drop f = rest at *
  generalize hw0 : (cutPt rest).1 = whole at *
  generalize (cutPt rest).2.1 = part at *
  generalize (cutPt rest).2.2 = pointed at *
  have hscan := scan_app f (if pointed then 46 :: part else []) whole h46 f 0 0
  rw [← hb1] at hscan
  have hrl : rest.length = whole.length + (if pointed then part.length + 1 else 0) := by
    have := congrArg List.length hb1
    rw [List.length_append] at this
    rw [this]
    cases pointed <;> simp
  -- digits or not
  by_cases hall : ∀ c ∈ whole ++ part, isDig c
  · have hdw : ∀ c ∈ whole, isDig c := fun c hc => hall c (by simp [hc])
    have hdp : ∀ c ∈ part, isDig c := fun c hc => hall c (by simp [hc])
    have ht := tell_digits (whole ++ part) 0 0 hall
    rw [show min 0 18446744073709551615 = 0 by decide, Nat.zero_add] at ht
    rw [ht]
    obtain ⟨v1, s1, s2⟩ := hscan.1 hdw
    rw [Nat.zero_add] at s1 s2
    -- the whole scan
    by_cases hform : pointed = true ∧ whole = []
    · -- a point at the beginning
      have e : scan f rest f none 0 0 = none := by
        rw [hb1, hform.1, hform.2]
        show scan f (46 :: part) f none 0 0 = none
        rw [scan_cons, if_neg (by simp), if_neg (by decide)]
      rw [e]
      have hrw : rightW whole = false := by rw [hform.2]; rfl
      rw [hrw]; rfl
    · obtain ⟨v2, hs, hv2⟩ : ∃ v2, scan f rest f none 0 0 = some ((if pointed then some (f + whole.length) else none), whole.length + part.length, v2) ∧ (whole.length + part.length ≤ 40 → v2 = valF (whole ++ part) 0) := by
        cases pointed
        · have hp0 := hb2 rfl
          subst hp0
          refine ⟨v1, ?_, fun h => ?_⟩
          · rw [s1]; rfl
          · rw [List.append_nil]; exact s2 (by simpa using h)
        · have hwne : whole ≠ [] := fun h => hform ⟨rfl, h⟩
          have hwl : 0 < whole.length := List.length_pos_iff.2 hwne
          obtain ⟨v2, k1, k2⟩ := scan_digits f part (f + whole.length + 1) (some (f + whole.length)) whole.length v1 hdp
          refine ⟨v2, ?_, fun h => ?_⟩
          · rw [s1]
            show scan f (46 :: part) (f + whole.length) none whole.length v1 = _
            rw [scan_cons, if_pos ⟨rfl, rfl, by omega⟩, k1]; rfl
          · rw [k2 h, valF_app, s2 (by omega)]
      rw [hs]
      have hscl : (match (if pointed then some (f + whole.length) else none) with | none => 0 | some p => t.length - p - 1) = part.length := by
        cases pointed
        · have hp0 := hb2 rfl
          subst hp0; rfl
        · show t.length - (f + whole.length) - 1 = part.length
          simp at hrl
          omega
      unfold RV
      dsimp only
      rw [hscl, hrs]
      have hN : (whole ++ part).length = whole.length + part.length := List.length_append
      have hhead : rest.head? = whole.head? ∨ whole = [] := by
        cases whole with
        | nil => exact Or.inr rfl
        | cons c w' => left; rw [hb1]; rfl
      -- the form
      by_cases hF : (rightW whole && (!pointed || rightP part)) = true
      · obtain ⟨hW, hPp⟩ := Bool.and_eq_true_iff.1 hF
        unfold rightW at hW
        obtain ⟨hW1, hW2⟩ := Bool.and_eq_true_iff.1 hW
        have hwne : whole ≠ [] := by rintro rfl; simp at hW1
        have hwl : 0 < whole.length := List.length_pos_iff.2 hwne
        have hh := hhead.resolve_right hwne
        have h48 : whole = [48] ∨ whole.head? ≠ some 48 := by
          rcases Bool.or_eq_true_iff.1 hW2 with k | k
          · exact Or.inl (eq_of_beq k)
          · right; intro e; rw [e] at k; simp at k
        have hpt : pointed = true → 0 < part.length ∧ part.length ≤ 6 := by
          rintro rfl
          have : rightP part = true := by simpa using hPp
          unfold rightP at this
          obtain ⟨a1, a2⟩ := Bool.and_eq_true_iff.1 this
          refine ⟨?_, by simpa using a2⟩
          cases part
          · simp at a1
          · simp
        have hp6 : part.length ≤ 6 := by
          cases hq : pointed
          · rw [hb2 hq]; simp
          · exact (hpt hq).2
        have hc1 : ¬ (whole.length + part.length = 0) := by omega
        have hc2 : ¬ ((if pointed then some (f + whole.length) else none) = some (t.length - 1)) := by
          cases pointed
          · simp
          · have := (hpt rfl).1
            simp at hrl
            simp
            omega
        have hc4 : ¬ (part.length + 1 < whole.length + part.length ∧ rest.head? = some 48) := by
          rintro ⟨k1, k2⟩
          rw [hh] at k2
          rcases h48 with k | k
          · have : whole.length = 1 := by rw [k]; rfl
            omega
          · exact k k2
        rw [if_pos hF]
        by_cases h40 : whole.length + part.length ≤ 40
        · have hv := hv2 h40
          have hmin : min (valF (whole ++ part) 0) 18446744073709551615 = 0 ↔ valF (whole ++ part) 0 = 0 := by omega
          by_cases hz : f = 1 ∧ v2 = 0
          · rw [if_pos (Or.inr (Or.inr (Or.inr (Or.inr ⟨hz.1, hz.2, h40⟩))))]
            rw [if_pos (Or.inr ⟨hf1.2 hz.1, by show min (valF (whole ++ part) 0) 18446744073709551615 = 0; rw [hmin, ← hv]; exact hz.2⟩)]
          · rw [if_neg, if_neg (by omega), if_neg]
            · show dres (sval (decide (f = 1)) v2) (part.length : Int) = dres (sval (decide (t.head? = some 45)) (min (valF (whole ++ part) 0) 18446744073709551615)) (part.length : Int)
              have e1 : decide (f = 1) = decide (t.head? = some 45) := by simp [hf1]
              rw [e1, hv]
              by_cases hbig : valF (whole ++ part) 0 ≤ 18446744073709551615
              · rw [Nat.min_eq_left hbig]
              · -- both are too great
                have g1 : fits (sval (decide (t.head? = some 45)) (valF (whole ++ part) 0)) = false := by
                  cases hq : fits (sval (decide (t.head? = some 45)) (valF (whole ++ part) 0))
                  · rfl
                  · have := (fits_iff _).1 hq
                    generalize decide (t.head? = some 45) = b at this
                    cases b <;> simp [sval] at this <;> omega
                have g2 : fits (sval (decide (t.head? = some 45)) (min (valF (whole ++ part) 0) 18446744073709551615)) = false := by
                  rw [Nat.min_eq_right (by omega)]
                  generalize decide (t.head? = some 45) = b
                  cases b <;> decide
                unfold dres nz fs nErr
                rw [g1, g2]
                rfl
            · rintro (k | ⟨k1, k2⟩)
              · rw [hN] at k; exact absurd k (Nat.lt_irrefl _)
              · exact hz ⟨hf1.1 k1, by rw [hv]; exact hmin.1 k2⟩
            · rintro (k | k | k | k | k)
              · exact hc1 k
              · exact hc2 k
              · omega
              · exact hc4 k
              · exact hz ⟨k.1, k.2.1⟩
        · -- more than forty digits
          have hbig : 10 ^ 40 ≤ valF (whole ++ part) 0 := by
            rcases h48 with k | k
            · rw [k] at h40; simp at h40; omega
            · match whole, hwne, k, hall, h40 with
              | c :: w', _, k, hall, h40 =>
                have hc : isDig c := hall c (by simp)
                have hne : c.toNat ≠ 48 := by
                  intro e
                  apply k
                  have : c = 48 := UInt8.toNat_inj.1 e
                  rw [this]; rfl
                unfold isDig at hc
                have h3 := valF_ge (w' ++ part) (0 * 10 + (c.toNat - 48))
                have h4 : 10 ^ (w' ++ part).length ≤ (0 * 10 + (c.toNat - 48)) * 10 ^ (w' ++ part).length := by
                  have := Nat.mul_le_mul_right (10 ^ (w' ++ part).length) (show 1 ≤ 0 * 10 + (c.toNat - 48) by omega)
                  omega
                have h5 : 10 ^ 40 ≤ 10 ^ (w' ++ part).length := Nat.pow_le_pow_right (by decide) (by rw [List.length_append]; rw [List.length_cons] at h40; omega)
                exact Nat.le_trans h5 (Nat.le_trans h4 h3)
          have hM : min (valF (whole ++ part) 0) 18446744073709551615 = 18446744073709551615 := Nat.min_eq_right (Nat.le_trans (by decide) hbig)
          rw [if_neg, if_pos (by omega), if_neg]
          · show _ = dres (sval (decide (t.head? = some 45)) (min (valF (whole ++ part) 0) 18446744073709551615)) (part.length : Int)
            rw [hM]
            generalize decide (t.head? = some 45) = b
            have g2 : fits (sval b 18446744073709551615) = false := by cases b <;> decide
            unfold dres nz fs nErr
            rw [g2]
            rfl
          · rintro (k | ⟨_, k2⟩)
            · rw [hN] at k; exact absurd k (Nat.lt_irrefl _)
            · rw [hM] at k2; exact absurd k2 (by decide)
          · rintro (k | k | k | k | k)
            · exact hc1 k
            · exact hc2 k
            · omega
            · exact hc4 k
            · omega
      · rw [if_neg hF, if_pos]
        -- the form is wrong
        by_cases hwe : whole = []
        · left
          have hp : pointed = false := by
            cases hq : pointed
            · rfl
            · exact absurd ⟨hq, hwe⟩ hform
          rw [hb2 hp, hwe]; rfl
        · have hwl : 0 < whole.length := List.length_pos_iff.2 hwe
          have hh := hhead.resolve_right hwe
          by_cases hW : rightW whole = true
          · -- the part
            have hq : pointed = true ∧ rightP part = false := by
              cases hp : pointed
              · rw [hW, hp] at hF; exact absurd rfl hF
              · refine ⟨rfl, ?_⟩
                cases hr : rightP part
                · rfl
                · rw [hW, hp, hr] at hF; exact absurd rfl hF
            obtain ⟨hp, hr⟩ := hq
            unfold rightP at hr
            by_cases hpe : part = []
            · right; left
              rw [hp, hpe] at hrl
              rw [hp]
              simp at hrl ⊢
              omega
            · right; right; left
              have : part.isEmpty = false := by
                match part, hpe with
                | _ :: _, _ => rfl
              rw [this] at hr
              simpa using hr
          · -- a needless nought
            right; right; right; left
            unfold rightW at hW
            have h1 : whole.isEmpty = false := by
              match whole, hwe with
              | _ :: _, _ => rfl
            rw [h1] at hW
            simp at hW
            refine ⟨?_, by rw [hh]; exact hW.2⟩
            have : whole.length ≠ 1 := by
              intro h
              match whole, h with
              | [c], _ =>
                have : c = 48 := by simpa using hW.2
                exact hW.1 (by rw [this])
            omega
  · -- a sign that is no digit
    have e1 : scan f rest f none 0 0 = none := by
      by_cases hdw : ∀ c ∈ whole, isDig c
      · have hdp : ¬ ∀ c ∈ part, isDig c := by
          intro h
          apply hall
          intro c hc
          rcases List.mem_append.1 hc with k | k
          · exact hdw c k
          · exact h c k
        have hpt : pointed = true := by
          cases hq : pointed
          · rw [hb2 hq] at hdp; exact absurd (by simp) hdp
          · rfl
        obtain ⟨v1, s1, _⟩ := hscan.1 hdw
        rw [s1, hpt]
        show scan f (46 :: part) _ none _ v1 = none
        rw [scan_cons]
        split
        · exact scan_bad f part _ _ _ _ hdp
        · rw [if_neg (by decide)]
      · exact hscan.2 hdw
    rw [e1]
    have hsz := tell_all (whole ++ part) 0 0
    have hlt : (tellF (whole ++ part) 0 0).2 < (whole ++ part).length := by
      rcases Nat.lt_or_ge (tellF (whole ++ part) 0 0).2 (whole ++ part).length with k | k
      · exact k
      · exact absurd (hsz.2 (by omega)) hall
    by_cases hF : (rightW whole && (!pointed || rightP part)) = true
    · rw [if_pos hF, if_pos (Or.inl hlt)]; rfl
    · rw [if_neg hF]; rfl
end Go.Proofs.YtibbenhplmmmiaaGreatDoor
