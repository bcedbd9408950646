/-
  Of no walk: bytes that are records, one behind the other, what they tell, and what is left of them behind a crash.
-/
import Derived.Test.YtonjjbmjholkjaaGreatDoorWlFp
import Derived.Test.YtonjjbmjholkjaaGreatDoorWlA
import Derived.Test.YtonjjbmjholkjaaGreatDoorDkCr
namespace Go.Proofs.YtonjjbmjholkjaaGreatDoor
open Go.RowKit

def cat (l : List (List UInt8)) : List UInt8 := l.flatMap recBytes

theorem cat_nil : cat [] = [] := rfl
theorem cat_cons (x : List UInt8) (l : List (List UInt8)) : cat (x :: l) = recBytes x ++ cat l := by simp [cat]
theorem cat_append (a b : List (List UInt8)) : cat (a ++ b) = cat a ++ cat b := by simp [cat]
theorem cat_one (x : List UInt8) : cat [x] = recBytes x := by simp [cat]

/-- Each record begins where the one before ends, has nine bytes at least, and ends within the bytes. -/
theorem rcs_prefix : ∀ (n off : Nat) (bs : List UInt8), bs.length ≤ n → ∀ (p : List It) (x : It), (p ++ [x]) <+: rcs off bs → endL off p = x.off ∧ x.off + 9 ≤ x.fin ∧ x.fin ≤ off + bs.length := by
  intro n
  induction n with
  | zero =>
    intro off bs h p x hp
    have : bs = [] := List.eq_nil_of_length_eq_zero (by omega)
    subst this
    have h0 : rcs off [] = [] := rcs_no _ _ (fun h => by have := takeR_size [] h; simp at this; omega)
    rw [h0] at hp
    have := hp.length_le
    simp at this
  | succ n ih =>
    intro off bs hn p x hp
    by_cases h : (takeR bs).2.2 = 0
    · have hs := takeR_size bs h
      rw [rcs_yes off bs h] at hp
      cases p with
      | nil =>
        obtain ⟨r, hr⟩ := hp
        simp at hr
        obtain ⟨rfl, _⟩ := hr
        exact ⟨rfl, by dsimp only; omega, by dsimp only; omega⟩
      | cons y p =>
        obtain ⟨r, hr⟩ := hp
        simp at hr
        obtain ⟨rfl, hr⟩ := hr
        rw [endL_cons]
        dsimp only
        have := ih (off + (takeR bs).2.1) (bs.drop (takeR bs).2.1) (by simp; omega) p x ⟨r, by simpa using hr⟩
        simp only [List.length_drop] at this
        omega
    · rw [rcs_no off bs h] at hp
      have := hp.length_le
      simp at this

/-- What they tell. -/
def its (off : Nat) : List (List UInt8) → List It
  | [] => []
  | x :: l => ⟨off, x, off + (recBytes x).length⟩ :: its (off + (recBytes x).length) l

theorem its_inn : ∀ (l : List (List UInt8)) (off : Nat), (its off l).map It.inn = l := by
  intro l
  induction l with
  | nil => intro off; rfl
  | cons x l ih => intro off; simp [its, ih]

theorem its_len (l : List (List UInt8)) (off : Nat) : (its off l).length = l.length := by
  have := congrArg List.length (its_inn l off)
  simpa using this

theorem endL_its : ∀ (l : List (List UInt8)) (off : Nat), endL off (its off l) = off + (cat l).length := by
  intro l
  induction l with
  | nil => intro off; simp [its, endL, cat]
  | cons x l ih => intro off; rw [its, endL_cons, ih, cat_cons, List.length_append]; dsimp only; omega

theorem rcs_nil (off : Nat) : rcs off [] = [] := by
  by_cases h : (takeR []).2.2 = 0
  · have := takeR_size [] h; simp at this; omega
  · exact rcs_no _ _ h

theorem takeR_nil : (takeR []).2.2 ≠ 0 := fun h => by have := takeR_size [] h; simp at this; omega

def Fit (l : List (List UInt8)) : Prop := ∀ x ∈ l, x.length ≤ 1048576

theorem rcs_cat : ∀ (l : List (List UInt8)), Fit l → ∀ (t : List UInt8), (takeR t).2.2 ≠ 0 → ∀ off, rcs off (cat l ++ t) = its off l := by
  intro l
  induction l with
  | nil => intro _ t ht off; exact rcs_no off _ ht
  | cons x l ih =>
    intro h t ht off
    have hx := rec_read x (cat l ++ t) (h x (by simp))
    rw [cat_cons, List.append_assoc, rcs_yes off _ (by rw [hx]), hx]
    dsimp only
    rw [List.drop_left, ih (fun y hy => h y (by simp [hy])) t ht, its]

theorem nb_le : ∀ (k f u : Nat), u < 128 ^ (k + 1) → (nb f u).length ≤ k + 1 := by
  intro k
  induction k with
  | zero => intro f u h; rw [nb_small f u (by simpa using h)]; simp
  | succ k ih =>
    intro f u h
    by_cases hs : u < 128
    · rw [nb_small _ _ hs]; simp
    · cases f with
      | zero => simp [nb]
      | succ f =>
        rw [nb_big _ _ hs, List.length_cons]
        have := ih f (u / 128) (by rw [Nat.div_lt_iff_lt_mul (by omega)]; rw [Nat.pow_succ] at h; exact h)
        omega

theorem numBytes_short (n : Nat) (hn : n ≤ 1048576) : (numBytes (n : Int)).length ≤ 4 := by
  refine nb_le 3 9 _ ?_
  have : foldN (n : Int) = 2 * n := by unfold foldN; rw [if_neg (by omega)]; omega
  rw [this]
  have : (128 : Nat) ^ (3 + 1) = 268435456 := by decide
  omega

theorem rec_len (x : List UInt8) : (recBytes x).length = (numBytes (x.length : Int)).length + (x.length + 8) := by simp [recBytes, eight_length]

/-- The last byte may be torn. -/
def tornT (t : List UInt8) (torn : Bool) : List UInt8 := if torn = true ∧ 0 < t.length then t.modify (t.length - 1) flip else t

theorem tornT_len (t : List UInt8) (torn : Bool) : (tornT t torn).length = t.length := by unfold tornT; split <;> simp

theorem tornT_no (t : List UInt8) : tornT t false = t := by simp [tornT]

theorem tornT_nil (torn : Bool) : tornT [] torn = [] := by simp [tornT]

theorem modify_last (a y : List UInt8) (hy : 0 < y.length) (f : UInt8 → UInt8) : (a ++ y).modify ((a ++ y).length - 1) f = a ++ y.modify (y.length - 1) f := by
  apply List.ext_getElem?
  intro i
  rw [List.getElem?_modify, List.length_append]
  by_cases hi : i < a.length
  · rw [List.getElem?_append_left hi, List.getElem?_append_left hi]
    have hne : ¬ (a.length + y.length - 1 = i) := by omega
    simp [hne]
  · rw [List.getElem?_append_right (by omega), List.getElem?_append_right (by omega), List.getElem?_modify]
    by_cases he : a.length + y.length - 1 = i
    · have he2 : y.length - 1 = i - a.length := by omega
      simp [he, he2]
    · have he2 : ¬ (y.length - 1 = i - a.length) := by omega
      simp [he, he2]

theorem tornT_app (a y : List UInt8) (hy : 0 < y.length) (torn : Bool) : tornT (a ++ y) torn = a ++ tornT y torn := by
  unfold tornT
  by_cases h : torn = true
  · rw [if_pos ⟨h, by simp; omega⟩, if_pos ⟨h, hy⟩, modify_last _ _ hy]
  · rw [if_neg (fun c => h c.1), if_neg (fun c => h c.1)]

theorem flip_ne (c : UInt8) : flip c ≠ c := by
  unfold flip
  intro h
  have h2 : c ^^^ (c ^^^ 85) = c ^^^ c := by rw [h]
  rw [← UInt8.xor_assoc, UInt8.xor_self, UInt8.zero_xor] at h2
  exact absurd h2 (by decide)

theorem takeR_short (t : List UInt8) (h : t.length < 9) : (takeR t).2.2 ≠ 0 := fun e => by have := takeR_size t e; omega

/-- A record that is cut, or whose last byte is torn, is none. -/
theorem rec_torn (x : List UInt8) (hx : x.length ≤ 1048576) (c : Nat) (torn : Bool) (hc : c < (recBytes x).length ∨ torn = true) : (takeR (tornT ((recBytes x).take c) torn)).2.2 ≠ 0 := by
  have hnl := numBytes_short x.length hx
  have hl := rec_len x
  have ea : recBytes x = numBytes (x.length : Int) ++ (x ++ eight (crc x)) := by simp [recBytes]
  by_cases hcl : c < (recBytes x).length
  · by_cases h : c ≤ (numBytes (x.length : Int)).length
    · refine takeR_short _ ?_
      rw [tornT_len, List.length_take]
      omega
    · obtain ⟨d, hd0, rfl⟩ : ∃ d, 0 < d ∧ c = (numBytes (x.length : Int)).length + d := ⟨c - (numBytes (x.length : Int)).length, by omega, by omega⟩
      have e1 : (recBytes x).take ((numBytes (x.length : Int)).length + d) = numBytes (x.length : Int) ++ (x ++ eight (crc x)).take d := by
        rw [ea, List.take_append, List.take_of_length_le (by omega), Nat.add_sub_cancel_left]
      have hzl : ((x ++ eight (crc x)).take d).length = d := by simp [eight_length]; omega
      rw [e1, tornT_app _ _ (by omega)]
      have hz2 := tornT_len ((x ++ eight (crc x)).take d) torn
      generalize tornT ((x ++ eight (crc x)).take d) torn = z at hz2
      have e2 := numBytes_take x.length hx z
      unfold takeR
      rw [e2]
      simp only
      rw [if_neg (by simp), if_pos (by simp; omega)]
      simp
  · obtain rfl : torn = true := hc.resolve_left hcl
    rw [List.take_of_length_le (by omega)]
    have hpos : 0 < (recBytes x).length := by omega
    have e1 : tornT (recBytes x) true = (recBytes x).set ((numBytes (x.length : Int)).length + (x.length + 7)) (flip ((recBytes x)[(recBytes x).length - 1])) := by
      unfold tornT
      rw [if_pos ⟨rfl, hpos⟩]
      apply List.ext_getElem?
      intro i
      rw [List.getElem?_modify, List.getElem?_set]
      by_cases hi : (recBytes x).length - 1 = i
      · have hi2 : (numBytes (x.length : Int)).length + (x.length + 7) = i := by omega
        rw [if_pos hi2, if_pos (by omega)]
        subst hi
        simp [show (recBytes x).length - 1 < (recBytes x).length by omega]
      · have hi2 : ¬ ((numBytes (x.length : Int)).length + (x.length + 7) = i) := by omega
        rw [if_neg hi2]
        simp [hi]
    rw [e1, rec_rot x hx (x.length + 7) (by omega) _ (fun h => ?_)]
    · simp
    · have e2 : (numBytes (x.length : Int)).length + (x.length + 7) = (recBytes x).length - 1 := by omega
      simp only [e2]
      exact flip_ne _

/-- What is there of records behind a crash: the first ones of them, and what is none. -/
theorem torn_cat : ∀ (M : List (List UInt8)), Fit M → ∀ (n : Nat) (torn : Bool), ∃ k t, k ≤ M.length ∧ tornT ((cat M).take n) torn = cat (M.take k) ++ t ∧ (takeR t).2.2 ≠ 0 := by
  intro M
  induction M with
  | nil => intro _ n torn; exact ⟨0, [], Nat.le_refl _, by simp [cat_nil, tornT_nil], takeR_nil⟩
  | cons x M ih =>
    intro h n torn
    have hx := h x (by simp)
    rw [cat_cons]
    by_cases hn : n < (recBytes x).length
    · refine ⟨0, _, Nat.zero_le _, by simp [cat_nil]; rfl, ?_⟩
      rw [List.take_append_of_le_length (by omega)]
      exact rec_torn x hx n torn (.inl hn)
    · have e1 : (recBytes x ++ cat M).take n = recBytes x ++ (cat M).take (n - (recBytes x).length) := by
        rw [List.take_append, List.take_of_length_le (by omega)]
      by_cases hy : 0 < ((cat M).take (n - (recBytes x).length)).length
      · obtain ⟨k, t, hk, he, ht⟩ := ih (fun y hy => h y (by simp [hy])) (n - (recBytes x).length) torn
        refine ⟨k + 1, t, by simp; omega, ?_, ht⟩
        rw [e1, tornT_app _ _ hy, he, List.take_succ_cons, cat_cons, List.append_assoc]
      · have hy0 : (cat M).take (n - (recBytes x).length) = [] := List.eq_nil_of_length_eq_zero (by omega)
        rw [e1, hy0, List.append_nil]
        cases torn with
        | true =>
          refine ⟨0, _, Nat.zero_le _, by simp [cat_nil]; rfl, ?_⟩
          have := rec_torn x hx (recBytes x).length true (.inr rfl)
          rwa [List.take_of_length_le (Nat.le_refl _)] at this
        | false => exact ⟨1, [], by simp, by simp [tornT_no, cat_one], takeR_nil⟩

theorem left_app (l : Lo) (A M : List UInt8) (hb : l.bytes = A ++ M) (hs : l.sure = A.length) (keep : Int) (torn : Bool) : l.left keep torn = A ++ tornT (M.take (max keep 0).toNat) torn := by
  have hk : l.stay keep = min (max keep 0).toNat M.length := by
    unfold Lo.stay
    rw [hb, hs, List.length_append]
    omega
  have ht : l.bytes.take (l.sure + l.stay keep) = A ++ M.take (max keep 0).toNat := by
    rw [hb, hs, hk, List.take_append, List.take_of_length_le (by omega), Nat.add_sub_cancel_left]
    congr 1
    rcases Nat.le_total (max keep 0).toNat M.length with q | q
    · rw [Nat.min_eq_left q]
    · rw [Nat.min_eq_right q, List.take_of_length_le (Nat.le_refl _), List.take_of_length_le q]
  have htl : (M.take (max keep 0).toNat).length = l.stay keep := by rw [hk, List.length_take]
  unfold Lo.left
  dsimp only
  rw [ht]
  by_cases hp : 0 < l.stay keep
  · unfold tornT
    by_cases c : torn = true
    · rw [if_pos ⟨c, hp⟩, if_pos ⟨c, by omega⟩, modify_last _ _ (by omega)]
    · rw [if_neg (fun q => c q.1), if_neg (fun q => c q.1)]
  · rw [if_neg (fun q => hp q.2)]
    unfold tornT
    rw [if_neg (fun q => by have := q.2; omega)]

/-- What a log of records is behind a crash. -/
theorem crash_cat (l : Lo) (S M : List (List UInt8)) (hb : l.bytes = cat S ++ cat M) (hs : l.sure = (cat S).length) (hM : Fit M) (keep : Int) (torn : Bool) :
    ∃ k t, k ≤ M.length ∧ l.left keep torn = cat (S ++ M.take k) ++ t ∧ (takeR t).2.2 ≠ 0 := by
  obtain ⟨k, t, hk, he, ht⟩ := torn_cat M hM (max keep 0).toNat torn
  exact ⟨k, t, hk, by rw [left_app l _ _ hb hs, he, cat_append, List.append_assoc], ht⟩
end Go.Proofs.YtonjjbmjholkjaaGreatDoor
