/-
  Plain facts on numbers and bytes that the walks of package codec lean on: how a number is folded, cut into groups of seven bits, and read back. Nothing of the program is in it.
  Laws on slices of bytes that the walks lean on: what a slice reads as, what becomes of it behind new memory, and append from a slice or a string onto a row that the call itself made. Nothing of the program's code is in it.
  The contracts of codec.fold, codec.unfold, codec.appendNumber, codec.Number: what each call gives, for every number.
  A scope that is entered ahead of its one label and jumps back to it: what holds at the label each time, and a measure. Nothing of the program is in it.
  Tokens of a text, with no program in it: words, signs, numbers and texts by their bytes; the tokens of a text, of a text with blanks around it, of two texts with a blank between.
  A scope with several labels: what holds at each of them whenever it is jumped to, and a measure. Nothing of the program is in it.
-/
import Derived.WalkKit
import Derived.Laws.BitsAllLaws
import Derived.WalkSmall
import Derived.WalkSpells
import Derived.Deep.AppendSrc
import Derived.Laws.IdiomStrings
import Derived.Test.YtclhmmgdhagloaaGreatDoorProg
import Derived.WalkLawsBesides
import Derived.ScopeJumps
import Derived.Tactics
namespace Go.Proofs.YtclhmmgdhagloaaGreatDoor
open Go.RowKit

/-- Bytes as cells. -/
def bv (bs : List UInt8) : List Value := bs.map fun b => Value.int .u8 (b.toNat : Int)
theorem bv_length (bs : List UInt8) : (bv bs).length = bs.length := by simp [bv]
theorem bv_append (a b : List UInt8) : bv (a ++ b) = bv a ++ bv b := by simp [bv]
theorem bv_at (bs : List UInt8) (j : Nat) (h : j < bs.length) : (bv bs)[j]? = some (Value.int .u8 (bs[j].toNat : Int)) := by simp [bv, h]

/-- The slice v owns a row of its own that begins with the bytes bs. -/
def Own (w : World) (base : Nat) (v : Value) (bs : List UInt8) : Prop := w.ownsRow base 5 1 v bs.length (bv bs)

/-! ### folds -/
/-! ### a number's bytes -/
/-! ### a number read out of bytes: its fold, how many bytes, which error -/
end Go.Proofs.YtclhmmgdhagloaaGreatDoor

namespace Go.Proofs.YtclhmmgdhagloaaGreatDoor
open Go.RowKit

section
variable {P : Program} {w : World}

end

/-- The slice '.slice ao n cap' reads as the bytes bs in the world w. -/
def Rd (w : World) (ao : Option Addr) (n cap : Nat) (bs : List UInt8) : Prop :=
  bs.length = n ∧ n ≤ cap ∧ cap ≤ maxLen ∧ (ao = none → n = 0 ∧ cap = 0) ∧
  (0 < n → ∃ b off, ao = some ⟨b, off, none⟩ ∧ ∀ i (h : i < bs.length), w.cell? ⟨b, off + i, none⟩ = some (.int .u8 (bs[i].toNat : Int)))

theorem Rd.nil (w : World) : Rd w none 0 0 [] := ⟨rfl, Nat.le_refl _, Nat.zero_le _, fun _ => ⟨rfl, rfl⟩, fun h => by omega⟩

theorem Rd.later {w w' : World} {ao : Option Addr} {n cap : Nat} {bs : List UInt8} (h : Rd w ao n cap bs) (hb : Below w.heap.size w w') : Rd w' ao n cap bs := by
  obtain ⟨h1, h2, h3, h4, h5⟩ := h
  refine ⟨h1, h2, h3, h4, fun hn => ?_⟩
  obtain ⟨b, off, hao, hc⟩ := h5 hn
  refine ⟨b, off, hao, fun i hi => ?_⟩
  have := hc i hi
  rw [hb.cell (p := ⟨b, off + i, none⟩) (World.block_lt_of_cell? w _ this)]
  exact this

/-- In a world in which the slice's own block is as it was. -/
theorem Rd.kept {w w' : World} {ao : Option Addr} {n cap : Nat} {bs : List UInt8} (h : Rd w ao n cap bs) (hb : ∀ b off, ao = some ⟨b, off, none⟩ → b < w.heap.size → w'.heap[b]? = w.heap[b]?) : Rd w' ao n cap bs := by
  obtain ⟨h1, h2, h3, h4, h5⟩ := h
  refine ⟨h1, h2, h3, h4, fun hn => ?_⟩
  obtain ⟨b, off, hao, hc⟩ := h5 hn
  refine ⟨b, off, hao, fun i hi => ?_⟩
  have := hc i hi
  rw [World.cell?_of_block (w := w) (a := ⟨b, off + i, none⟩) (hb b off hao (World.block_lt_of_cell? w _ this))]
  exact this

/-- What a row of the call's own reads as. -/
theorem Own.rd {w : World} {base : Nat} {v : Value} {bs : List UInt8} (h : Own w base v bs) :
    ∃ ao cap, v = .slice ao bs.length cap ∧ Rd w ao bs.length cap bs ∧ (ao = none ∨ ∃ g, ao = some ⟨g, 0, none⟩ ∧ base ≤ g ∧ g < w.heap.size ∧ v.ownBlock = some g) := by
  have hlt := World.ownsRow.lt h
  obtain ⟨h1, h2⟩ := h
  rcases h2 with ⟨rfl, hn⟩ | ⟨g, cap, cur, rfl, hb, hg, hnc, hcm, hcs, htake⟩
  · have : bs = [] := List.eq_nil_of_length_eq_zero hn
    subst this
    exact ⟨none, 0, rfl, Rd.nil w, .inl rfl⟩
  · refine ⟨some ⟨g, 0, none⟩, cap, rfl, ⟨rfl, hnc, hcm, (fun h => by cases h), fun _ => ⟨g, 0, rfl, fun i hi => ?_⟩⟩, .inr ⟨g, rfl, hb, (hlt g rfl).2, rfl⟩⟩
    rw [cell_of_row w g (0 + i) cur 5 (0, 0) hg]
    have e := bv_at bs i hi
    rw [← htake, List.getElem?_take] at e
    split at e
    · simpa using e
    · cases e

theorem Own.later {w w' : World} {base : Nat} {v : Value} {bs : List UInt8} (h : Own w base v bs) (hb : Below w.heap.size w w') : Own w' base v bs := by
  obtain ⟨h1, h2⟩ := h
  refine ⟨h1, ?_⟩
  rcases h2 with hn | ⟨g, cap, cur, hv, hbg, hg, rest⟩
  · exact .inl hn
  · refine .inr ⟨g, cap, cur, hv, hbg, ?_, rest⟩
    rw [hb.block g (Array.getElem?_eq_some_iff.1 hg).1]
    exact hg

theorem Own.more {w : World} {base base' : Nat} {v : Value} {bs : List UInt8} (h : Own w base v bs) (hb : base' ≤ base) : Own w base' v bs := by
  obtain ⟨h1, h2⟩ := h
  refine ⟨h1, ?_⟩
  rcases h2 with hn | ⟨g, cap, cur, hv, hbg, rest⟩
  · exact .inl hn
  · exact .inr ⟨g, cap, cur, hv, by omega, rest⟩

/-- 'string(b)'. -/
theorem run_string_of {P : Program} {w : World} {ao : Option Addr} {n cap : Nat} {bs : List UInt8} (src dst e : TypeId) (hs : P.underlying src = some (.slice e)) (he : P.underlying e = some (.int .u8)) (hd : P.underlying dst = some .string)
    (h : Rd w ao n cap bs) : (convert src dst (.slice ao n cap)).run P w = .ok (.string ⟨bs.toArray⟩) w := by
  obtain ⟨rfl, h2, h3, h4, h5⟩ := h
  cases ao with
  | none =>
    obtain ⟨hn, _⟩ := h4 rfl
    have : bs = [] := List.eq_nil_of_length_eq_zero hn
    subst this
    rw [run_convert_bytes_nil (P := P) w src e hs he _ _ dst hd]
    rfl
  | some a =>
    refine run_convert_bytes_back w src dst e a cap bs hs he hd fun j hj => ?_
    obtain ⟨b, off, hao, hc⟩ := h5 (by omega)
    obtain rfl := Option.some.inj hao
    rw [Addr.add_lit]
    exact hc j hj

end Go.Proofs.YtclhmmgdhagloaaGreatDoor

namespace Go.Proofs.YtclhmmgdhagloaaGreatDoor
open Go.RowKit

theorem Tryz.info5 : (Tryz.prog.info? 5).map (fun i => (i.zero, i.size, i.bytes)) = some (some (.int .u8 0), 1, 1) := by kernel_rfl

theorem own_of {w : World} {base n : Nat} {v : Value} {bs : List UInt8} (h : w.ownsRow base 5 1 v n (bv bs)) : Own w base v bs := by
  have e : n = bs.length := by have := h.1; rw [bv_length] at this; omega
  unfold Own
  rw [← e]
  exact h
theorem own_push {w : World} {base n : Nat} {v : Value} {bs : List UInt8} {b : UInt8} (h : w.ownsRow base 5 1 v n (bv bs ++ [Value.int .u8 (b.toNat : Int)])) : Own w base v (bs ++ [b]) :=
  own_of (bs := bs ++ [b]) (by rw [bv_append]; exact h)
theorem one_cell (k : IntKind) (n : Int) : ∀ u ∈ [Value.int k n], u.oneCell' = true := by
  intro u hu
  simp at hu
  subst hu
  rfl

end Go.Proofs.YtclhmmgdhagloaaGreatDoor

namespace Go.Proofs.YtclhmmgdhagloaaGreatDoor

end Go.Proofs.YtclhmmgdhagloaaGreatDoor

namespace Go.Proofs.YtclhmmgdhagloaaGreatDoor

def isL (c : UInt8) : Bool := (decide (97 ≤ c.toNat) && decide (c.toNat ≤ 122)) || decide (c.toNat = 95)
def isD (c : UInt8) : Bool := decide (48 ≤ c.toNat) && decide (c.toNat ≤ 57)
def isB (c : UInt8) : Bool := decide (c.toNat = 32) || (decide (c.toNat = 9) || decide (c.toNat = 10))
def isS (c : UInt8) : Bool := [40, 41, 44, 46, 59, 42, 43, 45, 47, 37, 61].contains c.toNat
def isW (c : UInt8) : Bool := isL c || isD c

def wordN : List UInt8 → Nat
  | [] => 0
  | c :: l => if isW c then wordN l + 1 else 0
def digN : List UInt8 → Nat
  | [] => 0
  | c :: l => if isD c then digN l + 1 else 0
/-- A number's bytes behind its first digit. -/
def numN : List UInt8 → Nat
  | [] => 0
  | c :: l => if isD c then numN l + 1 else if c = 46 then digN l + 1 else 0
/-- A text's bytes behind its first quote. -/
def textN : List UInt8 → Option Nat
  | [] => none
  | c :: l => if c = 39 then (match l with
      | [] => some 1
      | d :: l' => if d = 39 then (textN l').map (· + 2) else some 1)
    else (textN l).map (· + 1)

/-- The kind and the length of the token that a text begins with; kind 0: none. -/
def lxt : List UInt8 → Nat × Nat
  | [] => (0, 0)
  | c :: l =>
    if isL c then (1, wordN l + 1)
    else if isD c then (3, numN l + 1)
    else if c = 39 then (match textN l with | none => (0, 0) | some n => (3, n + 1))
    else if c = 60 then (2, if l.head? = some 62 ∨ l.head? = some 61 then 2 else 1)
    else if c = 62 then (2, if l.head? = some 61 then 2 else 1)
    else if isS c then (2, 1)
    else (0, 0)

theorem lxt_cons (c : UInt8) (l : List UInt8) : lxt (c :: l) =
    (if isL c then (1, wordN l + 1)
    else if isD c then (3, numN l + 1)
    else if c = 39 then (match textN l with | none => (0, 0) | some n => (3, n + 1))
    else if c = 60 then (2, if l.head? = some 62 ∨ l.head? = some 61 then 2 else 1)
    else if c = 62 then (2, if l.head? = some 61 then 2 else 1)
    else if isS c then (2, 1)
    else (0, 0)) := rfl

theorem textN_cons (c : UInt8) (l : List UInt8) (h : ¬ c = 39) : textN (c :: l) = (textN l).map (· + 1) := by
  rw [textN.eq_def]; simp only [if_neg h]
theorem textN_two (l : List UInt8) : textN (39 :: 39 :: l) = (textN l).map (· + 2) := by
  rw [textN.eq_def]; simp
theorem textN_end (d : UInt8) (l : List UInt8) (h : ¬ d = 39) : textN (39 :: d :: l) = some 1 := by
  rw [textN.eq_def]; simp [h]
theorem textN_last : textN [39] = some 1 := by
  rw [textN.eq_def]; simp

theorem wordN_le (l : List UInt8) : wordN l ≤ l.length := by
  induction l with
  | nil => simp [wordN]
  | cons c l ih => unfold wordN; split <;> simp; omega
theorem digN_le (l : List UInt8) : digN l ≤ l.length := by
  induction l with
  | nil => simp [digN]
  | cons c l ih => unfold digN; split <;> simp; omega
theorem numN_le (l : List UInt8) : numN l ≤ l.length := by
  induction l with
  | nil => simp [numN]
  | cons c l ih =>
    unfold numN; split
    · simp; omega
    · split
      · have := digN_le l; simp; omega
      · simp
theorem textN_le (l : List UInt8) : ∀ n, textN l = some n → 1 ≤ n ∧ n ≤ l.length := by
  induction h : l.length using Nat.strongRecOn generalizing l with
  | ind m ih =>
    intro n hn
    match l, h with
    | [], _ => simp [textN] at hn
    | c :: l, h =>
      by_cases hc : c = 39
      · subst hc
        match l, h with
        | [], h => rw [textN_last] at hn; simp at hn h; omega
        | d :: l, h =>
          by_cases hd : d = 39
          · subst hd
            rw [textN_two] at hn
            cases ht : textN l with
            | none => simp [ht] at hn
            | some k =>
              have := ih l.length (by simp at h; omega) l rfl k ht
              simp [ht] at hn; simp at h; omega
          · rw [textN_end _ _ hd] at hn; simp at hn h; omega
      · rw [textN_cons _ _ hc] at hn
        cases ht : textN l with
        | none => simp [ht] at hn
        | some k =>
          have := ih l.length (by simp at h; omega) l rfl k ht
          simp [ht] at hn; simp at h; omega

theorem head_len {l : List UInt8} {k : UInt8} (h : l.head? = some k) : 1 ≤ l.length := by
  match l, h with
  | _ :: _, _ => simp
theorem lxt_le (l : List UInt8) : (lxt l).2 ≤ l.length := by
  match l with
  | [] => simp [lxt]
  | c :: l =>
    have h1 := wordN_le l
    have h2 := numN_le l
    rw [lxt_cons, List.length_cons]
    split
    · omega
    split
    · omega
    split
    · split
      · omega
      · rename_i n hn; have := textN_le l n hn; omega
    split
    · show (if _ then 2 else 1) ≤ _
      split
      · rename_i h
        rcases h with h | h <;> (have := head_len h; omega)
      · omega
    split
    · show (if _ then 2 else 1) ≤ _
      split
      · rename_i h
        have := head_len h; omega
      · omega
    split
    · omega
    · omega
theorem lxt_pos (l : List UInt8) (h : (lxt l).1 ≠ 0) : 1 ≤ (lxt l).2 := by
  match l with
  | [] => simp [lxt] at h
  | c :: l =>
    rw [lxt_cons] at *
    split
    · omega
    split
    · omega
    split
    · rename_i h1 h2 h3
      rw [if_neg h1, if_neg h2, if_pos h3] at h
      split
      · rename_i hn; rw [hn] at h; exact absurd rfl h
      · omega
    split
    · show 1 ≤ (if _ then 2 else 1)
      split <;> omega
    split
    · show 1 ≤ (if _ then 2 else 1)
      split <;> omega
    split
    · omega
    · rename_i h1 h2 h3 h4 h5 h6
      rw [if_neg h1, if_neg h2, if_neg h3, if_neg h4, if_neg h5, if_neg h6] at h
      exact absurd rfl h

/-- A token: its kind, its bytes, its value, its place. -/
structure Tk (V : Type) where
  k : Nat
  t : List UInt8
  v : V
  a : Nat

/-- The token that a text begins with. -/
def tok {V : Type} (z : V) (f : List UInt8 → Option V) (l : List UInt8) (i : Nat) : Option (Tk V) :=
  if (lxt l).1 = 0 then none
  else if (lxt l).1 = 1 then (if (lxt l).2 ≤ 32 then some ⟨1, l.take (lxt l).2, z, i⟩ else none)
  else if (lxt l).1 = 3 then (match f (l.take (lxt l).2) with | none => none | some v => some ⟨3, l.take (lxt l).2, v, i⟩)
  else some ⟨(lxt l).1, l.take (lxt l).2, z, i⟩

theorem tok_len {V : Type} {z : V} {f : List UInt8 → Option V} {l : List UInt8} {i : Nat} {x : Tk V} (h : tok z f l i = some x) : x.t = l.take (lxt l).2 ∧ x.t.length = (lxt l).2 ∧ 1 ≤ (lxt l).2 ∧ x.a = i ∧ x.k = (lxt l).1 := by
  have h1 := lxt_le l
  unfold tok at h
  split at h
  · cases h
  rename_i h0
  have h2 := lxt_pos l h0
  split at h
  · split at h
    · cases h; exact ⟨rfl, by simp; omega, h2, rfl, by simp; omega⟩
    · cases h
  split at h
  · split at h
    · cases h
    · cases h; exact ⟨rfl, by simp; omega, h2, rfl, by simp; omega⟩
  · cases h; exact ⟨rfl, by simp; omega, h2, rfl, rfl⟩

/-- The tokens of a text that begins at a place. -/
def toks {V : Type} (z : V) (f : List UInt8 → Option V) : Nat → List UInt8 → Nat → Option (List (Tk V))
  | _, [], _ => some []
  | 0, _ :: _, _ => none
  | n + 1, c :: l, i => if isB c then toks z f n l (i + 1)
    else match tok z f (c :: l) i with
      | none => none
      | some x => (toks z f n ((c :: l).drop x.t.length) (i + x.t.length)).map (x :: ·)

section
variable {V : Type} {z : V} {f : List UInt8 → Option V}
theorem toks_nil (n i : Nat) : toks z f n [] i = some [] := by
  cases n <;> rfl
theorem toks_cons (n : Nat) (c : UInt8) (l : List UInt8) (i : Nat) : toks z f (n + 1) (c :: l) i = if isB c then toks z f n l (i + 1)
    else match tok z f (c :: l) i with
      | none => none
      | some x => (toks z f n ((c :: l).drop x.t.length) (i + x.t.length)).map (x :: ·) := rfl

/-- More fuel than bytes changes nothing. -/
theorem toks_fuel : ∀ (n m : Nat) (l : List UInt8) (i : Nat), l.length ≤ n → l.length ≤ m → toks z f n l i = toks z f m l i := by
  intro n
  induction n with
  | zero =>
    intro m l i hn hm
    match l, hn with
    | [], _ => rw [toks_nil, toks_nil]
  | succ n ih =>
    intro m l i hn hm
    match l, m, hn, hm with
    | [], m, _, _ => rw [toks_nil, toks_nil]
    | c :: l, m + 1, hn, hm =>
      rw [toks_cons, toks_cons]
      simp at hn hm
      split
      · exact ih _ _ _ hn hm
      · cases hx : tok z f (c :: l) i with
        | none => rfl
        | some x =>
          simp only
          obtain ⟨_, h2, h3, _⟩ := tok_len hx
          rw [ih m _ _ (by simp; omega) (by simp; omega)]

/-- The tokens of a text. -/
def lexL (z : V) (f : List UInt8 → Option V) (l : List UInt8) (i : Nat) : Option (List (Tk V)) := toks z f l.length l i
theorem lex_nil (i : Nat) : lexL z f [] i = some [] := rfl
theorem lex_blank (c : UInt8) (l : List UInt8) (i : Nat) (h : isB c = true) : lexL z f (c :: l) i = lexL z f l (i + 1) := by
  unfold lexL
  rw [List.length_cons, toks_cons, if_pos h]
theorem lex_tok (c : UInt8) (l : List UInt8) (i : Nat) (h : isB c = false) : lexL z f (c :: l) i = match tok z f (c :: l) i with
      | none => none
      | some x => (lexL z f ((c :: l).drop x.t.length) (i + x.t.length)).map (x :: ·) := by
  unfold lexL
  rw [List.length_cons, toks_cons, if_neg (by simp [h])]
  cases hx : tok z f (c :: l) i with
  | none => rfl
  | some x =>
    simp only
    obtain ⟨_, h2, h3, _⟩ := tok_len hx
    rw [toks_fuel _ _ _ _ (by simp; omega) (Nat.le_refl _)]
end

theorem isB_L {c : UInt8} (h : isB c = true) : isL c = false ∧ isD c = false ∧ c ≠ 39 ∧ c ≠ 46 ∧ c ≠ 60 ∧ c ≠ 61 ∧ c ≠ 62 := by
  have n39 : ∀ k : UInt8, c = k → c.toNat = k.toNat := fun k h => by rw [h]
  unfold isB at h
  unfold isL isD
  simp at h
  refine ⟨by simp; omega, by simp; omega, ?_, ?_, ?_, ?_, ?_⟩ <;> (intro he; have := n39 _ he; simp at this; omega)

section
variable {V : Type} {z : V} {f : List UInt8 → Option V}
end
/-- How many blanks a text begins with. -/
def blankN : List UInt8 → Nat
  | [] => 0
  | c :: l => if isB c then blankN l + 1 else 0
theorem blankN_le (l : List UInt8) : blankN l ≤ l.length := by
  induction l with
  | nil => simp [blankN]
  | cons c l ih => unfold blankN; split <;> simp; omega

theorem blankN_drop (l : List UInt8) : blankN (l.drop (blankN l)) = 0 := by
  induction l with
  | nil => rfl
  | cons c l ih =>
    by_cases h : isB c = true
    · rw [blankN, if_pos h, List.drop_succ_cons]; exact ih
    · rw [show blankN (c :: l) = 0 by rw [blankN, if_neg h], List.drop_zero, blankN, if_neg h]
section
variable {V : Type} {z : V} {f : List UInt8 → Option V}
/-- Blanks ahead are passed. -/
theorem lex_pass (l : List UInt8) : ∀ i, lexL z f l i = lexL z f (l.drop (blankN l)) (i + blankN l) := by
  induction l with
  | nil => intro i; rfl
  | cons c l ih =>
    intro i
    by_cases h : isB c = true
    · rw [lex_blank _ _ _ h, ih, blankN, if_pos h, List.drop_succ_cons, show i + 1 + blankN l = i + (blankN l + 1) by omega]
    · rw [show blankN (c :: l) = 0 by rw [blankN, if_neg h]]; rfl
/-- No blank ahead: a token. -/
theorem lex_here (l : List UInt8) (i : Nat) (h : blankN l = 0) (hl : l ≠ []) : lexL z f l i = match tok z f l i with
      | none => none
      | some x => (lexL z f (l.drop x.t.length) (i + x.t.length)).map (x :: ·) := by
  match l, hl with
  | c :: l, _ =>
    refine lex_tok c l i ?_
    cases hc : isB c with
    | false => rfl
    | true => rw [blankN, if_pos hc] at h; omega
/-- The first token. -/
theorem lex_first {l : List UInt8} {i : Nat} {t : Tk V} {x : List (Tk V)} (h : lexL z f l i = some (t :: x)) :
    tok z f (l.drop (blankN l)) (i + blankN l) = some t ∧ t.a = i + blankN l ∧ 1 ≤ t.t.length ∧ blankN l + t.t.length ≤ l.length ∧ t.t = (l.drop (blankN l)).take t.t.length ∧
      lexL z f (l.drop (blankN l + t.t.length)) (i + blankN l + t.t.length) = some x := by
  rw [lex_pass] at h
  by_cases hl : l.drop (blankN l) = []
  · rw [hl] at h; cases h
  · rw [lex_here _ _ (blankN_drop l) hl] at h
    cases hx : tok z f (l.drop (blankN l)) (i + blankN l) with
    | none => rw [hx] at h; cases h
    | some y =>
      rw [hx] at h
      simp only at h
      cases hq : lexL z f ((l.drop (blankN l)).drop y.t.length) (i + blankN l + y.t.length) with
      | none => rw [hq] at h; cases h
      | some q =>
        rw [hq] at h
        simp at h
        obtain ⟨rfl, rfl⟩ := h
        obtain ⟨h1, h2, h3, h4, _⟩ := tok_len hx
        have h5 := lxt_le (l.drop (blankN l))
        rw [List.length_drop] at h5
        refine ⟨rfl, h4, by omega, by omega, by rw [h2]; exact h1, ?_⟩
        rw [List.drop_drop] at hq
        exact hq
end
end Go.Proofs.YtclhmmgdhagloaaGreatDoor

namespace Go.Proofs.YtclhmmgdhagloaaGreatDoor

/-- As Q; by a goto: what J says of its label. -/
def jumpsTo (J : Nat → Act → World → Prop) (Q : Exit → Act → World → Prop) : Exit → Act → World → Prop
  | .goto l, a, w => J l a w
  | e, a, w => Q e a w

theorem wp_scope_multi {P : Program} {a : Act} {w : World} {Q : Exit → Act → World → Prop} {c : Code} (J : Nat → Act → World → Prop) (μ : Nat → Act → World → Nat)
    (first : c.wp P (jumpsTo J Q) a w)
    (pass : ∀ l a w, J l a w → ∃ rest, findLabel c l = some rest ∧ rest.wp P (jumpsTo (fun l' a' w' => J l' a' w' ∧ μ l' a' w' < μ l a w) Q) a w) : (Code.scope c).wp P Q a w := by
  intro b k cs
  have key : ∀ n l a w, μ l a w = n → J l a w → ∃ rest, findLabel c l = some rest ∧ ∃ e a' w', Q e a' w' ∧ Arrives P (lone (b.at a (.code rest :: .inScope c :: k)) cs w) b k cs e a' w' := by
    intro n
    induction n using Nat.strongRecOn with
    | _ n ih =>
      intro l a w hn hJ
      obtain ⟨rest, hf, hp⟩ := pass l a w hJ
      refine ⟨rest, hf, ?_⟩
      obtain ⟨e, a₁, w₁, hq, harr⟩ := hp b (.inScope c :: k) cs
      cases e with
      | normal => exact ⟨.normal, a₁, w₁, hq, Steps.trans harr (.one step_inScope)⟩
      | exit id => exact ⟨.exit id, a₁, w₁, hq, fun k' hk => harr k' (by simp [exitTo, hk])⟩
      | goto l' =>
        obtain ⟨hJ', hlt⟩ := hq
        obtain ⟨rest', hf', e₂, a₂, w₂, hq₂, harr₂⟩ := ih _ (by omega) l' a₁ w₁ rfl hJ'
        have hg : gotoIn l' (.inScope c :: k) = some (.code rest' :: .inScope c :: k) := by simp [gotoIn, hf']
        exact ⟨e₂, a₂, w₂, hq₂, .of_steps (harr _ hg) harr₂⟩
      | ret => exact ⟨_, a₁, w₁, hq, harr⟩
      | panic ch => exact ⟨_, a₁, w₁, hq, harr⟩
      | outgrown => exact ⟨_, a₁, w₁, hq, harr⟩
  obtain ⟨e, a₁, w₁, hq, harr⟩ := first b (.inScope c :: k) cs
  cases e with
  | normal => exact ⟨.normal, a₁, w₁, hq, .head step_scope (Steps.trans harr (.one step_inScope))⟩
  | exit id => exact ⟨.exit id, a₁, w₁, hq, fun k' hk => .head step_scope (harr k' (by simp [exitTo, hk]))⟩
  | goto l' =>
    obtain ⟨rest', hf', e₂, a₂, w₂, hq₂, harr₂⟩ := key _ l' a₁ w₁ rfl hq
    have hg : gotoIn l' (.inScope c :: k) = some (.code rest' :: .inScope c :: k) := by simp [gotoIn, hf']
    exact ⟨e₂, a₂, w₂, hq₂, .of_steps (.head step_scope (harr _ hg)) harr₂⟩
  | ret => exact ⟨_, a₁, w₁, hq, .of_steps (.one step_scope) harr⟩
  | panic ch => exact ⟨_, a₁, w₁, hq, .of_steps (.one step_scope) harr⟩
  | outgrown => exact ⟨_, a₁, w₁, hq, .of_steps (.one step_scope) harr⟩
end Go.Proofs.YtclhmmgdhagloaaGreatDoor
