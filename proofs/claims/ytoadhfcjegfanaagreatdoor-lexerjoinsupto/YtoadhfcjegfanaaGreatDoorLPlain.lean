/-
  Tokens of a text, with no program in it: words, signs, numbers and texts by their bytes; the tokens of a text, of a text with blanks around it, of two texts with a blank between.
-/
import Derived.WalkKit
namespace Go.Proofs.YtoadhfcjegfanaaGreatDoor

def isL (c : UInt8) : Bool := (decide (97 ≤ c.toNat) && decide (c.toNat ≤ 122)) || decide (c.toNat = 95)
def isD (c : UInt8) : Bool := decide (48 ≤ c.toNat) && decide (c.toNat ≤ 57)
def isB (c : UInt8) : Bool := decide (c.toNat = 32) || (decide (c.toNat = 9) || decide (c.toNat = 10))
def isS (c : UInt8) : Bool := [40, 41, 44, 46, 59, 42, 43, 45, 47, 37, 61].contains c.toNat
def isW (c : UInt8) : Bool := isL c || isD c

def wordN : List UInt8 → Nat
  | [] => 0
  | c :: l => if isW c then wordN l + 1 else 0
def digN : List UInt8 → Nat
  | [] => 0
  | c :: l => if isD c then digN l + 1 else 0
/-- A number's bytes behind its first digit. -/
def numN : List UInt8 → Nat
  | [] => 0
  | c :: l => if isD c then numN l + 1 else if c = 46 then digN l + 1 else 0
/-- A text's bytes behind its first quote. -/
def textN : List UInt8 → Option Nat
  | [] => none
  | c :: l => if c = 39 then (match l with
      | [] => some 1
      | d :: l' => if d = 39 then (textN l').map (· + 2) else some 1)
    else (textN l).map (· + 1)

/-- The kind and the length of the token that a text begins with; kind 0: none. -/
def lxt : List UInt8 → Nat × Nat
  | [] => (0, 0)
  | c :: l =>
    if isL c then (1, wordN l + 1)
    else if isD c then (3, numN l + 1)
    else if c = 39 then (match textN l with | none => (0, 0) | some n => (3, n + 1))
    else if c = 60 then (2, if l.head? = some 62 ∨ l.head? = some 61 then 2 else 1)
    else if c = 62 then (2, if l.head? = some 61 then 2 else 1)
    else if isS c then (2, 1)
    else (0, 0)

theorem lxt_cons (c : UInt8) (l : List UInt8) : lxt (c :: l) =
    (if isL c then (1, wordN l + 1)
    else if isD c then (3, numN l + 1)
    else if c = 39 then (match textN l with | none => (0, 0) | some n => (3, n + 1))
    else if c = 60 then (2, if l.head? = some 62 ∨ l.head? = some 61 then 2 else 1)
    else if c = 62 then (2, if l.head? = some 61 then 2 else 1)
    else if isS c then (2, 1)
    else (0, 0)) := rfl

theorem textN_cons (c : UInt8) (l : List UInt8) (h : ¬ c = 39) : textN (c :: l) = (textN l).map (· + 1) := by
  rw [textN.eq_def]; simp only [if_neg h]
theorem textN_two (l : List UInt8) : textN (39 :: 39 :: l) = (textN l).map (· + 2) := by
  rw [textN.eq_def]; simp
theorem textN_end (d : UInt8) (l : List UInt8) (h : ¬ d = 39) : textN (39 :: d :: l) = some 1 := by
  rw [textN.eq_def]; simp [h]
theorem textN_last : textN [39] = some 1 := by
  rw [textN.eq_def]; simp

theorem wordN_le (l : List UInt8) : wordN l ≤ l.length := by
  induction l with
  | nil => simp [wordN]
  | cons c l ih => unfold wordN; split <;> simp; omega
theorem digN_le (l : List UInt8) : digN l ≤ l.length := by
  induction l with
  | nil => simp [digN]
  | cons c l ih => unfold digN; split <;> simp; omega
theorem numN_le (l : List UInt8) : numN l ≤ l.length := by
  induction l with
  | nil => simp [numN]
  | cons c l ih =>
    unfold numN; split
    · simp; omega
    · split
      · have := digN_le l; simp; omega
      · simp
theorem textN_le (l : List UInt8) : ∀ n, textN l = some n → 1 ≤ n ∧ n ≤ l.length := by
  induction h : l.length using Nat.strongRecOn generalizing l with
  | ind m ih =>
    intro n hn
    match l, h with
    | [], _ => simp [textN] at hn
    | c :: l, h =>
      by_cases hc : c = 39
      · subst hc
        match l, h with
        | [], h => rw [textN_last] at hn; simp at hn h; omega
        | d :: l, h =>
          by_cases hd : d = 39
          · subst hd
            rw [textN_two] at hn
            cases ht : textN l with
            | none => simp [ht] at hn
            | some k =>
              have := ih l.length (by simp at h; omega) l rfl k ht
              simp [ht] at hn; simp at h; omega
          · rw [textN_end _ _ hd] at hn; simp at hn h; omega
      · rw [textN_cons _ _ hc] at hn
        cases ht : textN l with
        | none => simp [ht] at hn
        | some k =>
          have := ih l.length (by simp at h; omega) l rfl k ht
          simp [ht] at hn; simp at h; omega

theorem head_len {l : List UInt8} {k : UInt8} (h : l.head? = some k) : 1 ≤ l.length := by
  match l, h with
  | _ :: _, _ => simp
theorem lxt_le (l : List UInt8) : (lxt l).2 ≤ l.length := by
  match l with
  | [] => simp [lxt]
  | c :: l =>
    have h1 := wordN_le l
    have h2 := numN_le l
    rw [lxt_cons, List.length_cons]
    split
    · omega
    split
    · omega
    split
    · split
      · omega
      · rename_i n hn; have := textN_le l n hn; omega
    split
    · show (if _ then 2 else 1) ≤ _
      split
      · rename_i h
        rcases h with h | h <;> (have := head_len h; omega)
      · omega
    split
    · show (if _ then 2 else 1) ≤ _
      split
      · rename_i h
        have := head_len h; omega
      · omega
    split
    · omega
    · omega
theorem lxt_pos (l : List UInt8) (h : (lxt l).1 ≠ 0) : 1 ≤ (lxt l).2 := by
  match l with
  | [] => simp [lxt] at h
  | c :: l =>
    rw [lxt_cons] at *
    split
    · omega
    split
    · omega
    split
    · rename_i h1 h2 h3
      rw [if_neg h1, if_neg h2, if_pos h3] at h
      split
      · rename_i hn; rw [hn] at h; exact absurd rfl h
      · omega
    split
    · show 1 ≤ (if _ then 2 else 1)
      split <;> omega
    split
    · show 1 ≤ (if _ then 2 else 1)
      split <;> omega
    split
    · omega
    · rename_i h1 h2 h3 h4 h5 h6
      rw [if_neg h1, if_neg h2, if_neg h3, if_neg h4, if_neg h5, if_neg h6] at h
      exact absurd rfl h

/-- A token: its kind, its bytes, its value, its place. -/
structure Tk (V : Type) where
  k : Nat
  t : List UInt8
  v : V
  a : Nat

/-- The token that a text begins with. -/
def tok {V : Type} (z : V) (f : List UInt8 → Option V) (l : List UInt8) (i : Nat) : Option (Tk V) :=
  if (lxt l).1 = 0 then none
  else if (lxt l).1 = 1 then (if (lxt l).2 ≤ 32 then some ⟨1, l.take (lxt l).2, z, i⟩ else none)
  else if (lxt l).1 = 3 then (match f (l.take (lxt l).2) with | none => none | some v => some ⟨3, l.take (lxt l).2, v, i⟩)
  else some ⟨(lxt l).1, l.take (lxt l).2, z, i⟩

theorem tok_len {V : Type} {z : V} {f : List UInt8 → Option V} {l : List UInt8} {i : Nat} {x : Tk V} (h : tok z f l i = some x) : x.t = l.take (lxt l).2 ∧ x.t.length = (lxt l).2 ∧ 1 ≤ (lxt l).2 ∧ x.a = i ∧ x.k = (lxt l).1 := by
  have h1 := lxt_le l
  unfold tok at h
  split at h
  · cases h
  rename_i h0
  have h2 := lxt_pos l h0
  split at h
  · split at h
    · cases h; exact ⟨rfl, by simp; omega, h2, rfl, by simp; omega⟩
    · cases h
  split at h
  · split at h
    · cases h
    · cases h; exact ⟨rfl, by simp; omega, h2, rfl, by simp; omega⟩
  · cases h; exact ⟨rfl, by simp; omega, h2, rfl, rfl⟩

/-- The tokens of a text that begins at a place. -/
def toks {V : Type} (z : V) (f : List UInt8 → Option V) : Nat → List UInt8 → Nat → Option (List (Tk V))
  | _, [], _ => some []
  | 0, _ :: _, _ => none
  | n + 1, c :: l, i => if isB c then toks z f n l (i + 1)
    else match tok z f (c :: l) i with
      | none => none
      | some x => (toks z f n ((c :: l).drop x.t.length) (i + x.t.length)).map (x :: ·)

section
variable {V : Type} {z : V} {f : List UInt8 → Option V}
theorem toks_nil (n i : Nat) : toks z f n [] i = some [] := by
  cases n <;> rfl
theorem toks_cons (n : Nat) (c : UInt8) (l : List UInt8) (i : Nat) : toks z f (n + 1) (c :: l) i = if isB c then toks z f n l (i + 1)
    else match tok z f (c :: l) i with
      | none => none
      | some x => (toks z f n ((c :: l).drop x.t.length) (i + x.t.length)).map (x :: ·) := rfl

/-- More fuel than bytes changes nothing. -/
theorem toks_fuel : ∀ (n m : Nat) (l : List UInt8) (i : Nat), l.length ≤ n → l.length ≤ m → toks z f n l i = toks z f m l i := by
  intro n
  induction n with
  | zero =>
    intro m l i hn hm
    match l, hn with
    | [], _ => rw [toks_nil, toks_nil]
  | succ n ih =>
    intro m l i hn hm
    match l, m, hn, hm with
    | [], m, _, _ => rw [toks_nil, toks_nil]
    | c :: l, m + 1, hn, hm =>
      rw [toks_cons, toks_cons]
      simp at hn hm
      split
      · exact ih _ _ _ hn hm
      · cases hx : tok z f (c :: l) i with
        | none => rfl
        | some x =>
          simp only
          obtain ⟨_, h2, h3, _⟩ := tok_len hx
          rw [ih m _ _ (by simp; omega) (by simp; omega)]

/-- The tokens of a text. -/
def lexL (z : V) (f : List UInt8 → Option V) (l : List UInt8) (i : Nat) : Option (List (Tk V)) := toks z f l.length l i
theorem lex_nil (i : Nat) : lexL z f [] i = some [] := rfl
theorem lex_blank (c : UInt8) (l : List UInt8) (i : Nat) (h : isB c = true) : lexL z f (c :: l) i = lexL z f l (i + 1) := by
  unfold lexL
  rw [List.length_cons, toks_cons, if_pos h]
theorem lex_tok (c : UInt8) (l : List UInt8) (i : Nat) (h : isB c = false) : lexL z f (c :: l) i = match tok z f (c :: l) i with
      | none => none
      | some x => (lexL z f ((c :: l).drop x.t.length) (i + x.t.length)).map (x :: ·) := by
  unfold lexL
  rw [List.length_cons, toks_cons, if_neg (by simp [h])]
  cases hx : tok z f (c :: l) i with
  | none => rfl
  | some x =>
    simp only
    obtain ⟨_, h2, h3, _⟩ := tok_len hx
    rw [toks_fuel _ _ _ _ (by simp; omega) (Nat.le_refl _)]
end

theorem isB_L {c : UInt8} (h : isB c = true) : isL c = false ∧ isD c = false ∧ c ≠ 39 ∧ c ≠ 46 ∧ c ≠ 60 ∧ c ≠ 61 ∧ c ≠ 62 := by
  have n39 : ∀ k : UInt8, c = k → c.toNat = k.toNat := fun k h => by rw [h]
  unfold isB at h
  unfold isL isD
  simp at h
  refine ⟨by simp; omega, by simp; omega, ?_, ?_, ?_, ?_, ?_⟩ <;> (intro he; have := n39 _ he; simp at this; omega)

/-- What ends words, numbers and signs: nothing, or a blank ahead. -/
def Ends (r : List UInt8) : Prop := r = [] ∨ ∃ c r', r = c :: r' ∧ isB c = true

theorem wordN_end (l r : List UInt8) (h : Ends r) : wordN (l ++ r) = wordN l := by
  induction l with
  | nil =>
    rcases h with rfl | ⟨c, r', rfl, hc⟩
    · rfl
    · obtain ⟨h1, h2, _⟩ := isB_L hc
      simp [wordN, isW, h1, h2]
  | cons c l ih => simp only [List.cons_append, wordN, ih]
theorem digN_end (l r : List UInt8) (h : Ends r) : digN (l ++ r) = digN l := by
  induction l with
  | nil =>
    rcases h with rfl | ⟨c, r', rfl, hc⟩
    · rfl
    · obtain ⟨h1, h2, _⟩ := isB_L hc
      simp [digN, h2]
  | cons c l ih => simp only [List.cons_append, digN, ih]
theorem numN_end (l r : List UInt8) (h : Ends r) : numN (l ++ r) = numN l := by
  induction l with
  | nil =>
    rcases h with rfl | ⟨c, r', rfl, hc⟩
    · rfl
    · obtain ⟨h1, h2, _, h4, _⟩ := isB_L hc
      simp [numN, h2, h4]
  | cons c l ih => simp only [List.cons_append, numN, ih, digN_end l r h]
theorem textN_some (r : List UInt8) (h : Ends r) (l : List UInt8) : ∀ n, textN l = some n → textN (l ++ r) = some n := by
  induction hl : l.length using Nat.strongRecOn generalizing l with
  | ind m ih =>
    intro n hn
    match l, hl with
    | [], _ => simp [textN] at hn
    | c :: l, hl =>
      by_cases hc : c = 39
      · subst hc
        match l, hl with
        | [], hl =>
          rw [textN_last] at hn
          rcases h with rfl | ⟨d, r', rfl, hd⟩
          · rw [List.append_nil, textN_last]; exact hn
          · rw [List.cons_append, List.nil_append, textN_end _ _ (isB_L hd).2.2.1]; exact hn
        | d :: l, hl =>
          by_cases hd : d = 39
          · subst hd
            rw [textN_two] at hn
            cases ht : textN l with
            | none => simp [ht] at hn
            | some k =>
              have := ih l.length (by simp at hl; omega) l rfl k ht
              rw [List.cons_append, List.cons_append, textN_two, this]
              rw [ht] at hn; exact hn
          · rw [textN_end _ _ hd] at hn
            rw [List.cons_append, List.cons_append, textN_end _ _ hd]; exact hn
      · rw [textN_cons _ _ hc] at hn
        cases ht : textN l with
        | none => simp [ht] at hn
        | some k =>
          have := ih l.length (by simp at hl; omega) l rfl k ht
          rw [List.cons_append, textN_cons _ _ hc, this]
          rw [ht] at hn; exact hn
theorem textN_blank (r : List UInt8) (h : r.all isB = true) : textN r = none := by
  induction r with
  | nil => rfl
  | cons c r ih =>
    simp at h
    rw [textN_cons _ _ (isB_L h.1).2.2.1, ih (by simpa using h.2)]; rfl
theorem textN_none (r : List UInt8) (h : r.all isB = true) (l : List UInt8) : textN l = none → textN (l ++ r) = none := by
  induction hl : l.length using Nat.strongRecOn generalizing l with
  | ind m ih =>
    intro hn
    match l, hl with
    | [], _ => exact textN_blank r h
    | c :: l, hl =>
      by_cases hc : c = 39
      · subst hc
        match l, hl with
        | [], hl => rw [textN_last] at hn; cases hn
        | d :: l, hl =>
          by_cases hd : d = 39
          · subst hd
            rw [textN_two] at hn
            cases ht : textN l with
            | none =>
              have := ih l.length (by simp at hl; omega) l rfl ht
              rw [List.cons_append, List.cons_append, textN_two, this]; rfl
            | some k => simp [ht] at hn
          · rw [textN_end _ _ hd] at hn; cases hn
      · rw [textN_cons _ _ hc] at hn
        cases ht : textN l with
        | none =>
          have := ih l.length (by simp at hl; omega) l rfl ht
          rw [List.cons_append, textN_cons _ _ hc, this]; rfl
        | some k => simp [ht] at hn

theorem head_end (l r : List UInt8) (h : Ends r) (k : UInt8) (hk : k = 61 ∨ k = 62) : ((l ++ r).head? = some k) = (l.head? = some k) := by
  match l with
  | c :: l => rfl
  | [] =>
    rcases h with rfl | ⟨c, r', rfl, hc⟩
    · rfl
    · obtain ⟨_, _, _, _, _, h5, h6⟩ := isB_L hc
      simp
      rcases hk with rfl | rfl
      · exact h5
      · exact h6

theorem lxt_end (l r : List UInt8) (h : Ends r) (h2 : r.all isB = true ∨ (lxt l).1 ≠ 0) (hl : l ≠ []) : lxt (l ++ r) = lxt l := by
  match l, hl with
  | c :: l, _ =>
    rw [List.cons_append, lxt_cons, lxt_cons]
    rw [lxt_cons] at h2
    rw [wordN_end l r h, numN_end l r h]
    simp only [head_end l r h 61 (.inl rfl), head_end l r h 62 (.inr rfl)]
    by_cases hL : isL c = true
    · rw [if_pos hL, if_pos hL]
    rw [if_neg hL, if_neg hL]
    by_cases hD : isD c = true
    · rw [if_pos hD, if_pos hD]
    rw [if_neg hD, if_neg hD]
    by_cases hq : c = 39
    · rw [if_pos hq, if_pos hq]
      rw [if_neg hL, if_neg hD, if_pos hq] at h2
      cases ht : textN l with
      | some n => rw [textN_some r h l n ht]
      | none =>
        rw [ht] at h2
        rcases h2 with h2 | h2
        · rw [textN_none r h2 l ht]
        · simp at h2
    rw [if_neg hq, if_neg hq]

section
variable {V : Type} {z : V} {f : List UInt8 → Option V}
theorem tok_end (l r : List UInt8) (i : Nat) (h : Ends r) (h2 : r.all isB = true ∨ (lxt l).1 ≠ 0) (hl : l ≠ []) : tok z f (l ++ r) i = tok z f l i := by
  unfold tok
  rw [lxt_end l r h h2 hl, List.take_append_of_le_length (lxt_le l)]

def tshift (d : Nat) (x : Tk V) : Tk V := { x with a := x.a + d }
theorem tok_at (l : List UInt8) (i d : Nat) : tok z f l (i + d) = (tok z f l i).map (tshift d) := by
  unfold tok
  split
  · rfl
  split
  · split <;> rfl
  split
  · split <;> rfl
  · rfl

/-- The tokens elsewhere are the same but for their places. -/
theorem lex_at (l : List UInt8) : ∀ i d, lexL z f l (i + d) = (lexL z f l i).map (List.map (tshift d)) := by
  induction h : l.length using Nat.strongRecOn generalizing l with
  | ind m ih =>
    intro i d
    match l, h with
    | [], _ => rfl
    | c :: l, h =>
      cases hb : isB c with
      | true =>
        rw [lex_blank _ _ _ hb, lex_blank _ _ _ hb, show i + d + 1 = i + 1 + d by omega]
        exact ih l.length (by simp at h; omega) l rfl _ _
      | false =>
        rw [lex_tok _ _ _ hb, lex_tok _ _ _ hb, tok_at]
        cases hx : tok z f (c :: l) i with
        | none => rfl
        | some x =>
          obtain ⟨_, h2, h3, _⟩ := tok_len hx
          simp only [Option.map_some]
          show (lexL z f ((c :: l).drop x.t.length) (i + d + x.t.length)).map (tshift d x :: ·) = _
          rw [show i + d + x.t.length = i + x.t.length + d by omega, ih _ (by simp at h; simp; omega) ((c :: l).drop x.t.length) rfl]
          cases lexL z f ((c :: l).drop x.t.length) (i + x.t.length) <;> simp

/-- Blanks behind change nothing. -/
theorem lex_blanks (r : List UInt8) (h : r.all isB = true) : ∀ i, lexL z f r i = some [] := by
  induction r with
  | nil => intro i; rfl
  | cons c r ih =>
    intro i
    simp at h
    rw [lex_blank _ _ _ h.1]
    exact ih (by simpa using h.2) _
theorem ends_all {r : List UInt8} (h : r.all isB = true) : Ends r := by
  match r with
  | [] => exact .inl rfl
  | c :: r => simp at h; exact .inr ⟨c, r, rfl, h.1⟩
theorem lex_behind (r : List UInt8) (h : r.all isB = true) (l : List UInt8) : ∀ i, lexL z f (l ++ r) i = lexL z f l i := by
  induction hl : l.length using Nat.strongRecOn generalizing l with
  | ind m ih =>
    intro i
    match l, hl with
    | [], _ => rw [lex_nil]; exact lex_blanks r h i
    | c :: l, hl =>
      cases hb : isB c with
      | true =>
        rw [List.cons_append, lex_blank _ _ _ hb, lex_blank _ _ _ hb]
        exact ih l.length (by simp at hl; omega) l rfl _
      | false =>
        rw [List.cons_append, lex_tok _ _ _ hb, lex_tok _ _ _ hb, ← List.cons_append, tok_end (c :: l) r i (ends_all h) (.inl h) (by simp)]
        cases hx : tok z f (c :: l) i with
        | none => rfl
        | some x =>
          obtain ⟨_, h2, h3, _⟩ := tok_len hx
          have h4 := lxt_le (c :: l)
          simp only
          rw [List.drop_append_of_le_length (by omega), ih _ (by simp at hl; simp; omega) ((c :: l).drop x.t.length) rfl]
theorem lex_ahead (r : List UInt8) (h : r.all isB = true) (l : List UInt8) : ∀ i, lexL z f (r ++ l) i = lexL z f l (i + r.length) := by
  induction r with
  | nil => intro i; rfl
  | cons c r ih =>
    intro i
    simp at h
    rw [List.cons_append, lex_blank _ _ _ h.1, ih (by simpa using h.2), List.length_cons, show i + 1 + r.length = i + (r.length + 1) by omega]

/-- Two texts with a blank between. -/
theorem lex_two (m : List UInt8) (c0 : UInt8) (hc0 : isB c0 = true) (l : List UInt8) : ∀ i x, lexL z f l i = some x → lexL z f (l ++ c0 :: m) i = (lexL z f m (i + l.length + 1)).map (x ++ ·) := by
  induction hl : l.length using Nat.strongRecOn generalizing l with
  | ind n ih =>
    intro i x hx
    match l, hl with
    | [], hl =>
      cases hx
      rw [List.nil_append, lex_blank _ _ _ hc0]
      simp at hl
      rw [← hl, Nat.add_zero]
      cases lexL z f m (i + 1) <;> simp
    | c :: l, hl =>
      cases hb : isB c with
      | true =>
        rw [lex_blank _ _ _ hb] at hx
        rw [List.cons_append, lex_blank _ _ _ hb, ih l.length (by simp at hl; omega) l rfl _ _ hx, ← hl, List.length_cons, show i + 1 + l.length + 1 = i + (l.length + 1) + 1 by omega]
      | false =>
        rw [lex_tok _ _ _ hb] at hx
        cases hy : tok z f (c :: l) i with
        | none => rw [hy] at hx; cases hx
        | some y =>
          rw [hy] at hx
          obtain ⟨_, h2, h3, _, h5⟩ := tok_len hy
          have h4 := lxt_le (c :: l)
          have h6 : (lxt (c :: l)).1 ≠ 0 := by
            intro h
            unfold tok at hy
            rw [if_pos h] at hy; cases hy
          simp only at hx
          cases hr : lexL z f ((c :: l).drop y.t.length) (i + y.t.length) with
          | none => rw [hr] at hx; cases hx
          | some r =>
            rw [hr] at hx
            rw [List.cons_append, lex_tok _ _ _ hb, ← List.cons_append, tok_end (c :: l) (c0 :: m) i (.inr ⟨c0, m, rfl, hc0⟩) (.inr h6) (by simp), hy]
            simp only
            rw [List.drop_append_of_le_length (by omega), ih _ (by simp at hl; simp; omega) ((c :: l).drop y.t.length) rfl _ _ hr]
            have h7 : y.t.length ≤ (c :: l).length := by omega
            rw [List.length_drop, show i + y.t.length + ((c :: l).length - y.t.length) + 1 = i + n + 1 by omega]
            cases lexL z f m (i + n + 1) with
            | none => rfl
            | some t => simp at hx; simp [← hx]
end
/-- How many blanks a text begins with. -/
def blankN : List UInt8 → Nat
  | [] => 0
  | c :: l => if isB c then blankN l + 1 else 0
theorem blankN_le (l : List UInt8) : blankN l ≤ l.length := by
  induction l with
  | nil => simp [blankN]
  | cons c l ih => unfold blankN; split <;> simp; omega

theorem blankN_drop (l : List UInt8) : blankN (l.drop (blankN l)) = 0 := by
  induction l with
  | nil => rfl
  | cons c l ih =>
    by_cases h : isB c = true
    · rw [blankN, if_pos h, List.drop_succ_cons]; exact ih
    · rw [show blankN (c :: l) = 0 by rw [blankN, if_neg h], List.drop_zero, blankN, if_neg h]
theorem blankN_all (l : List UInt8) (j : Nat) (h : j < blankN l) (hj : j < l.length) : isB l[j] = true := by
  induction l generalizing j with
  | nil => simp at hj
  | cons c l ih =>
    by_cases hc : isB c = true
    · match j with
      | 0 => exact hc
      | j + 1 =>
        rw [blankN, if_pos hc] at h
        simp at hj
        exact ih j (by omega) hj
    · rw [blankN, if_neg hc] at h; omega

section
variable {V : Type} {z : V} {f : List UInt8 → Option V}
/-- Blanks ahead are passed. -/
theorem lex_pass (l : List UInt8) : ∀ i, lexL z f l i = lexL z f (l.drop (blankN l)) (i + blankN l) := by
  induction l with
  | nil => intro i; rfl
  | cons c l ih =>
    intro i
    by_cases h : isB c = true
    · rw [lex_blank _ _ _ h, ih, blankN, if_pos h, List.drop_succ_cons, show i + 1 + blankN l = i + (blankN l + 1) by omega]
    · rw [show blankN (c :: l) = 0 by rw [blankN, if_neg h]]; rfl
/-- No blank ahead: a token. -/
theorem lex_here (l : List UInt8) (i : Nat) (h : blankN l = 0) (hl : l ≠ []) : lexL z f l i = match tok z f l i with
      | none => none
      | some x => (lexL z f (l.drop x.t.length) (i + x.t.length)).map (x :: ·) := by
  match l, hl with
  | c :: l, _ =>
    refine lex_tok c l i ?_
    cases hc : isB c with
    | false => rfl
    | true => rw [blankN, if_pos hc] at h; omega
/-- What tokens say of their text: nothing but blanks. -/
theorem lex_none {l : List UInt8} {i : Nat} (h : lexL z f l i = some []) : blankN l = l.length := by
  rw [lex_pass] at h
  by_cases hl : l.drop (blankN l) = []
  · have := List.drop_eq_nil_iff.1 hl
    have := blankN_le l
    omega
  · rw [lex_here _ _ (blankN_drop l) hl] at h
    split at h
    · cases h
    · rename_i x _
      cases hq : lexL z f ((l.drop (blankN l)).drop x.t.length) (i + blankN l + x.t.length) <;> rw [hq] at h <;> cases h
/-- The first token. -/
theorem lex_first {l : List UInt8} {i : Nat} {t : Tk V} {x : List (Tk V)} (h : lexL z f l i = some (t :: x)) :
    tok z f (l.drop (blankN l)) (i + blankN l) = some t ∧ t.a = i + blankN l ∧ 1 ≤ t.t.length ∧ blankN l + t.t.length ≤ l.length ∧ t.t = (l.drop (blankN l)).take t.t.length ∧
      lexL z f (l.drop (blankN l + t.t.length)) (i + blankN l + t.t.length) = some x := by
  rw [lex_pass] at h
  by_cases hl : l.drop (blankN l) = []
  · rw [hl] at h; cases h
  · rw [lex_here _ _ (blankN_drop l) hl] at h
    cases hx : tok z f (l.drop (blankN l)) (i + blankN l) with
    | none => rw [hx] at h; cases h
    | some y =>
      rw [hx] at h
      simp only at h
      cases hq : lexL z f ((l.drop (blankN l)).drop y.t.length) (i + blankN l + y.t.length) with
      | none => rw [hq] at h; cases h
      | some q =>
        rw [hq] at h
        simp at h
        obtain ⟨rfl, rfl⟩ := h
        obtain ⟨h1, h2, h3, h4, _⟩ := tok_len hx
        have h5 := lxt_le (l.drop (blankN l))
        rw [List.length_drop] at h5
        refine ⟨rfl, h4, by omega, by omega, by rw [h2]; exact h1, ?_⟩
        rw [List.drop_drop] at hq
        exact hq
end
end Go.Proofs.YtoadhfcjegfanaaGreatDoor
