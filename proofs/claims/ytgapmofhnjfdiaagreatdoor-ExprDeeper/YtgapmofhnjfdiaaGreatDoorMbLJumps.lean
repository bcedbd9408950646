/-
  Tokens of a text, with no program in it: words, signs, numbers and texts by their bytes; the tokens of a text, of a text with blanks around it, of two texts with a blank between.
  A scope with several labels: what holds at each of them whenever it is jumped to, and a measure. Nothing of the program is in it.
-/
import Derived.WalkKit
import Derived.ScopeJumps
import Derived.Tactics
namespace Go.Proofs.YtgapmofhnjfdiaaGreatDoor

def isL (c : UInt8) : Bool := (decide (97 ≤ c.toNat) && decide (c.toNat ≤ 122)) || decide (c.toNat = 95)
def isD (c : UInt8) : Bool := decide (48 ≤ c.toNat) && decide (c.toNat ≤ 57)
def isB (c : UInt8) : Bool := decide (c.toNat = 32) || (decide (c.toNat = 9) || decide (c.toNat = 10))
def isS (c : UInt8) : Bool := [40, 41, 44, 46, 59, 42, 43, 45, 47, 37, 61].contains c.toNat
def isW (c : UInt8) : Bool := isL c || isD c

def wordN : List UInt8 → Nat
  | [] => 0
  | c :: l => if isW c then wordN l + 1 else 0
def digN : List UInt8 → Nat
  | [] => 0
  | c :: l => if isD c then digN l + 1 else 0
/-- A number's bytes behind its first digit. -/
def numN : List UInt8 → Nat
  | [] => 0
  | c :: l => if isD c then numN l + 1 else if c = 46 then digN l + 1 else 0
/-- A text's bytes behind its first quote. -/
def textN : List UInt8 → Option Nat
  | [] => none
  | c :: l => if c = 39 then (match l with
      | [] => some 1
      | d :: l' => if d = 39 then (textN l').map (· + 2) else some 1)
    else (textN l).map (· + 1)

/-- The kind and the length of the token that a text begins with; kind 0: none. -/
def lxt : List UInt8 → Nat × Nat
  | [] => (0, 0)
  | c :: l =>
    if isL c then (1, wordN l + 1)
    else if isD c then (3, numN l + 1)
    else if c = 39 then (match textN l with | none => (0, 0) | some n => (3, n + 1))
    else if c = 60 then (2, if l.head? = some 62 ∨ l.head? = some 61 then 2 else 1)
    else if c = 62 then (2, if l.head? = some 61 then 2 else 1)
    else if isS c then (2, 1)
    else (0, 0)

theorem lxt_cons (c : UInt8) (l : List UInt8) : lxt (c :: l) =
    (if isL c then (1, wordN l + 1)
    else if isD c then (3, numN l + 1)
    else if c = 39 then (match textN l with | none => (0, 0) | some n => (3, n + 1))
    else if c = 60 then (2, if l.head? = some 62 ∨ l.head? = some 61 then 2 else 1)
    else if c = 62 then (2, if l.head? = some 61 then 2 else 1)
    else if isS c then (2, 1)
    else (0, 0)) := rfl

theorem textN_cons (c : UInt8) (l : List UInt8) (h : ¬ c = 39) : textN (c :: l) = (textN l).map (· + 1) := by
  rw [textN.eq_def]; simp only [if_neg h]
theorem textN_two (l : List UInt8) : textN (39 :: 39 :: l) = (textN l).map (· + 2) := by
  rw [textN.eq_def]; simp
theorem textN_end (d : UInt8) (l : List UInt8) (h : ¬ d = 39) : textN (39 :: d :: l) = some 1 := by
  rw [textN.eq_def]; simp [h]
theorem textN_last : textN [39] = some 1 := by
  rw [textN.eq_def]; simp

theorem wordN_le (l : List UInt8) : wordN l ≤ l.length := by
  induction l with
  | nil => simp [wordN]
  | cons c l ih => unfold wordN; split <;> simp; omega
theorem digN_le (l : List UInt8) : digN l ≤ l.length := by
  induction l with
  | nil => simp [digN]
  | cons c l ih => unfold digN; split <;> simp; omega
theorem numN_le (l : List UInt8) : numN l ≤ l.length := by
  induction l with
  | nil => simp [numN]
  | cons c l ih =>
    unfold numN; split
    · simp; omega
    · split
      · have := digN_le l; simp; omega
      · simp
theorem textN_le (l : List UInt8) : ∀ n, textN l = some n → 1 ≤ n ∧ n ≤ l.length := by
  induction h : l.length using Nat.strongRecOn generalizing l with
  | ind m ih =>
    intro n hn
    match l, h with
    | [], _ => simp [textN] at hn
    | c :: l, h =>
      by_cases hc : c = 39
      · subst hc
        match l, h with
        | [], h => rw [textN_last] at hn; simp at hn h; omega
        | d :: l, h =>
          by_cases hd : d = 39
          · subst hd
            rw [textN_two] at hn
            cases ht : textN l with
            | none => simp [ht] at hn
            | some k =>
              have := ih l.length (by simp at h; omega) l rfl k ht
              simp [ht] at hn; simp at h; omega
          · rw [textN_end _ _ hd] at hn; simp at hn h; omega
      · rw [textN_cons _ _ hc] at hn
        cases ht : textN l with
        | none => simp [ht] at hn
        | some k =>
          have := ih l.length (by simp at h; omega) l rfl k ht
          simp [ht] at hn; simp at h; omega

theorem head_len {l : List UInt8} {k : UInt8} (h : l.head? = some k) : 1 ≤ l.length := by
  match l, h with
  | _ :: _, _ => simp
theorem lxt_le (l : List UInt8) : (lxt l).2 ≤ l.length := by
  match l with
  | [] => simp [lxt]
  | c :: l =>
    have h1 := wordN_le l
    have h2 := numN_le l
    rw [lxt_cons, List.length_cons]
    split
    · omega
    split
    · omega
    split
    · split
      · omega
      · rename_i n hn; have := textN_le l n hn; omega
    split
    · show (if _ then 2 else 1) ≤ _
      split
      · rename_i h
        rcases h with h | h <;> (have := head_len h; omega)
      · omega
    split
    · show (if _ then 2 else 1) ≤ _
      split
      · rename_i h
        have := head_len h; omega
      · omega
    split
    · omega
    · omega
theorem lxt_pos (l : List UInt8) (h : (lxt l).1 ≠ 0) : 1 ≤ (lxt l).2 := by
  match l with
  | [] => simp [lxt] at h
  | c :: l =>
    rw [lxt_cons] at *
    split
    · omega
    split
    · omega
    split
    · rename_i h1 h2 h3
      rw [if_neg h1, if_neg h2, if_pos h3] at h
      split
      · rename_i hn; rw [hn] at h; exact absurd rfl h
      · omega
    split
    · show 1 ≤ (if _ then 2 else 1)
      split <;> omega
    split
    · show 1 ≤ (if _ then 2 else 1)
      split <;> omega
    split
    · omega
    · rename_i h1 h2 h3 h4 h5 h6
      rw [if_neg h1, if_neg h2, if_neg h3, if_neg h4, if_neg h5, if_neg h6] at h
      exact absurd rfl h

/-- A token: its kind, its bytes, its value, its place. -/
structure Tk (V : Type) where
  k : Nat
  t : List UInt8
  v : V
  a : Nat

/-- The token that a text begins with. -/
def tok {V : Type} (z : V) (f : List UInt8 → Option V) (l : List UInt8) (i : Nat) : Option (Tk V) :=
  if (lxt l).1 = 0 then none
  else if (lxt l).1 = 1 then (if (lxt l).2 ≤ 32 then some ⟨1, l.take (lxt l).2, z, i⟩ else none)
  else if (lxt l).1 = 3 then (match f (l.take (lxt l).2) with | none => none | some v => some ⟨3, l.take (lxt l).2, v, i⟩)
  else some ⟨(lxt l).1, l.take (lxt l).2, z, i⟩

theorem tok_len {V : Type} {z : V} {f : List UInt8 → Option V} {l : List UInt8} {i : Nat} {x : Tk V} (h : tok z f l i = some x) : x.t = l.take (lxt l).2 ∧ x.t.length = (lxt l).2 ∧ 1 ≤ (lxt l).2 ∧ x.a = i ∧ x.k = (lxt l).1 := by
  have h1 := lxt_le l
  unfold tok at h
  split at h
  · cases h
  rename_i h0
  have h2 := lxt_pos l h0
  split at h
  · split at h
    · cases h; exact ⟨rfl, by simp; omega, h2, rfl, by simp; omega⟩
    · cases h
  split at h
  · split at h
    · cases h
    · cases h; exact ⟨rfl, by simp; omega, h2, rfl, by simp; omega⟩
  · cases h; exact ⟨rfl, by simp; omega, h2, rfl, rfl⟩

/-- The tokens of a text that begins at a place. -/
def toks {V : Type} (z : V) (f : List UInt8 → Option V) : Nat → List UInt8 → Nat → Option (List (Tk V))
  | _, [], _ => some []
  | 0, _ :: _, _ => none
  | n + 1, c :: l, i => if isB c then toks z f n l (i + 1)
    else match tok z f (c :: l) i with
      | none => none
      | some x => (toks z f n ((c :: l).drop x.t.length) (i + x.t.length)).map (x :: ·)

section
variable {V : Type} {z : V} {f : List UInt8 → Option V}
theorem toks_nil (n i : Nat) : toks z f n [] i = some [] := by
  cases n <;> rfl
theorem toks_cons (n : Nat) (c : UInt8) (l : List UInt8) (i : Nat) : toks z f (n + 1) (c :: l) i = if isB c then toks z f n l (i + 1)
    else match tok z f (c :: l) i with
      | none => none
      | some x => (toks z f n ((c :: l).drop x.t.length) (i + x.t.length)).map (x :: ·) := rfl

/-- More fuel than bytes changes nothing. -/
theorem toks_fuel : ∀ (n m : Nat) (l : List UInt8) (i : Nat), l.length ≤ n → l.length ≤ m → toks z f n l i = toks z f m l i := by
  intro n
  induction n with
  | zero =>
    intro m l i hn hm
    match l, hn with
    | [], _ => rw [toks_nil, toks_nil]
  | succ n ih =>
    intro m l i hn hm
    match l, m, hn, hm with
    | [], m, _, _ => rw [toks_nil, toks_nil]
    | c :: l, m + 1, hn, hm =>
      rw [toks_cons, toks_cons]
      simp at hn hm
      split
      · exact ih _ _ _ hn hm
      · cases hx : tok z f (c :: l) i with
        | none => rfl
        | some x =>
          simp only
          obtain ⟨_, h2, h3, _⟩ := tok_len hx
          rw [ih m _ _ (by simp; omega) (by simp; omega)]

/-- The tokens of a text. -/
def lexL (z : V) (f : List UInt8 → Option V) (l : List UInt8) (i : Nat) : Option (List (Tk V)) := toks z f l.length l i
theorem lex_nil (i : Nat) : lexL z f [] i = some [] := rfl
theorem lex_blank (c : UInt8) (l : List UInt8) (i : Nat) (h : isB c = true) : lexL z f (c :: l) i = lexL z f l (i + 1) := by
  unfold lexL
  rw [List.length_cons, toks_cons, if_pos h]
theorem lex_tok (c : UInt8) (l : List UInt8) (i : Nat) (h : isB c = false) : lexL z f (c :: l) i = match tok z f (c :: l) i with
      | none => none
      | some x => (lexL z f ((c :: l).drop x.t.length) (i + x.t.length)).map (x :: ·) := by
  unfold lexL
  rw [List.length_cons, toks_cons, if_neg (by simp [h])]
  cases hx : tok z f (c :: l) i with
  | none => rfl
  | some x =>
    simp only
    obtain ⟨_, h2, h3, _⟩ := tok_len hx
    rw [toks_fuel _ _ _ _ (by simp; omega) (Nat.le_refl _)]
end

section
variable {V : Type} {z : V} {f : List UInt8 → Option V}
end
/-- How many blanks a text begins with. -/
def blankN : List UInt8 → Nat
  | [] => 0
  | c :: l => if isB c then blankN l + 1 else 0
theorem blankN_le (l : List UInt8) : blankN l ≤ l.length := by
  induction l with
  | nil => simp [blankN]
  | cons c l ih => unfold blankN; split <;> simp; omega

theorem blankN_drop (l : List UInt8) : blankN (l.drop (blankN l)) = 0 := by
  induction l with
  | nil => rfl
  | cons c l ih =>
    by_cases h : isB c = true
    · rw [blankN, if_pos h, List.drop_succ_cons]; exact ih
    · rw [show blankN (c :: l) = 0 by rw [blankN, if_neg h], List.drop_zero, blankN, if_neg h]
section
variable {V : Type} {z : V} {f : List UInt8 → Option V}
/-- Blanks ahead are passed. -/
theorem lex_pass (l : List UInt8) : ∀ i, lexL z f l i = lexL z f (l.drop (blankN l)) (i + blankN l) := by
  induction l with
  | nil => intro i; rfl
  | cons c l ih =>
    intro i
    by_cases h : isB c = true
    · rw [lex_blank _ _ _ h, ih, blankN, if_pos h, List.drop_succ_cons, show i + 1 + blankN l = i + (blankN l + 1) by omega]
    · rw [show blankN (c :: l) = 0 by rw [blankN, if_neg h]]; rfl
/-- No blank ahead: a token. -/
theorem lex_here (l : List UInt8) (i : Nat) (h : blankN l = 0) (hl : l ≠ []) : lexL z f l i = match tok z f l i with
      | none => none
      | some x => (lexL z f (l.drop x.t.length) (i + x.t.length)).map (x :: ·) := by
  match l, hl with
  | c :: l, _ =>
    refine lex_tok c l i ?_
    cases hc : isB c with
    | false => rfl
    | true => rw [blankN, if_pos hc] at h; omega
end
end Go.Proofs.YtgapmofhnjfdiaaGreatDoor

namespace Go.Proofs.YtgapmofhnjfdiaaGreatDoor

/-- As Q; by a goto: what J says of its label. -/
def jumpsTo (J : Nat → Act → World → Prop) (Q : Exit → Act → World → Prop) : Exit → Act → World → Prop
  | .goto l, a, w => J l a w
  | e, a, w => Q e a w

theorem wp_scope_multi {P : Program} {a : Act} {w : World} {Q : Exit → Act → World → Prop} {c : Code} (J : Nat → Act → World → Prop) (μ : Nat → Act → World → Nat)
    (first : c.wp P (jumpsTo J Q) a w)
    (pass : ∀ l a w, J l a w → ∃ rest, findLabel c l = some rest ∧ rest.wp P (jumpsTo (fun l' a' w' => J l' a' w' ∧ μ l' a' w' < μ l a w) Q) a w) : (Code.scope c).wp P Q a w := by
  intro b k cs
  have key : ∀ n l a w, μ l a w = n → J l a w → ∃ rest, findLabel c l = some rest ∧ ∃ e a' w', Q e a' w' ∧ Arrives P (lone (b.at a (.code rest :: .inScope c :: k)) cs w) b k cs e a' w' := by
    intro n
    induction n using Nat.strongRecOn with
    | _ n ih =>
      intro l a w hn hJ
      obtain ⟨rest, hf, hp⟩ := pass l a w hJ
      refine ⟨rest, hf, ?_⟩
      obtain ⟨e, a₁, w₁, hq, harr⟩ := hp b (.inScope c :: k) cs
      cases e with
      | normal => exact ⟨.normal, a₁, w₁, hq, Steps.trans harr (.one step_inScope)⟩
      | exit id => exact ⟨.exit id, a₁, w₁, hq, fun k' hk => harr k' (by simp [exitTo, hk])⟩
      | goto l' =>
        obtain ⟨hJ', hlt⟩ := hq
        obtain ⟨rest', hf', e₂, a₂, w₂, hq₂, harr₂⟩ := ih _ (by omega) l' a₁ w₁ rfl hJ'
        have hg : gotoIn l' (.inScope c :: k) = some (.code rest' :: .inScope c :: k) := by simp [gotoIn, hf']
        exact ⟨e₂, a₂, w₂, hq₂, .of_steps (harr _ hg) harr₂⟩
      | ret => exact ⟨_, a₁, w₁, hq, harr⟩
      | panic ch => exact ⟨_, a₁, w₁, hq, harr⟩
      | outgrown => exact ⟨_, a₁, w₁, hq, harr⟩
  obtain ⟨e, a₁, w₁, hq, harr⟩ := first b (.inScope c :: k) cs
  cases e with
  | normal => exact ⟨.normal, a₁, w₁, hq, .head step_scope (Steps.trans harr (.one step_inScope))⟩
  | exit id => exact ⟨.exit id, a₁, w₁, hq, fun k' hk => .head step_scope (harr k' (by simp [exitTo, hk]))⟩
  | goto l' =>
    obtain ⟨rest', hf', e₂, a₂, w₂, hq₂, harr₂⟩ := key _ l' a₁ w₁ rfl hq
    have hg : gotoIn l' (.inScope c :: k) = some (.code rest' :: .inScope c :: k) := by simp [gotoIn, hf']
    exact ⟨e₂, a₂, w₂, hq₂, .of_steps (.head step_scope (harr _ hg)) harr₂⟩
  | ret => exact ⟨_, a₁, w₁, hq, .of_steps (.one step_scope) harr⟩
  | panic ch => exact ⟨_, a₁, w₁, hq, .of_steps (.one step_scope) harr⟩
  | outgrown => exact ⟨_, a₁, w₁, hq, .of_steps (.one step_scope) harr⟩
end Go.Proofs.YtgapmofhnjfdiaaGreatDoor
