/-
  What the program's Print writes, from the last digit on, is the text.
-/
import Derived.Test.YtibbenhplmmmiaaGreatDoorDText2
namespace Go.Proofs.YtibbenhplmmmiaaGreatDoor

/-- One digit more ahead of what is written; a point ahead of it where the scale is reached. -/
def told (s k x : Nat) (t : List UInt8) : List UInt8 := UInt8.ofNat (48 + x % 10) :: (if 0 < k ∧ k = s then 46 :: t else t)
/-- What is written in the end: x is left, k digits are told. -/
def written (s : Nat) : Nat → Nat → Nat → List UInt8 → List UInt8
  | 0, _, _, t => t
  | f + 1, k, x, t => if 0 < x / 10 ∨ k + 1 ≤ s then written s f (k + 1) (x / 10) (told s k x t) else told s k x t

/-- The digits of x, at least n of them. -/
def digsN : Nat → Nat → List UInt8
  | 0, _ => []
  | n + 1, x => digsN n (x / 10) ++ [UInt8.ofNat (48 + x % 10)]
theorem digsN_len (n : Nat) : ∀ x, (digsN n x).length = n := by
  induction n with
  | zero => intro x; rfl
  | succ n ih => intro x; simp [digsN, ih]
/-- As many digits as there are, or noughts ahead. -/
theorem pad_digs (s : Nat) : ∀ x, pad s (digs x) = digsN (max (s + 1) (digs x).length) x := by
  induction s with
  | zero =>
    intro x
    have h1 : 1 ≤ (digs x).length := by
      by_cases h : x < 10
      · rw [digs_small x h]; simp
      · rw [digs_big x h]; simp
    rw [pad_done 0 _ (by omega), Nat.max_eq_right (by omega)]
    clear h1
    induction x using Nat.strongRecOn with
    | _ x ih =>
      by_cases h : x < 10
      · rw [digs_small x h]
        show _ = digsN 0 (x / 10) ++ [UInt8.ofNat (48 + x % 10)]
        rw [Nat.mod_eq_of_lt h]; rfl
      · have hb := digs_big x h
        have e : (digs x).length = (digs (x / 10)).length + 1 := by rw [hb]; simp
        rw [e]
        show digs x = digsN _ (x / 10) ++ [_]
        rw [← ih (x / 10) (by omega)]
        exact hb
  | succ s ih =>
    intro x
    by_cases h : x < 10
    · have e1 : pad (s + 1) (digs x) = pad s (digs 0) ++ [UInt8.ofNat (48 + x % 10)] := by
        rw [digs_small x h, digs_small 0 (by decide), Nat.mod_eq_of_lt h]
        unfold pad
        simp only [List.length_cons, List.length_nil]
        rw [show s + 1 + 1 - (0 + 1) = (s + 1 - (0 + 1)) + 1 by omega, List.replicate_succ']
        rfl
      rw [e1, ih 0]
      have e2 : (digs x).length = 1 := by rw [digs_small x h]; rfl
      have e3 : (digs 0).length = 1 := by rw [digs_small 0 (by decide)]; rfl
      rw [e2, e3, Nat.max_eq_left (by omega), Nat.max_eq_left (by omega)]
      show _ = digsN (s + 1) (x / 10) ++ [_]
      rw [show x / 10 = 0 by omega]
    · have e1 : pad (s + 1) (digs x) = pad s (digs (x / 10)) ++ [UInt8.ofNat (48 + x % 10)] := by
        rw [digs_big x h]
        unfold pad
        simp only [List.length_append, List.length_cons, List.length_nil, Nat.zero_add]
        rw [show s + 1 + 1 - ((digs (x / 10)).length + 1) = s + 1 - (digs (x / 10)).length by omega, List.append_assoc]
      rw [e1, ih (x / 10)]
      have e2 : (digs x).length = (digs (x / 10)).length + 1 := by rw [digs_big x h]; simp
      rw [e2, show max (s + 1 + 1) ((digs (x / 10)).length + 1) = max (s + 1) (digs (x / 10)).length + 1 by omega]
      rfl

theorem digs_pos (x : Nat) : 1 ≤ (digs x).length := by
  by_cases h : x < 10
  · rw [digs_small x h]; simp
  · rw [digs_big x h]; simp
theorem digsN_add (a b : Nat) : ∀ x, digsN (a + b) x = digsN a (x / 10 ^ b) ++ digsN b x := by
  induction b with
  | zero => intro x; simp [digsN]
  | succ b ih =>
    intro x
    show digsN (a + b) (x / 10) ++ [_] = _ ++ (digsN b (x / 10) ++ [_])
    rw [ih (x / 10), Nat.div_div_eq_div_mul, Nat.pow_succ, Nat.mul_comm 10, List.append_assoc]
theorem digs_digsN (x : Nat) : digs x = digsN (digs x).length x := by
  have h := pad_digs 0 x
  rw [pad_done 0 _ (digs_pos x), Nat.max_eq_right (digs_pos x)] at h
  exact h
theorem digs_cut (s : Nat) : ∀ x, (digs (x / 10 ^ s)).length = max 1 ((digs x).length - s) := by
  induction s with
  | zero => intro x; have := digs_pos x; simp; omega
  | succ s ih =>
    intro x
    rw [Nat.pow_succ, Nat.mul_comm, ← Nat.div_div_eq_div_mul, ih (x / 10)]
    by_cases h : x < 10
    · rw [show x / 10 = 0 by omega, digs_small 0 (by decide), digs_small x h]; simp
    · have e : (digs x).length = (digs (x / 10)).length + 1 := by rw [digs_big x h]; simp
      omega

/-- Behind the point's place: the digits alone. -/
theorem written_whole (s : Nat) (f : Nat) : ∀ k x t, (s < k ∨ s = 0) → (digs x).length ≤ f → written s f k x t = digs x ++ t := by
  induction f with
  | zero => intro k x t _ h; have := digs_pos x; omega
  | succ f ih =>
    intro k x t hk hf
    have hp : ¬ (0 < k ∧ k = s) := by omega
    unfold written told
    rw [if_neg hp]
    by_cases h : x < 10
    · rw [if_neg (by omega), digs_small x h, Nat.mod_eq_of_lt h]; rfl
    · have hb := digs_big x h
      have e : (digs x).length = (digs (x / 10)).length + 1 := by rw [hb]; simp
      rw [if_pos (.inl (by omega)), ih (k + 1) (x / 10) _ (by omega) (by omega), hb, List.append_assoc]; rfl
/-- At the point's place. -/
theorem written_point (s f x : Nat) (t : List UInt8) (hs : 0 < s) (hf : (digs x).length ≤ f) : written s f s x t = digs x ++ 46 :: t := by
  cases f with
  | zero => have := digs_pos x; omega
  | succ f =>
    unfold written told
    rw [if_pos (show 0 < s ∧ s = s from ⟨hs, rfl⟩)]
    by_cases h : x < 10
    · rw [if_neg (by omega), digs_small x h, Nat.mod_eq_of_lt h]; rfl
    · have hb := digs_big x h
      have e : (digs x).length = (digs (x / 10)).length + 1 := by rw [hb]; simp
      rw [if_pos (.inl (by omega)), written_whole s f (s + 1) (x / 10) _ (.inl (by omega)) (by omega), hb, List.append_assoc]; rfl
/-- Ahead of it. -/
theorem written_part (s f : Nat) (hs : 0 < s) (j : Nat) : ∀ k x t, k + j = s → (digs (x / 10 ^ j)).length ≤ f → written s (f + j) k x t = digs (x / 10 ^ j) ++ 46 :: (digsN j x ++ t) := by
  induction j with
  | zero => intro k x t hk hf; obtain rfl : k = s := by omega
            rw [Nat.pow_zero, Nat.div_one] at hf ⊢
            exact written_point k f x t hs hf
  | succ j ih =>
    intro k x t hk hf
    have hp : ¬ (0 < k ∧ k = s) := by omega
    show written s (f + j + 1) k x t = _
    unfold written told
    rw [if_neg hp, if_pos (.inr (by omega))]
    have e : x / 10 ^ (j + 1) = x / 10 / 10 ^ j := by rw [Nat.pow_succ, Nat.mul_comm, ← Nat.div_div_eq_div_mul]
    rw [e] at hf ⊢
    rw [ih (k + 1) (x / 10) _ (by omega) hf]
    simp [digsN]

/-- What is written is the text, without its sign. -/
theorem written_text (s x f : Nat) (hf : (digs x).length + s + 1 ≤ f) :
    written s f 0 x [] = if s = 0 then pad 0 (digs x) else (pad s (digs x)).take ((pad s (digs x)).length - s) ++ 46 :: (pad s (digs x)).drop ((pad s (digs x)).length - s) := by
  by_cases h : s = 0
  · rw [if_pos h, written_whole s f 0 x [] (.inr h) (by omega), pad_done 0 _ (digs_pos x), List.append_nil]
  · rw [if_neg h]
    have hc := digs_cut s x
    obtain ⟨g, rfl⟩ : ∃ g, f = g + s := ⟨f - s, by omega⟩
    rw [written_part s g (by omega) s 0 x [] (by omega) (by rw [hc]; omega), List.append_nil]
    have hN : max (s + 1) (digs x).length = (digs (x / 10 ^ s)).length + s := by rw [hc]; omega
    have e : pad s (digs x) = digs (x / 10 ^ s) ++ digsN s x := by rw [pad_digs, hN, digsN_add, ← digs_digsN]
    rw [e, List.length_append, digsN_len, Nat.add_sub_cancel, List.take_left, List.drop_left]
end Go.Proofs.YtibbenhplmmmiaaGreatDoor
