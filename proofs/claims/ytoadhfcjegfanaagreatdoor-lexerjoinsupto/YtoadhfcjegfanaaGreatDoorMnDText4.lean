/-
  What the program's Print writes, from the last digit on, is the text.
  A scope that is entered ahead of its one label and jumps back to it a few times: its passes, one behind the other. Nothing of the program is in it.
  Toward the program's Print: passes by induction, the room.
-/
import Derived.Test.YtoadhfcjegfanaaGreatDoorDText2
import Derived.ScopeJumps
import Derived.Tactics
namespace Go.Proofs.YtoadhfcjegfanaaGreatDoor

/-- One digit more ahead of what is written; a point ahead of it where the scale is reached. -/
def told (s k x : Nat) (t : List UInt8) : List UInt8 := UInt8.ofNat (48 + x % 10) :: (if 0 < k ∧ k = s then 46 :: t else t)
/-- What is written in the end: x is left, k digits are told. -/
def written (s : Nat) : Nat → Nat → Nat → List UInt8 → List UInt8
  | 0, _, _, t => t
  | f + 1, k, x, t => if 0 < x / 10 ∨ k + 1 ≤ s then written s f (k + 1) (x / 10) (told s k x t) else told s k x t

/-- The digits of x, at least n of them. -/
def digsN : Nat → Nat → List UInt8
  | 0, _ => []
  | n + 1, x => digsN n (x / 10) ++ [UInt8.ofNat (48 + x % 10)]
theorem digsN_len (n : Nat) : ∀ x, (digsN n x).length = n := by
  induction n with
  | zero => intro x; rfl
  | succ n ih => intro x; simp [digsN, ih]
theorem digsN_zero (n : Nat) : digsN n 0 = List.replicate n 48 := by
  induction n with
  | zero => rfl
  | succ n ih => rw [List.replicate_succ', digsN, Nat.zero_div, ih]; rfl
/-- As many digits as there are, or noughts ahead. -/
theorem pad_digs (s : Nat) : ∀ x, pad s (digs x) = digsN (max (s + 1) (digs x).length) x := by
  induction s with
  | zero =>
    intro x
    have h1 : 1 ≤ (digs x).length := by
      by_cases h : x < 10
      · rw [digs_small x h]; simp
      · rw [digs_big x h]; simp
    rw [pad_done 0 _ (by omega), Nat.max_eq_right (by omega)]
    clear h1
    induction x using Nat.strongRecOn with
    | _ x ih =>
      by_cases h : x < 10
      · rw [digs_small x h]
        show _ = digsN 0 (x / 10) ++ [UInt8.ofNat (48 + x % 10)]
        rw [Nat.mod_eq_of_lt h]; rfl
      · have hb := digs_big x h
        have e : (digs x).length = (digs (x / 10)).length + 1 := by rw [hb]; simp
        rw [e]
        show digs x = digsN _ (x / 10) ++ [_]
        rw [← ih (x / 10) (by omega)]
        exact hb
  | succ s ih =>
    intro x
    by_cases h : x < 10
    · have e1 : pad (s + 1) (digs x) = pad s (digs 0) ++ [UInt8.ofNat (48 + x % 10)] := by
        rw [digs_small x h, digs_small 0 (by decide), Nat.mod_eq_of_lt h]
        unfold pad
        simp only [List.length_cons, List.length_nil]
        rw [show s + 1 + 1 - (0 + 1) = (s + 1 - (0 + 1)) + 1 by omega, List.replicate_succ']
        rfl
      rw [e1, ih 0]
      have e2 : (digs x).length = 1 := by rw [digs_small x h]; rfl
      have e3 : (digs 0).length = 1 := by rw [digs_small 0 (by decide)]; rfl
      rw [e2, e3, Nat.max_eq_left (by omega), Nat.max_eq_left (by omega)]
      show _ = digsN (s + 1) (x / 10) ++ [_]
      rw [show x / 10 = 0 by omega]
    · have e1 : pad (s + 1) (digs x) = pad s (digs (x / 10)) ++ [UInt8.ofNat (48 + x % 10)] := by
        rw [digs_big x h]
        unfold pad
        simp only [List.length_append, List.length_cons, List.length_nil, Nat.zero_add]
        rw [show s + 1 + 1 - ((digs (x / 10)).length + 1) = s + 1 - (digs (x / 10)).length by omega, List.append_assoc]
      rw [e1, ih (x / 10)]
      have e2 : (digs x).length = (digs (x / 10)).length + 1 := by rw [digs_big x h]; simp
      rw [e2, show max (s + 1 + 1) ((digs (x / 10)).length + 1) = max (s + 1) (digs (x / 10)).length + 1 by omega]
      rfl

theorem digs_pos (x : Nat) : 1 ≤ (digs x).length := by
  by_cases h : x < 10
  · rw [digs_small x h]; simp
  · rw [digs_big x h]; simp
theorem digsN_add (a b : Nat) : ∀ x, digsN (a + b) x = digsN a (x / 10 ^ b) ++ digsN b x := by
  induction b with
  | zero => intro x; simp [digsN]
  | succ b ih =>
    intro x
    show digsN (a + b) (x / 10) ++ [_] = _ ++ (digsN b (x / 10) ++ [_])
    rw [ih (x / 10), Nat.div_div_eq_div_mul, Nat.pow_succ, Nat.mul_comm 10, List.append_assoc]
theorem digs_digsN (x : Nat) : digs x = digsN (digs x).length x := by
  have h := pad_digs 0 x
  rw [pad_done 0 _ (digs_pos x), Nat.max_eq_right (digs_pos x)] at h
  exact h
theorem digs_cut (s : Nat) : ∀ x, (digs (x / 10 ^ s)).length = max 1 ((digs x).length - s) := by
  induction s with
  | zero => intro x; have := digs_pos x; simp; omega
  | succ s ih =>
    intro x
    rw [Nat.pow_succ, Nat.mul_comm, ← Nat.div_div_eq_div_mul, ih (x / 10)]
    by_cases h : x < 10
    · rw [show x / 10 = 0 by omega, digs_small 0 (by decide), digs_small x h]; simp
    · have e : (digs x).length = (digs (x / 10)).length + 1 := by rw [digs_big x h]; simp
      omega

/-- Behind the point's place: the digits alone. -/
theorem written_whole (s : Nat) (f : Nat) : ∀ k x t, (s < k ∨ s = 0) → (digs x).length ≤ f → written s f k x t = digs x ++ t := by
  induction f with
  | zero => intro k x t _ h; have := digs_pos x; omega
  | succ f ih =>
    intro k x t hk hf
    have hp : ¬ (0 < k ∧ k = s) := by omega
    unfold written told
    rw [if_neg hp]
    by_cases h : x < 10
    · rw [if_neg (by omega), digs_small x h, Nat.mod_eq_of_lt h]; rfl
    · have hb := digs_big x h
      have e : (digs x).length = (digs (x / 10)).length + 1 := by rw [hb]; simp
      rw [if_pos (.inl (by omega)), ih (k + 1) (x / 10) _ (by omega) (by omega), hb, List.append_assoc]; rfl
/-- At the point's place. -/
theorem written_point (s f x : Nat) (t : List UInt8) (hs : 0 < s) (hf : (digs x).length ≤ f) : written s f s x t = digs x ++ 46 :: t := by
  cases f with
  | zero => have := digs_pos x; omega
  | succ f =>
    unfold written told
    rw [if_pos (show 0 < s ∧ s = s from ⟨hs, rfl⟩)]
    by_cases h : x < 10
    · rw [if_neg (by omega), digs_small x h, Nat.mod_eq_of_lt h]; rfl
    · have hb := digs_big x h
      have e : (digs x).length = (digs (x / 10)).length + 1 := by rw [hb]; simp
      rw [if_pos (.inl (by omega)), written_whole s f (s + 1) (x / 10) _ (.inl (by omega)) (by omega), hb, List.append_assoc]; rfl
/-- Ahead of it. -/
theorem written_part (s f : Nat) (hs : 0 < s) (j : Nat) : ∀ k x t, k + j = s → (digs (x / 10 ^ j)).length ≤ f → written s (f + j) k x t = digs (x / 10 ^ j) ++ 46 :: (digsN j x ++ t) := by
  induction j with
  | zero => intro k x t hk hf; obtain rfl : k = s := by omega
            rw [Nat.pow_zero, Nat.div_one] at hf ⊢
            exact written_point k f x t hs hf
  | succ j ih =>
    intro k x t hk hf
    have hp : ¬ (0 < k ∧ k = s) := by omega
    show written s (f + j + 1) k x t = _
    unfold written told
    rw [if_neg hp, if_pos (.inr (by omega))]
    have e : x / 10 ^ (j + 1) = x / 10 / 10 ^ j := by rw [Nat.pow_succ, Nat.mul_comm, ← Nat.div_div_eq_div_mul]
    rw [e] at hf ⊢
    rw [ih (k + 1) (x / 10) _ (by omega) hf]
    simp [digsN]

/-- What is written is the text, without its sign. -/
theorem written_text (s x f : Nat) (hf : (digs x).length + s + 1 ≤ f) :
    written s f 0 x [] = if s = 0 then pad 0 (digs x) else (pad s (digs x)).take ((pad s (digs x)).length - s) ++ 46 :: (pad s (digs x)).drop ((pad s (digs x)).length - s) := by
  by_cases h : s = 0
  · rw [if_pos h, written_whole s f 0 x [] (.inr h) (by omega), pad_done 0 _ (digs_pos x), List.append_nil]
  · rw [if_neg h]
    have hc := digs_cut s x
    obtain ⟨g, rfl⟩ : ∃ g, f = g + s := ⟨f - s, by omega⟩
    rw [written_part s g (by omega) s 0 x [] (by omega) (by rw [hc]; omega), List.append_nil]
    have hN : max (s + 1) (digs x).length = (digs (x / 10 ^ s)).length + s := by rw [hc]; omega
    have e : pad s (digs x) = digs (x / 10 ^ s) ++ digsN s x := by rw [pad_digs, hN, digsN_add, ← digs_digsN]
    rw [e, List.length_append, digsN_len, Nat.add_sub_cancel, List.take_left, List.drop_left]
end Go.Proofs.YtoadhfcjegfanaaGreatDoor

namespace Go.Proofs.YtoadhfcjegfanaaGreatDoor

/-- n passes from the label at most. -/
def passes (P : Program) (l : Nat) (rest : Code) (Q : Exit → Act → World → Prop) : Nat → Act → World → Prop
  | 0, _, _ => False
  | n + 1, a, w => rest.wp P (Exit.jump l (passes P l rest Q n) Q) a w

theorem wp_scope_passes {P : Program} {a : Act} {w : World} {Q : Exit → Act → World → Prop} {c rest : Code} (l n : Nat) (hf : findLabel c l = some rest)
    (first : c.wp P (Exit.jump l (passes P l rest Q n) Q) a w) : (Code.scope c).wp P Q a w := by
  intro b k cs
  have hg : gotoIn l (.inScope c :: k) = some (.code rest :: .inScope c :: k) := by simp [gotoIn, hf]
  have key : ∀ n a w, passes P l rest Q n a w → ∃ e a' w', Q e a' w' ∧ Arrives P (lone (b.at a (.code rest :: .inScope c :: k)) cs w) b k cs e a' w' := by
    intro n
    induction n with
    | zero => intro a w h; exact h.elim
    | succ n ih =>
      intro a w hJ
      obtain ⟨e, a₁, w₁, hq, harr⟩ := hJ b (.inScope c :: k) cs
      cases e with
      | normal => exact ⟨.normal, a₁, w₁, hq, Steps.trans harr (.one step_inScope)⟩
      | exit id => exact ⟨.exit id, a₁, w₁, hq, fun k' hk => harr k' (by simp [exitTo, hk])⟩
      | goto l' =>
        obtain ⟨rfl, hJ'⟩ := hq
        obtain ⟨e₂, a₂, w₂, hq₂, harr₂⟩ := ih a₁ w₁ hJ'
        exact ⟨e₂, a₂, w₂, hq₂, .of_steps (harr _ hg) harr₂⟩
      | ret => exact ⟨_, a₁, w₁, hq, harr⟩
      | panic ch => exact ⟨_, a₁, w₁, hq, harr⟩
      | outgrown => exact ⟨_, a₁, w₁, hq, harr⟩
  obtain ⟨e, a₁, w₁, hq, harr⟩ := first b (.inScope c :: k) cs
  cases e with
  | normal => exact ⟨.normal, a₁, w₁, hq, .head step_scope (Steps.trans harr (.one step_inScope))⟩
  | exit id => exact ⟨.exit id, a₁, w₁, hq, fun k' hk => .head step_scope (harr k' (by simp [exitTo, hk]))⟩
  | goto l' =>
    obtain ⟨rfl, hJ'⟩ := hq
    obtain ⟨e₂, a₂, w₂, hq₂, harr₂⟩ := key _ a₁ w₁ hJ'
    exact ⟨e₂, a₂, w₂, hq₂, .of_steps (.head step_scope (harr _ hg)) harr₂⟩
  | ret => exact ⟨_, a₁, w₁, hq, .of_steps (.one step_scope) harr⟩
  | panic ch => exact ⟨_, a₁, w₁, hq, .of_steps (.one step_scope) harr⟩
  | outgrown => exact ⟨_, a₁, w₁, hq, .of_steps (.one step_scope) harr⟩
end Go.Proofs.YtoadhfcjegfanaaGreatDoor

namespace Go.Proofs.YtoadhfcjegfanaaGreatDoor
open Go.RowKit

/-- Passes by induction: each leads to the next, or out. -/
theorem pass_ind {P : Program} {l : Nat} {body : Code} {Q : Exit → Act → World → Prop} (R : Nat → Act → World → Prop) (none0 : ∀ a w, ¬ R 0 a w)
    (step : ∀ (f : Nat) (K : Act → World → Prop), (∀ a w, R f a w → K a w) → ∀ a w, R (f + 1) a w → body.wp P (Exit.jump l K Q) a w) (F : Nat) {a : Act} {w : World} (h : R (F + 1) a w) :
    body.wp P (Exit.jump l (passes P l (Code.skip.seq body) Q F) Q) a w := by
  refine step F _ ?_ a w h
  clear h
  induction F with
  | zero => intro a w h; exact absurd h (none0 a w)
  | succ F ih => intro a w h; exact wp_seq (wp_skip (step F _ ih a w h))

/-- The room: what is written lies at its end. -/
def Room (C : Array Value) (t : List UInt8) (j : Nat) : Prop :=
  C.size = 21 ∧ j + t.length = 21 ∧ (∀ i, i < 21 → ∃ y : UInt8, C[i]? = some (.int .u8 (y.toNat : Int))) ∧ ∀ i (h : i < t.length), C[j + i]? = some (.int .u8 (t[i].toNat : Int))
theorem Room.cons {C : Array Value} {t : List UInt8} {j : Nat} (h : Room C t (j + 1)) (y : UInt8) : Room (C.setIfInBounds j (.int .u8 (y.toNat : Int))) (y :: t) j := by
  obtain ⟨h1, h2, h3, h4⟩ := h
  refine ⟨by simpa using h1, by rw [List.length_cons]; omega, fun i hi => ?_, fun i hi => ?_⟩
  · by_cases e : i = j
    · subst e; exact ⟨y, by rw [Array.getElem?_setIfInBounds_self, if_pos (by omega)]⟩
    · obtain ⟨z, hz⟩ := h3 i hi
      exact ⟨z, by rw [Array.getElem?_setIfInBounds_ne (by omega)]; exact hz⟩
  · cases i with
    | zero => rw [Nat.add_zero, Array.getElem?_setIfInBounds_self, if_pos (by omega)]; rfl
    | succ i =>
      rw [Array.getElem?_setIfInBounds_ne (by omega)]
      have := h4 i (by simpa using hi)
      rw [show j + 1 + i = j + (i + 1) by omega] at this
      exact this

theorem str_room (V : World) (n : Nat) (C : Array Value) (t : List UInt8) (j L : Nat) (h : Room C t j) (hL : L = t.length) :
    (convert 63 9 (.slice (some ⟨V.heap.size, j, none⟩) L L)).run Tryz.prog ((V.alloc (.cells C 165)).drewN n) = .ok (.string ⟨t.toArray⟩) ((V.alloc (.cells C 165)).drewN n) := by
  subst hL
  refine run_convert_bytes_back _ 63 9 5 ⟨V.heap.size, j, none⟩ t.length t Tryz.underlying63 Tryz.underlying5 Tryz.underlying9 fun i hi => ?_
  rw [Addr.add_lit]
  rw [World.cell?_drewN, World.cell?_alloc_at _ _ _ _ rfl]
  exact h.2.2.2 i hi

theorem written_ge (s f : Nat) : ∀ k x t, t.length ≤ (written s f k x t).length := by
  induction f with
  | zero => intro k x t; exact Nat.le_refl _
  | succ f ih =>
    intro k x t
    have h1 : t.length ≤ (told s k x t).length := by unfold told; split <;> simp <;> omega
    unfold written
    split
    · exact Nat.le_trans h1 (ih _ _ _)
    · exact h1
theorem written_told (s f k x : Nat) (t : List UInt8) : (told s k x t).length ≤ (written s (f + 1) k x t).length := by
  unfold written
  split
  · exact written_ge _ _ _ _ _
  · exact Nat.le_refl _

end Go.Proofs.YtoadhfcjegfanaaGreatDoor
