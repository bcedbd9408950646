/-
  The contracts of codec.takeNumber (any slice), codec.takeLength, codec.takeText, codec.takeSum: what each call tells of any bytes.
-/
import Derived.Test.YtonjjbmjholkjaaGreatDoorTakes
namespace Go.Proofs.YtonjjbmjholkjaaGreatDoor
open Go.RowKit

set_option maxHeartbeats 400000 in
theorem takeNumber_none (ao : Option Addr) (cap : Nat) (w : World) :
    Calls Tryz.prog 90 #[.slice ao 0 cap] w fun e w' => e = .returned (.tuple #[.int .i64 0, .int .i64 0, .int .i64 20]) ∧ w = w' := by
  go_enter Tryz.func90, Tryz.ntmps90
  go_wp2
  refine wp_scope_lab 0 (fun a' w' => w' = w ∧ a' = { tmps := #[.slice ao 0 cap, undef, .int .i64 0, .int .i64 0, .int .i64 0, .int .u64 0, undef, undef, undef, undef, undef, undef, undef, undef, undef, undef, undef, undef, undef, undef, undef, undef, undef, undef, undef, undef, undef, undef, undef, undef, undef,
        undef, undef, undef, undef, undef, undef, undef, undef, undef, undef, undef, undef, undef, undef, undef], defers := [] })
    (fun _ _ => 0) rfl ?_ ?_
  · go_wp2
    exact ⟨trivial, trivial⟩
  · rintro a' w' ⟨rfl, rfl⟩
    go_wp2
    try simp only [Exit.jump]
    go_ret3
    exact ⟨rfl, rfl⟩

theorem takeNumber_any (ao : Option Addr) (n cap : Nat) (bs : List UInt8) (w : World) (h : Rd w ao n cap bs) :
    Calls Tryz.prog 90 #[.slice ao n cap] w fun e w' => e = .returned (.tuple #[.int .i64 (numOf (takeN bs)), .int .i64 ((takeN bs).2.1 : Int), .int .i64 ((takeN bs).2.2 : Int)]) ∧ w = w' := by
  obtain ⟨h1, h2, h3, h4, h5⟩ := h
  unfold maxLen at h3
  rcases Nat.eq_zero_or_pos n with hz | hz
  · subst hz
    have : bs = [] := List.eq_nil_of_length_eq_zero h1
    subst this
    exact takeNumber_none ao cap w
  · obtain ⟨b, off, rfl, hc⟩ := h5 hz
    exact takeNumber_some b off n cap bs w (by omega) h1 hc

/-! ### lengths -/
def takeL (bs : List UInt8) : Nat × Nat × Nat :=
  if (takeN bs).2.2 ≠ 0 then (0, 0, (takeN bs).2.2)
  else if numOf (takeN bs) < 0 ∨ 1048576 < numOf (takeN bs) then (0, 0, 21)
  else ((numOf (takeN bs)).toNat, (takeN bs).2.1, 0)

theorem takeGo_size : ∀ (f i u : Nat) (bs : List UInt8), (takeGo f i u bs).2.2 = 0 → i < (takeGo f i u bs).2.1 ∧ (takeGo f i u bs).2.1 ≤ i + bs.length := by
  intro f
  induction f with
  | zero => intro i u bs h; cases bs <;> simp [takeGo] at h
  | succ f ih =>
    intro i u bs h
    cases bs with
    | nil => simp [takeGo] at h
    | cons g r =>
      simp only [takeGo] at h ⊢
      split
      · rename_i hc; rw [if_pos hc] at h; simp at h
      · rename_i hc
        rw [if_neg hc] at h
        split
        · rename_i hd
          rw [if_pos hd] at h
          split
          · rename_i he; rw [if_pos he] at h; simp at h
          · simp
        · rename_i hd
          rw [if_neg hd] at h
          have := ih _ _ _ h
          simp only [List.length_cons]
          omega
theorem takeN_size (bs : List UInt8) (h : (takeN bs).2.2 = 0) : 0 < (takeN bs).2.1 ∧ (takeN bs).2.1 ≤ bs.length := by
  have := takeGo_size 10 0 0 bs h
  unfold takeN
  omega
theorem takeL_size (bs : List UInt8) (h : (takeL bs).2.2 = 0) : 0 < (takeL bs).2.1 ∧ (takeL bs).2.1 ≤ bs.length ∧ (takeL bs).1 ≤ 1048576 := by
  unfold takeL at h ⊢
  split at h
  · rename_i hc; exact absurd h hc
  · rename_i hc
    split at h
    · simp at h
    · rename_i hd
      rw [if_neg hc, if_neg hd]
      have := takeN_size bs (by omega)
      exact ⟨this.1, this.2, by show (numOf (takeN bs)).toNat ≤ _; omega⟩
theorem takeL_bad (bs : List UInt8) (h : (takeL bs).2.2 ≠ 0) : (takeL bs).1 = 0 ∧ (takeL bs).2.1 = 0 := by
  unfold takeL at h ⊢
  split
  · exact ⟨rfl, rfl⟩
  · rename_i hc
    rw [if_neg hc] at h
    split
    · exact ⟨rfl, rfl⟩
    · rename_i hd
      rw [if_neg hd] at h
      exact absurd rfl h

theorem ret_three {a b c a' b' c' : Value} (h1 : a = a') (h2 : b = b') (h3 : c = c') : Ending.returned (.tuple #[a, b, c]) = .returned (.tuple #[a', b', c']) := by rw [h1, h2, h3]

set_option maxHeartbeats 400000 in
theorem takeLength_any (ao : Option Addr) (n cap : Nat) (bs : List UInt8) (w : World) (h : Rd w ao n cap bs) :
    Calls Tryz.prog 68 #[.slice ao n cap] w fun e w' => e = .returned (.tuple #[.int .i64 ((takeL bs).1 : Int), .int .i64 ((takeL bs).2.1 : Int), .int .i64 ((takeL bs).2.2 : Int)]) ∧ w = w' := by
  have hcall := takeNumber_any ao n cap bs w h
  have hL : takeL bs = if (takeN bs).2.2 ≠ 0 then (0, 0, (takeN bs).2.2) else if numOf (takeN bs) < 0 ∨ 1048576 < numOf (takeN bs) then (0, 0, 21) else ((numOf (takeN bs)).toNat, (takeN bs).2.1, 0) := rfl
  generalize takeL bs = t at hL
  generalize numOf (takeN bs) = x at hcall hL
  generalize (takeN bs).2.1 = k at hcall hL
  generalize (takeN bs).2.2 = er at hcall hL
  have HC : Hid (Calls Tryz.prog 90 #[.slice ao n cap] w fun e w' => e = .returned (.tuple #[.int .i64 x, .int .i64 (k : Int), .int .i64 (er : Int)]) ∧ w = w') := hcall
  clear hcall h
  by_cases he : er = 0
  · subst he
    rw [if_neg (by simp)] at hL
    by_cases hx0 : x < 0
    · rw [if_pos (.inl hx0)] at hL
      subst hL
      go_enter Tryz.func68, Tryz.ntmps68
      go_wp2_with (go_at_call 90; refine HC.out.mono ?_; rintro e w' ⟨rfl, rfl⟩)
      go_ret3
      exact ⟨rfl, rfl⟩
    · by_cases hx1 : 1048576 < x
      · rw [if_pos (.inr hx1)] at hL
        subst hL
        go_enter Tryz.func68, Tryz.ntmps68
        go_wp2_with (go_at_call 90; refine HC.out.mono ?_; rintro e w' ⟨rfl, rfl⟩)
        go_ret3
        exact ⟨rfl, rfl⟩
      · rw [if_neg (by omega)] at hL
        subst hL
        go_enter Tryz.func68, Tryz.ntmps68
        go_wp2_with (go_at_call 90; refine HC.out.mono ?_; rintro e w' ⟨rfl, rfl⟩)
        go_ret3
        exact ⟨ret_three (by show Value.int .i64 x = .int .i64 ((x.toNat : Nat) : Int); rw [Int.toNat_of_nonneg (by omega)]) rfl rfl, rfl⟩
  · rw [if_pos he] at hL
    subst hL
    have he' : ((er : Int) == 0) = false := by simp; omega
    have he2 : ((er : Int) != 0) = true := by simp; omega
    clear he
    go_enter Tryz.func68, Tryz.ntmps68
    go_wp2_with (go_at_call 90; refine HC.out.mono ?_; rintro e w' ⟨rfl, rfl⟩)
    go_ret3
    exact ⟨rfl, rfl⟩
end Go.Proofs.YtonjjbmjholkjaaGreatDoor
