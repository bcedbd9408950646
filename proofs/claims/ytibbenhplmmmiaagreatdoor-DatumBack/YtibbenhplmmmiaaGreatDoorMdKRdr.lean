/-
  The contracts of codec.takeNumber, codec.takeLength, codec.takeText, codec.takeSum: what each call tells of any bytes.
  The contracts of codec.takeNumber (any slice), codec.takeLength, codec.takeText, codec.takeSum: what each call tells of any bytes.
  The contract of codec.takeText: what the call tells of any bytes.
  A codec.Reader as it lies in memory, and the contracts of its methods: what each call tells, and what it leaves.
-/
import Derived.Test.YtibbenhplmmmiaaGreatDoorMaLaws
import Derived.Test.YtibbenhplmmmiaaGreatDoorMbLJumps
import Derived.WalkMore
import Derived.BigQuiet
import Derived.Laws.StructEq
namespace Go.Proofs.YtibbenhplmmmiaaGreatDoor.Co
open Go.RowKit

/-- The number that bytes begin with, as an int. -/
def numOf (t : Nat × Nat × Nat) : Int := if t.2.2 = 0 then unfoldN t.1 else 0

theorem and127 (g : UInt8) : bits .and .u8 (g.toNat : Int) 127 = ((g.toNat % 128 : Nat) : Int) := by
  rw [show (127 : Int) = ((127 : Nat) : Int) from rfl, u8_and_nat _ _ g.toNat_lt (by decide), nat_mask7]

theorem pow128 (i : Nat) : (2 : Nat) ^ (7 * i) = 128 ^ i := by rw [Nat.pow_mul]

theorem group_lt (u i : Nat) (g : UInt8) (hu : u < 128 ^ i) (hi : i ≤ 8 ∨ (i = 9 ∧ g.toNat ≤ 1)) : u + g.toNat % 128 * 128 ^ i < 18446744073709551616 := by
  have hm : g.toNat % 128 < 128 := Nat.mod_lt _ (by decide)
  have hlt : g.toNat % 128 * 128 ^ i + 128 ^ i ≤ 18446744073709551616 := by
    clear hu
    rcases hi with h | ⟨rfl, h⟩
    · have h8 : 128 ^ i ≤ 128 ^ 8 := Nat.pow_le_pow_right (by decide) h
      have : g.toNat % 128 * 128 ^ i ≤ 127 * 128 ^ i := Nat.mul_le_mul_right _ (by omega)
      omega
    · have h1 : g.toNat % 128 = 0 ∨ g.toNat % 128 = 1 := by omega
      rcases h1 with h1 | h1 <;> rw [h1] <;> decide
  omega
theorem or_group (u i : Nat) (g : UInt8) (hu : u < 128 ^ i) (hi : i ≤ 8 ∨ (i = 9 ∧ g.toNat ≤ 1)) :
    bits .or .u64 (u : Int) (IntKind.u64.wrap (IntKind.u64.wrap (bits .and .u8 (g.toNat : Int) 127) * 2 ^ (7 * i))) = ((u + g.toNat % 128 * 128 ^ i : Nat) : Int) := by
  have hlt := group_lt u i g hu hi
  have e1 : IntKind.u64.wrap (bits .and .u8 (g.toNat : Int) 127) = ((g.toNat % 128 : Nat) : Int) := by
    rw [and127, IntKind.wrap_u64]; omega
  have e2 : (2 : Int) ^ (7 * i) = ((128 ^ i : Nat) : Int) := by rw [← pow128]; simp
  rw [e1, e2, ← Int.natCast_mul]
  generalize hm2 : g.toNat % 128 * 128 ^ i = m at hlt
  have e3 : IntKind.u64.wrap (m : Int) = (m : Int) := by rw [IntKind.wrap_u64]; omega
  rw [e3, u64_or_nat _ _ (by omega) (by omega), Nat.or_comm]
  congr 1
  rw [nat_join (7 * i) m u (by rw [pow128, ← hm2]; exact Nat.mul_mod_left _ _) (by rw [pow128]; exact hu)]
  omega

theorem take_next (f i u : Nat) (g : UInt8) (r : List UInt8) (h1 : ¬ (i = 9 ∧ 1 < g.toNat)) (h2 : 127 < g.toNat) : takeGo (f + 1) i u (g :: r) = takeGo f (i + 1) (u + g.toNat % 128 * 128 ^ i) r := by
  simp only [takeGo]; rw [if_neg h1, if_neg (by omega)]
theorem take_bad (f i u : Nat) (g : UInt8) (r : List UInt8) (h1 : i = 9 ∧ 1 < g.toNat) : takeGo (f + 1) i u (g :: r) = (0, 0, 21) := by
  simp only [takeGo]; rw [if_pos h1]
theorem take_zero (f i u : Nat) (g : UInt8) (r : List UInt8) (h1 : ¬ (i = 9 ∧ 1 < g.toNat)) (h2 : g.toNat < 128) (h3 : 0 < i ∧ g.toNat = 0) : takeGo (f + 1) i u (g :: r) = (0, 0, 21) := by
  simp only [takeGo]; rw [if_neg h1, if_pos h2, if_pos h3]
theorem take_last (f i u : Nat) (g : UInt8) (r : List UInt8) (h1 : ¬ (i = 9 ∧ 1 < g.toNat)) (h2 : g.toNat < 128) (h3 : ¬ (0 < i ∧ g.toNat = 0)) : takeGo (f + 1) i u (g :: r) = (u + g.toNat % 128 * 128 ^ i, i + 1, 0) := by
  simp only [takeGo]; rw [if_neg h1, if_pos h2, if_neg h3]
theorem take_end (f i u : Nat) : takeGo f i u [] = (0, 0, 20) := by cases f <;> rfl

theorem ret_take {t t' : Nat × Nat × Nat} (h : t = t') : Ending.returned (.tuple #[.int .i64 (numOf t'), .int .i64 (t'.2.1 : Int), .int .i64 (t'.2.2 : Int)]) = .returned (.tuple #[.int .i64 (numOf t), .int .i64 (t.2.1 : Int), .int .i64 (t.2.2 : Int)]) := by rw [h]

set_option maxHeartbeats 1000000 in
theorem takeNumber_some (b off n cap : Nat) (bs : List UInt8) (w : World) (hn : n ≤ 9223372036854775807) (hl : bs.length = n) (hc : ∀ i (h : i < bs.length), w.cell? ⟨b, off + i, none⟩ = some (.int .u8 (bs[i].toNat : Int))) :
    Calls Tryz.prog 95 #[.slice (some ⟨b, off, none⟩) n cap] w fun e w' => e = .returned (.tuple #[.int .i64 (numOf (takeN bs)), .int .i64 ((takeN bs).2.1 : Int), .int .i64 ((takeN bs).2.2 : Int)]) ∧ w = w' := by
  go_enter Tryz.func95, Tryz.ntmps95
  go_wp2
  refine wp_scope_lab 0 (fun a' w' => w' = w ∧ ∃ (i u : Nat) (u6 u7 u8 u9 u10 u11 u12 u13 u14 u15 u16 u17 u18 u19 u20 u21 u22 u23 u24 u25 u26 u27 u28 u29 u30 : Value),
      a' = { tmps := #[.slice (some ⟨b, off, none⟩) n cap, undef, .int .i64 0, .int .i64 (i : Int), .int .i64 0, .int .u64 (u : Int), u6, u7, u8, u9, u10, u11, u12, u13, u14, u15, u16, u17, u18, u19, u20, u21, u22, u23, u24, u25, u26, u27, u28, u29, u30,
        undef, undef, undef, undef, undef, undef, undef, undef, undef, undef, undef, undef, undef, undef, undef], defers := [] } ∧ i ≤ n ∧ i ≤ 9 ∧ u < 128 ^ i ∧ Hid (takeN bs = takeGo (10 - i) i u (bs.drop i)))
    (fun a' _ => 10 - (intOf (a'.tmps.getD 3 undef)).toNat) rfl ?_ ?_
  · go_wp2
    exact ⟨trivial, 0, 0, _, _, _, _, _, _, _, _, _, _, _, _, _, _, _, _, _, _, _, _, _, _, _, _, _, rfl, by omega, by omega, by decide, rfl⟩
  · rintro a' w' ⟨rfl, i, u, u6, u7, u8, u9, u10, u11, u12, u13, u14, u15, u16, u17, u18, u19, u20, u21, u22, u23, u24, u25, u26, u27, u28, u29, u30, rfl, hin, hi9, hu, ht⟩
    by_cases hi : i = n
    · have hdr : bs.drop i = [] := List.drop_eq_nil_of_le (by omega)
      have hne : ((i : Int) == (n : Int)) = true := by simp; omega
      have htt := ht.out
      rw [hdr, take_end] at htt
      have HT : Hid (takeN bs = (0, 0, 20)) := htt
      clear htt ht hdr hc
      go_wp2
      simp only [Exit.jump]
      go_ret3
      exact ⟨ret_take HT.out, rfl⟩
    · have hck := hc i (by omega)
      have hdr : bs.drop i = bs[i] :: bs.drop (i + 1) := List.drop_eq_getElem_cons (by omega)
      have htt := ht.out
      rw [hdr, show 10 - i = (9 - i) + 1 from by omega] at htt
      generalize bs[i] = g at hck htt
      have hlt : (i : Int) < (n : Int) := by omega
      have hne : ((i : Int) == (n : Int)) = false := by simp; omega
      have hgl : (g.toNat : Int) ≤ 255 := by have := g.toNat_lt; omega
      have hi' : (i : Int) ≤ 9 := by omega
      clear hc ht hdr
      by_cases hbad : i = 9 ∧ 1 < g.toNat
      · rw [take_bad _ _ _ _ _ hbad] at htt
        have HT : Hid (takeN bs = (0, 0, 21)) := htt
        obtain ⟨rfl, hg1⟩ := hbad
        clear htt
        have hg2 : (1 : Int) < (g.toNat : Int) := by omega
        by_cases hg3 : (127 : Int) < (g.toNat : Int)
        all_goals
          go_wp2
          try simp only [Exit.jump]
          go_ret3
          exact ⟨ret_take HT.out, rfl⟩
      · have hE := or_group u i g hu (by have := g.toNat_lt; omega)
        have hu' : u + g.toNat % 128 * 128 ^ i < 128 ^ (i + 1) := by
          have hm : g.toNat % 128 ≤ 127 := by have := Nat.mod_lt g.toNat (show 0 < 128 by decide); omega
          have h2 := Nat.mul_le_mul_right (128 ^ i) hm
          rw [Nat.pow_succ]
          omega
        have hx64 : 127 < g.toNat ∨ u + g.toNat % 128 * 128 ^ i < 18446744073709551616 := by
          by_cases h : 127 < g.toNat
          · exact .inl h
          · exact .inr (group_lt u i g hu (by omega))
        generalize hx : u + g.toNat % 128 * 128 ^ i = x at hE hu' hx64
        by_cases hmore : 127 < g.toNat
        · rw [take_next _ _ _ _ _ hbad hmore, hx] at htt
          have HT : Hid (takeN bs = takeGo (9 - i) (i + 1) x (List.drop (i + 1) bs)) := htt
          have hg2 : (127 : Int) < (g.toNat : Int) := by omega
          have hi8 : (i : Int) + 1 < 10 := by omega
          clear htt hx
          go_wp2
          go_step3
          rw [show ((i : Int) + 1) = ((i + 1 : Nat) : Int) from by omega]
          refine ⟨rfl, ⟨rfl, i + 1, x, _, _, _, _, _, _, _, _, _, _, _, _, _, _, _, _, _, _, _, _, _, _, _, _, _, rfl, by omega, by omega, hu', ?_⟩, ?_⟩
          · rw [show 10 - (i + 1) = 9 - i from by omega]; exact HT
          · simp [intOf]; omega
        · by_cases hz : 0 < i ∧ g.toNat = 0
          · rw [take_zero _ _ _ _ _ hbad (by omega) hz] at htt
            have HT : Hid (takeN bs = (0, 0, 21)) := htt
            clear htt hx
            have hg0 : ((g.toNat : Int) == 0) = true := by simp; omega
            have hg2 : ¬ (127 : Int) < (g.toNat : Int) := by omega
            have hg4 : ¬ (1 : Int) < (g.toNat : Int) := by omega
            have hi1 : (1 : Int) < (i : Int) + 1 := by omega
            by_cases hi10 : 9 ≤ i
            · have hi11 : ((i : Int) + 1 == 10) = true := by simp; omega
              go_wp2
              try simp only [Exit.jump]
              go_ret3
              exact ⟨ret_take HT.out, rfl⟩
            · have hi11 : ((i : Int) + 1 == 10) = false := by simp; omega
              go_wp2
              try simp only [Exit.jump]
              go_ret3
              exact ⟨ret_take HT.out, rfl⟩
          · rw [take_last _ _ _ _ _ hbad (by omega) hz, hx] at htt
            have HT : Hid (takeN bs = (x, i + 1, 0)) := htt
            clear htt hx
            have hx64' : x < 18446744073709551616 := by omega
            have hg2 : ¬ (127 : Int) < (g.toNat : Int) := by omega
            have hnum : Hid (numOf (x, i + 1, 0) = unfoldN x) := rfl
            clear hx64
            by_cases hi1 : 0 < i
            · have hg0 : ((g.toNat : Int) == 0) = false := by simp; omega
              have hi1' : (1 : Int) < (i : Int) + 1 := by omega
              by_cases hi10 : 9 ≤ i
              · have hi11 : ((i : Int) + 1 == 10) = true := by simp; omega
                have hg4 : ¬ (1 : Int) < (g.toNat : Int) := by omega
                go_wp2_with (go_at_call 153; refine (unfold_any x _ hx64').mono ?_; rintro e w' ⟨rfl, rfl⟩)
                try simp only [Exit.jump]
                go_ret3
                exact ⟨ret_take HT.out, rfl⟩
              · have hi11 : ((i : Int) + 1 == 10) = false := by simp; omega
                go_wp2_with (go_at_call 153; refine (unfold_any x _ hx64').mono ?_; rintro e w' ⟨rfl, rfl⟩)
                try simp only [Exit.jump]
                go_ret3
                exact ⟨ret_take HT.out, rfl⟩
            · have hi0 : ¬ (1 : Int) < (i : Int) + 1 := by omega
              have hi11 : ((i : Int) + 1 == 10) = false := by simp; omega
              go_wp2_with (go_at_call 153; refine (unfold_any x _ hx64').mono ?_; rintro e w' ⟨rfl, rfl⟩)
              try simp only [Exit.jump]
              go_ret3
              exact ⟨ret_take HT.out, rfl⟩
end Go.Proofs.YtibbenhplmmmiaaGreatDoor.Co

namespace Go.Proofs.YtibbenhplmmmiaaGreatDoor.Co
open Go.RowKit

set_option maxHeartbeats 400000 in
theorem takeNumber_none (ao : Option Addr) (cap : Nat) (w : World) :
    Calls Tryz.prog 95 #[.slice ao 0 cap] w fun e w' => e = .returned (.tuple #[.int .i64 0, .int .i64 0, .int .i64 20]) ∧ w = w' := by
  go_enter Tryz.func95, Tryz.ntmps95
  go_wp2
  refine wp_scope_lab 0 (fun a' w' => w' = w ∧ a' = { tmps := #[.slice ao 0 cap, undef, .int .i64 0, .int .i64 0, .int .i64 0, .int .u64 0, undef, undef, undef, undef, undef, undef, undef, undef, undef, undef, undef, undef, undef, undef, undef, undef, undef, undef, undef, undef, undef, undef, undef, undef, undef,
        undef, undef, undef, undef, undef, undef, undef, undef, undef, undef, undef, undef, undef, undef, undef], defers := [] })
    (fun _ _ => 0) rfl ?_ ?_
  · go_wp2
    exact ⟨trivial, trivial⟩
  · rintro a' w' ⟨rfl, rfl⟩
    go_wp2
    try simp only [Exit.jump]
    go_ret3
    exact ⟨rfl, rfl⟩

theorem takeNumber_any (ao : Option Addr) (n cap : Nat) (bs : List UInt8) (w : World) (h : Rd w ao n cap bs) :
    Calls Tryz.prog 95 #[.slice ao n cap] w fun e w' => e = .returned (.tuple #[.int .i64 (numOf (takeN bs)), .int .i64 ((takeN bs).2.1 : Int), .int .i64 ((takeN bs).2.2 : Int)]) ∧ w = w' := by
  obtain ⟨h1, h2, h3, h4, h5⟩ := h
  unfold maxLen at h3
  rcases Nat.eq_zero_or_pos n with hz | hz
  · subst hz
    have : bs = [] := List.eq_nil_of_length_eq_zero h1
    subst this
    exact takeNumber_none ao cap w
  · obtain ⟨b, off, rfl, hc⟩ := h5 hz
    exact takeNumber_some b off n cap bs w (by omega) h1 hc

/-! ### lengths -/
def takeL (bs : List UInt8) : Nat × Nat × Nat :=
  if (takeN bs).2.2 ≠ 0 then (0, 0, (takeN bs).2.2)
  else if numOf (takeN bs) < 0 ∨ 1048576 < numOf (takeN bs) then (0, 0, 21)
  else ((numOf (takeN bs)).toNat, (takeN bs).2.1, 0)

theorem takeGo_size : ∀ (f i u : Nat) (bs : List UInt8), (takeGo f i u bs).2.2 = 0 → i < (takeGo f i u bs).2.1 ∧ (takeGo f i u bs).2.1 ≤ i + bs.length := by
  intro f
  induction f with
  | zero => intro i u bs h; cases bs <;> simp [takeGo] at h
  | succ f ih =>
    intro i u bs h
    cases bs with
    | nil => simp [takeGo] at h
    | cons g r =>
      simp only [takeGo] at h ⊢
      split
      · rename_i hc; rw [if_pos hc] at h; simp at h
      · rename_i hc
        rw [if_neg hc] at h
        split
        · rename_i hd
          rw [if_pos hd] at h
          split
          · rename_i he; rw [if_pos he] at h; simp at h
          · simp
        · rename_i hd
          rw [if_neg hd] at h
          have := ih _ _ _ h
          simp only [List.length_cons]
          omega
theorem takeN_size (bs : List UInt8) (h : (takeN bs).2.2 = 0) : 0 < (takeN bs).2.1 ∧ (takeN bs).2.1 ≤ bs.length := by
  have := takeGo_size 10 0 0 bs h
  unfold takeN
  omega
theorem takeL_size (bs : List UInt8) (h : (takeL bs).2.2 = 0) : 0 < (takeL bs).2.1 ∧ (takeL bs).2.1 ≤ bs.length ∧ (takeL bs).1 ≤ 1048576 := by
  unfold takeL at h ⊢
  split at h
  · rename_i hc; exact absurd h hc
  · rename_i hc
    split at h
    · simp at h
    · rename_i hd
      rw [if_neg hc, if_neg hd]
      have := takeN_size bs (by omega)
      exact ⟨this.1, this.2, by show (numOf (takeN bs)).toNat ≤ _; omega⟩
theorem ret_three {a b c a' b' c' : Value} (h1 : a = a') (h2 : b = b') (h3 : c = c') : Ending.returned (.tuple #[a, b, c]) = .returned (.tuple #[a', b', c']) := by rw [h1, h2, h3]

set_option maxHeartbeats 400000 in
theorem takeLength_any (ao : Option Addr) (n cap : Nat) (bs : List UInt8) (w : World) (h : Rd w ao n cap bs) :
    Calls Tryz.prog 221 #[.slice ao n cap] w fun e w' => e = .returned (.tuple #[.int .i64 ((takeL bs).1 : Int), .int .i64 ((takeL bs).2.1 : Int), .int .i64 ((takeL bs).2.2 : Int)]) ∧ w = w' := by
  have hcall := takeNumber_any ao n cap bs w h
  have hL : takeL bs = if (takeN bs).2.2 ≠ 0 then (0, 0, (takeN bs).2.2) else if numOf (takeN bs) < 0 ∨ 1048576 < numOf (takeN bs) then (0, 0, 21) else ((numOf (takeN bs)).toNat, (takeN bs).2.1, 0) := rfl
  generalize takeL bs = t at hL
  generalize numOf (takeN bs) = x at hcall hL
  generalize (takeN bs).2.1 = k at hcall hL
  generalize (takeN bs).2.2 = er at hcall hL
  have HC : Hid (Calls Tryz.prog 95 #[.slice ao n cap] w fun e w' => e = .returned (.tuple #[.int .i64 x, .int .i64 (k : Int), .int .i64 (er : Int)]) ∧ w = w') := hcall
  clear hcall h
  by_cases he : er = 0
  · subst he
    rw [if_neg (by simp)] at hL
    by_cases hx0 : x < 0
    · rw [if_pos (.inl hx0)] at hL
      subst hL
      go_enter Tryz.func221, Tryz.ntmps221
      go_wp2_with (go_at_call 95; refine HC.out.mono ?_; rintro e w' ⟨rfl, rfl⟩)
      go_ret3
      exact ⟨rfl, rfl⟩
    · by_cases hx1 : 1048576 < x
      · rw [if_pos (.inr hx1)] at hL
        subst hL
        go_enter Tryz.func221, Tryz.ntmps221
        go_wp2_with (go_at_call 95; refine HC.out.mono ?_; rintro e w' ⟨rfl, rfl⟩)
        go_ret3
        exact ⟨rfl, rfl⟩
      · rw [if_neg (by omega)] at hL
        subst hL
        go_enter Tryz.func221, Tryz.ntmps221
        go_wp2_with (go_at_call 95; refine HC.out.mono ?_; rintro e w' ⟨rfl, rfl⟩)
        go_ret3
        exact ⟨ret_three (by show Value.int .i64 x = .int .i64 ((x.toNat : Nat) : Int); rw [Int.toNat_of_nonneg (by omega)]) rfl rfl, rfl⟩
  · rw [if_pos he] at hL
    subst hL
    have he' : ((er : Int) == 0) = false := by simp; omega
    have he2 : ((er : Int) != 0) = true := by simp; omega
    clear he
    go_enter Tryz.func221, Tryz.ntmps221
    go_wp2_with (go_at_call 95; refine HC.out.mono ?_; rintro e w' ⟨rfl, rfl⟩)
    go_ret3
    exact ⟨rfl, rfl⟩
end Go.Proofs.YtibbenhplmmmiaaGreatDoor.Co

namespace Go.Proofs.YtibbenhplmmmiaaGreatDoor.Co
open Go.RowKit

/-- The text that bytes begin with, how many bytes it has with its length, which error. -/
def takeT (bs : List UInt8) : List UInt8 × Nat × Nat :=
  if (takeL bs).2.2 ≠ 0 then ([], 0, (takeL bs).2.2)
  else if bs.length - (takeL bs).2.1 < (takeL bs).1 then ([], 0, 20)
  else ((bs.drop (takeL bs).2.1).take (takeL bs).1, (takeL bs).2.1 + (takeL bs).1, 0)

theorem _root_.Go.Proofs.YtibbenhplmmmiaaGreatDoor.Rd.cut {w : World} {b off n cap : Nat} {bs : List UInt8} (h : Rd w (some ⟨b, off, none⟩) n cap bs) (l m : Nat) (hlm : l + m ≤ n) : Rd w (some ⟨b, off + l, none⟩) m (cap - l) ((bs.drop l).take m) := by
  obtain ⟨h1, h2, h3, h4, h5⟩ := h
  refine ⟨by simp; omega, by omega, by omega, (fun h => by cases h), fun hm => ?_⟩
  obtain ⟨b', off', hao, hc⟩ := h5 (by omega)
  cases hao
  refine ⟨b, off + l, rfl, fun i hi => ?_⟩
  have hi' : i < m := by simp at hi; omega
  have := hc (l + i) (by omega)
  rw [Nat.add_assoc, this]
  simp

set_option maxRecDepth 20000 in
set_option maxHeartbeats 400000 in
theorem takeText_any (ao : Option Addr) (n cap : Nat) (bs : List UInt8) (w : World) (h : Rd w ao n cap bs) :
    Calls Tryz.prog 154 #[.slice ao n cap] w fun e w' => e = .returned (.tuple #[.string ⟨(takeT bs).1.toArray⟩, .int .i64 ((takeT bs).2.1 : Int), .int .i64 ((takeT bs).2.2 : Int)]) ∧ w = w' := by
  have hcall := takeLength_any ao n cap bs w h
  have hsz := takeL_size bs
  have hT : takeT bs = if (takeL bs).2.2 ≠ 0 then ([], 0, (takeL bs).2.2) else if bs.length - (takeL bs).2.1 < (takeL bs).1 then ([], 0, 20) else ((bs.drop (takeL bs).2.1).take (takeL bs).1, (takeL bs).2.1 + (takeL bs).1, 0) := rfl
  generalize takeT bs = t at hT
  generalize (takeL bs).1 = m at hcall hT hsz
  generalize (takeL bs).2.1 = k at hcall hT hsz
  generalize (takeL bs).2.2 = er at hcall hT hsz
  have HC : Hid (Calls Tryz.prog 221 #[.slice ao n cap] w fun e w' => e = .returned (.tuple #[.int .i64 (m : Int), .int .i64 (k : Int), .int .i64 (er : Int)]) ∧ w = w') := hcall
  clear hcall
  have hn := h.2.2.1
  have hnc := h.2.1
  have hbl := h.1
  unfold maxLen at hn
  by_cases he : er = 0
  · subst he
    obtain ⟨hk0, hkn, hm1⟩ := hsz rfl
    clear hsz
    rw [if_neg (by simp)] at hT
    by_cases hlt : bs.length - k < m
    · rw [if_pos hlt] at hT
      subst hT
      clear h
      have hlt' : (n : Int) - (k : Int) < (m : Int) := by omega
      go_enter Tryz.func154, Tryz.ntmps154
      go_wp2_with (go_at_call 221; refine HC.out.mono ?_; rintro e w' ⟨rfl, rfl⟩)
      go_ret3
      exact ⟨rfl, rfl⟩
    · rw [if_neg hlt] at hT
      subst hT
      have hlt' : ¬ (n : Int) - (k : Int) < (m : Int) := by omega
      obtain ⟨b, off, rfl, _⟩ := h.2.2.2.2 (by omega)
      by_cases hcap : cap = k
      · have hm0 : m = 0 := by omega
        subst hm0
        subst hcap
        have hcv := fun W : World => run_string_of (P := Tryz.prog) (w := W) (ao := some ⟨b, off, none⟩) (n := 0) (cap := 0) (bs := []) 36 9 5 Tryz.underlying36 Tryz.underlying5 Tryz.underlying9 ⟨rfl, Nat.le_refl _, Nat.zero_le _, (fun h => by cases h), fun h => by omega⟩
        clear h
        go_enter Tryz.func154, Tryz.ntmps154
        go_wp2_with (go_at_call 221; refine HC.out.mono ?_; rintro e w' ⟨rfl, rfl⟩)
        go_ret3
        exact ⟨rfl, rfl⟩
      · have hcv := run_string_of (P := Tryz.prog) 36 9 5 Tryz.underlying36 Tryz.underlying5 Tryz.underlying9 (h.cut k m (by omega))
        clear h
        go_enter Tryz.func154, Tryz.ntmps154
        go_wp2_with (go_at_call 221; refine HC.out.mono ?_; rintro e w' ⟨rfl, rfl⟩)
        go_ret3
        exact ⟨ret_three rfl rfl rfl, rfl⟩
  · rw [if_pos he] at hT
    subst hT
    clear hsz h
    have he2 : ((er : Int) != 0) = true := by simp; omega
    clear he
    go_enter Tryz.func154, Tryz.ntmps154
    go_wp2_with (go_at_call 221; refine HC.out.mono ?_; rintro e w' ⟨rfl, rfl⟩)
    go_ret3
    exact ⟨rfl, rfl⟩
end Go.Proofs.YtibbenhplmmmiaaGreatDoor.Co

namespace Go.Proofs.YtibbenhplmmmiaaGreatDoor.Co
open Go.RowKit

/-- The cells of a Reader. -/
def rCells (ao : Option Addr) (n cap : Nat) (k e : Int) : Array Value := #[.slice ao n cap, .bool true, .int .i64 k, .int .i64 e]

/-- Block p holds a Reader that NewReader made, over the bytes bs; k of them are passed; e is the first error. -/
def Rdr (w : World) (p : Nat) (bs : List UInt8) (k e : Nat) : Prop :=
  ∃ ao cap, w.heap[p]? = some (.cells (rCells ao bs.length cap (k : Int) (e : Int)) 135 (0, 0)) ∧ Rd w ao bs.length cap bs ∧ k ≤ bs.length ∧ (ao = none ∨ ∃ g, ao = some ⟨g, 0, none⟩ ∧ g ≠ p)

theorem rCells_free {w : World} {p : Nat} {C : Array Value} {t : TypeId} (h : w.heap[p]? = some (.cells C t (0, 0))) (j : Nat) : w.frozen? ⟨p, j, none⟩ = false := by
  simp [World.frozen?, h]

theorem rCell (w : World) {p : Nat} {ao : Option Addr} {n cap : Nat} {k e : Int} {t : TypeId} (h : w.heap[p]? = some (.cells (rCells ao n cap k e) t (0, 0))) :
    w.cell? ⟨p, 0, none⟩ = some (.slice ao n cap) ∧ w.cell? ⟨p, 1, none⟩ = some (.bool true) ∧ w.cell? ⟨p, 2, none⟩ = some (.int .i64 k) ∧ w.cell? ⟨p, 3, none⟩ = some (.int .i64 e) := by
  refine ⟨?_, ?_, ?_, ?_⟩
  all_goals
    rw [cell_of_row w p _ _ t (0, 0) h]
    rfl

set_option maxHeartbeats 400000 in
theorem wasMade_yes (p : Nat) (k e : Int) (w : World) (c1 : w.cell? ⟨p, 1, none⟩ = some (.bool true)) (c2 : w.cell? ⟨p, 2, none⟩ = some (.int .i64 k)) (c3 : w.cell? ⟨p, 3, none⟩ = some (.int .i64 e)) :
    Calls Tryz.prog 152 #[.pointer (some ⟨p, 0, none⟩)] w fun e w' => e = .returned (.bool true) ∧ w = w' := by
  go_enter Tryz.func152, Tryz.ntmps152
  go_wp2
  go_ret
  exact ⟨rfl, rfl⟩

set_option maxHeartbeats 400000 in
theorem err_yes (p : Nat) (bs : List UInt8) (k e : Nat) (w : World) (h : Rdr w p bs k e) :
    Calls Tryz.prog 94 #[.pointer (some ⟨p, 0, none⟩)] w fun x w' => x = .returned (.int .i64 (e : Int)) ∧ w = w' := by
  obtain ⟨ao, cap, hb, _, _, _⟩ := h
  obtain ⟨c0, c1, c2, c3⟩ := rCell w hb
  clear hb
  go_enter Tryz.func94, Tryz.ntmps94
  go_wp2_with (go_at_call 152; refine (wasMade_yes p _ _ _ c1 c2 c3).mono ?_; rintro e w' ⟨rfl, rfl⟩)
  go_ret
  exact ⟨rfl, rfl⟩

theorem _root_.Go.Proofs.YtibbenhplmmmiaaGreatDoor.Rd.drewN {w : World} {ao : Option Addr} {n cap : Nat} {bs : List UInt8} (h : Rd w ao n cap bs) (q : Nat) : Rd (w.drewN q) ao n cap bs := by
  obtain ⟨h1, h2, h3, h4, h5⟩ := h
  refine ⟨h1, h2, h3, h4, fun hn => ?_⟩
  obtain ⟨b, off, hao, hc⟩ := h5 hn
  exact ⟨b, off, hao, fun i hi => by simpa using hc i hi⟩

theorem Rdr.drewN {w : World} {p : Nat} {bs : List UInt8} {k e : Nat} (h : Rdr w p bs k e) (q : Nat) : Rdr (w.drewN q) p bs k e := by
  obtain ⟨ao, cap, hb, hr, hk, hg⟩ := h
  exact ⟨ao, cap, by simpa using hb, hr.drewN q, hk, hg⟩

set_option maxHeartbeats 400000 in
theorem rest_any (p : Nat) (bs : List UInt8) (k e : Nat) (w : World) (h : Rdr w p bs k e) :
    Calls Tryz.prog 96 #[.pointer (some ⟨p, 0, none⟩)] w fun x w' => ∃ ao cap nq, x = .returned (.slice ao (bs.length - k) cap) ∧ w' = w.drewN nq ∧ Rd w ao (bs.length - k) cap (bs.drop k) := by
  obtain ⟨ao, cap, hb, hr, hk, hg⟩ := h
  obtain ⟨c0, c1, c2, c3⟩ := rCell w hb
  have hn := hr.2.2.1
  have hnc := hr.2.1
  unfold maxLen at hn
  clear hb
  rcases hg with rfl | ⟨g, rfl, _⟩
  · have h0 := hr.2.2.2.1 rfl
    obtain ⟨h0, rfl⟩ := h0
    have hk0 : k = 0 := by omega
    subst hk0
    have : bs = [] := List.eq_nil_of_length_eq_zero h0
    subst this
    go_enter Tryz.func96, Tryz.ntmps96
    go_wp2
    go_quiet (fail)
    go_wp2
    go_ret
    exact ⟨_, _, nq, rfl, rfl, Rd.nil w⟩
  · by_cases hc : cap = k
    · have hlen : bs.length = k := by omega
      have hR : Rd w (some ⟨g, 0, none⟩) (bs.length - k) (cap - k) (bs.drop k) := ⟨by simp, by omega, by unfold maxLen; omega, (fun h => by cases h), fun h => by omega⟩
      have HL : Hid (bs.length = k) := hlen
      have HC : Hid (cap = k) := hc
      have hc' : ((cap : Nat) = k) = True := by simp [hc]
      clear hlen hc hr
      go_enter Tryz.func96, Tryz.ntmps96
      go_wp2
      go_quiet (fail)
      go_wp2
      go_ret
      exact ⟨_, _, nq, rfl, rfl, hR⟩
    · have hR := hr.cut k (bs.length - k) (by omega)
      rw [List.take_of_length_le (by simp), Nat.zero_add] at hR
      clear hr
      go_enter Tryz.func96, Tryz.ntmps96
      go_wp2
      go_quiet (fail)
      go_wp2
      go_ret
      exact ⟨_, _, nq, rfl, rfl, hR⟩
end Go.Proofs.YtibbenhplmmmiaaGreatDoor.Co
