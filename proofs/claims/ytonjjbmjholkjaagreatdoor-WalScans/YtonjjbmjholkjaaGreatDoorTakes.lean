/-
  The contracts of codec.takeNumber, codec.takeLength, codec.takeText, codec.takeSum: what each call tells of any bytes.
-/
import Derived.Test.YtonjjbmjholkjaaGreatDoorRecs
import Derived.Test.YtonjjbmjholkjaaGreatDoorJumps
import Derived.WalkMore
namespace Go.Proofs.YtonjjbmjholkjaaGreatDoor
open Go.RowKit

/-- The number that bytes begin with, as an int. -/
def numOf (t : Nat × Nat × Nat) : Int := if t.2.2 = 0 then unfoldN t.1 else 0

theorem and127 (g : UInt8) : bits .and .u8 (g.toNat : Int) 127 = ((g.toNat % 128 : Nat) : Int) := by
  rw [show (127 : Int) = ((127 : Nat) : Int) from rfl, u8_and_nat _ _ g.toNat_lt (by decide), nat_mask7]

theorem pow128 (i : Nat) : (2 : Nat) ^ (7 * i) = 128 ^ i := by rw [Nat.pow_mul]

theorem group_lt (u i : Nat) (g : UInt8) (hu : u < 128 ^ i) (hi : i ≤ 8 ∨ (i = 9 ∧ g.toNat ≤ 1)) : u + g.toNat % 128 * 128 ^ i < 18446744073709551616 := by
  have hm : g.toNat % 128 < 128 := Nat.mod_lt _ (by decide)
  have hlt : g.toNat % 128 * 128 ^ i + 128 ^ i ≤ 18446744073709551616 := by
    clear hu
    rcases hi with h | ⟨rfl, h⟩
    · have h8 : 128 ^ i ≤ 128 ^ 8 := Nat.pow_le_pow_right (by decide) h
      have : g.toNat % 128 * 128 ^ i ≤ 127 * 128 ^ i := Nat.mul_le_mul_right _ (by omega)
      omega
    · have h1 : g.toNat % 128 = 0 ∨ g.toNat % 128 = 1 := by omega
      rcases h1 with h1 | h1 <;> rw [h1] <;> decide
  omega
theorem or_group (u i : Nat) (g : UInt8) (hu : u < 128 ^ i) (hi : i ≤ 8 ∨ (i = 9 ∧ g.toNat ≤ 1)) :
    bits .or .u64 (u : Int) (IntKind.u64.wrap (IntKind.u64.wrap (bits .and .u8 (g.toNat : Int) 127) * 2 ^ (7 * i))) = ((u + g.toNat % 128 * 128 ^ i : Nat) : Int) := by
  have hlt := group_lt u i g hu hi
  have e1 : IntKind.u64.wrap (bits .and .u8 (g.toNat : Int) 127) = ((g.toNat % 128 : Nat) : Int) := by
    rw [and127, IntKind.wrap_u64]; omega
  have e2 : (2 : Int) ^ (7 * i) = ((128 ^ i : Nat) : Int) := by rw [← pow128]; simp
  rw [e1, e2, ← Int.natCast_mul]
  generalize hm2 : g.toNat % 128 * 128 ^ i = m at hlt
  have e3 : IntKind.u64.wrap (m : Int) = (m : Int) := by rw [IntKind.wrap_u64]; omega
  rw [e3, u64_or_nat _ _ (by omega) (by omega), Nat.or_comm]
  congr 1
  rw [nat_join (7 * i) m u (by rw [pow128, ← hm2]; exact Nat.mul_mod_left _ _) (by rw [pow128]; exact hu)]
  omega

theorem take_next (f i u : Nat) (g : UInt8) (r : List UInt8) (h1 : ¬ (i = 9 ∧ 1 < g.toNat)) (h2 : 127 < g.toNat) : takeGo (f + 1) i u (g :: r) = takeGo f (i + 1) (u + g.toNat % 128 * 128 ^ i) r := by
  simp only [takeGo]; rw [if_neg h1, if_neg (by omega)]
theorem take_bad (f i u : Nat) (g : UInt8) (r : List UInt8) (h1 : i = 9 ∧ 1 < g.toNat) : takeGo (f + 1) i u (g :: r) = (0, 0, 21) := by
  simp only [takeGo]; rw [if_pos h1]
theorem take_zero (f i u : Nat) (g : UInt8) (r : List UInt8) (h1 : ¬ (i = 9 ∧ 1 < g.toNat)) (h2 : g.toNat < 128) (h3 : 0 < i ∧ g.toNat = 0) : takeGo (f + 1) i u (g :: r) = (0, 0, 21) := by
  simp only [takeGo]; rw [if_neg h1, if_pos h2, if_pos h3]
theorem take_last (f i u : Nat) (g : UInt8) (r : List UInt8) (h1 : ¬ (i = 9 ∧ 1 < g.toNat)) (h2 : g.toNat < 128) (h3 : ¬ (0 < i ∧ g.toNat = 0)) : takeGo (f + 1) i u (g :: r) = (u + g.toNat % 128 * 128 ^ i, i + 1, 0) := by
  simp only [takeGo]; rw [if_neg h1, if_pos h2, if_neg h3]
theorem take_end (f i u : Nat) : takeGo f i u [] = (0, 0, 20) := by cases f <;> rfl

theorem ret_take {t t' : Nat × Nat × Nat} (h : t = t') : Ending.returned (.tuple #[.int .i64 (numOf t'), .int .i64 (t'.2.1 : Int), .int .i64 (t'.2.2 : Int)]) = .returned (.tuple #[.int .i64 (numOf t), .int .i64 (t.2.1 : Int), .int .i64 (t.2.2 : Int)]) := by rw [h]

set_option maxHeartbeats 1000000 in
theorem takeNumber_some (b off n cap : Nat) (bs : List UInt8) (w : World) (hn : n ≤ 9223372036854775807) (hl : bs.length = n) (hc : ∀ i (h : i < bs.length), w.cell? ⟨b, off + i, none⟩ = some (.int .u8 (bs[i].toNat : Int))) :
    Calls Tryz.prog 90 #[.slice (some ⟨b, off, none⟩) n cap] w fun e w' => e = .returned (.tuple #[.int .i64 (numOf (takeN bs)), .int .i64 ((takeN bs).2.1 : Int), .int .i64 ((takeN bs).2.2 : Int)]) ∧ w = w' := by
  go_enter Tryz.func90, Tryz.ntmps90
  go_wp2
  refine wp_scope_lab 0 (fun a' w' => w' = w ∧ ∃ (i u : Nat) (u6 u7 u8 u9 u10 u11 u12 u13 u14 u15 u16 u17 u18 u19 u20 u21 u22 u23 u24 u25 u26 u27 u28 u29 u30 : Value),
      a' = { tmps := #[.slice (some ⟨b, off, none⟩) n cap, undef, .int .i64 0, .int .i64 (i : Int), .int .i64 0, .int .u64 (u : Int), u6, u7, u8, u9, u10, u11, u12, u13, u14, u15, u16, u17, u18, u19, u20, u21, u22, u23, u24, u25, u26, u27, u28, u29, u30,
        undef, undef, undef, undef, undef, undef, undef, undef, undef, undef, undef, undef, undef, undef, undef], defers := [] } ∧ i ≤ n ∧ i ≤ 9 ∧ u < 128 ^ i ∧ Hid (takeN bs = takeGo (10 - i) i u (bs.drop i)))
    (fun a' _ => 10 - (intOf (a'.tmps.getD 3 undef)).toNat) rfl ?_ ?_
  · go_wp2
    exact ⟨trivial, 0, 0, _, _, _, _, _, _, _, _, _, _, _, _, _, _, _, _, _, _, _, _, _, _, _, _, _, rfl, by omega, by omega, by decide, rfl⟩
  · rintro a' w' ⟨rfl, i, u, u6, u7, u8, u9, u10, u11, u12, u13, u14, u15, u16, u17, u18, u19, u20, u21, u22, u23, u24, u25, u26, u27, u28, u29, u30, rfl, hin, hi9, hu, ht⟩
    by_cases hi : i = n
    · have hdr : bs.drop i = [] := List.drop_eq_nil_of_le (by omega)
      have hne : ((i : Int) == (n : Int)) = true := by simp; omega
      have htt := ht.out
      rw [hdr, take_end] at htt
      have HT : Hid (takeN bs = (0, 0, 20)) := htt
      clear htt ht hdr hc
      go_wp2
      simp only [Exit.jump]
      go_ret3
      exact ⟨ret_take HT.out, rfl⟩
    · have hck := hc i (by omega)
      have hdr : bs.drop i = bs[i] :: bs.drop (i + 1) := List.drop_eq_getElem_cons (by omega)
      have htt := ht.out
      rw [hdr, show 10 - i = (9 - i) + 1 from by omega] at htt
      generalize bs[i] = g at hck htt
      have hlt : (i : Int) < (n : Int) := by omega
      have hne : ((i : Int) == (n : Int)) = false := by simp; omega
      have hgl : (g.toNat : Int) ≤ 255 := by have := g.toNat_lt; omega
      have hi' : (i : Int) ≤ 9 := by omega
      clear hc ht hdr
      by_cases hbad : i = 9 ∧ 1 < g.toNat
      · rw [take_bad _ _ _ _ _ hbad] at htt
        have HT : Hid (takeN bs = (0, 0, 21)) := htt
        obtain ⟨rfl, hg1⟩ := hbad
        clear htt
        have hg2 : (1 : Int) < (g.toNat : Int) := by omega
        by_cases hg3 : (127 : Int) < (g.toNat : Int)
        all_goals
          go_wp2
          try simp only [Exit.jump]
          go_ret3
          exact ⟨ret_take HT.out, rfl⟩
      · have hE := or_group u i g hu (by have := g.toNat_lt; omega)
        have hu' : u + g.toNat % 128 * 128 ^ i < 128 ^ (i + 1) := by
          have hm : g.toNat % 128 ≤ 127 := by have := Nat.mod_lt g.toNat (show 0 < 128 by decide); omega
          have h2 := Nat.mul_le_mul_right (128 ^ i) hm
          rw [Nat.pow_succ]
          omega
        have hx64 : 127 < g.toNat ∨ u + g.toNat % 128 * 128 ^ i < 18446744073709551616 := by
          by_cases h : 127 < g.toNat
          · exact .inl h
          · exact .inr (group_lt u i g hu (by omega))
        generalize hx : u + g.toNat % 128 * 128 ^ i = x at hE hu' hx64
        by_cases hmore : 127 < g.toNat
        · rw [take_next _ _ _ _ _ hbad hmore, hx] at htt
          have HT : Hid (takeN bs = takeGo (9 - i) (i + 1) x (List.drop (i + 1) bs)) := htt
          have hg2 : (127 : Int) < (g.toNat : Int) := by omega
          have hi8 : (i : Int) + 1 < 10 := by omega
          clear htt hx
          go_wp2
          go_step3
          rw [show ((i : Int) + 1) = ((i + 1 : Nat) : Int) from by omega]
          refine ⟨rfl, ⟨rfl, i + 1, x, _, _, _, _, _, _, _, _, _, _, _, _, _, _, _, _, _, _, _, _, _, _, _, _, _, rfl, by omega, by omega, hu', ?_⟩, ?_⟩
          · rw [show 10 - (i + 1) = 9 - i from by omega]; exact HT
          · simp [intOf]; omega
        · by_cases hz : 0 < i ∧ g.toNat = 0
          · rw [take_zero _ _ _ _ _ hbad (by omega) hz] at htt
            have HT : Hid (takeN bs = (0, 0, 21)) := htt
            clear htt hx
            have hg0 : ((g.toNat : Int) == 0) = true := by simp; omega
            have hg2 : ¬ (127 : Int) < (g.toNat : Int) := by omega
            have hg4 : ¬ (1 : Int) < (g.toNat : Int) := by omega
            have hi1 : (1 : Int) < (i : Int) + 1 := by omega
            by_cases hi10 : 9 ≤ i
            · have hi11 : ((i : Int) + 1 == 10) = true := by simp; omega
              go_wp2
              try simp only [Exit.jump]
              go_ret3
              exact ⟨ret_take HT.out, rfl⟩
            · have hi11 : ((i : Int) + 1 == 10) = false := by simp; omega
              go_wp2
              try simp only [Exit.jump]
              go_ret3
              exact ⟨ret_take HT.out, rfl⟩
          · rw [take_last _ _ _ _ _ hbad (by omega) hz, hx] at htt
            have HT : Hid (takeN bs = (x, i + 1, 0)) := htt
            clear htt hx
            have hx64' : x < 18446744073709551616 := by omega
            have hg2 : ¬ (127 : Int) < (g.toNat : Int) := by omega
            have hnum : Hid (numOf (x, i + 1, 0) = unfoldN x) := rfl
            clear hx64
            by_cases hi1 : 0 < i
            · have hg0 : ((g.toNat : Int) == 0) = false := by simp; omega
              have hi1' : (1 : Int) < (i : Int) + 1 := by omega
              by_cases hi10 : 9 ≤ i
              · have hi11 : ((i : Int) + 1 == 10) = true := by simp; omega
                have hg4 : ¬ (1 : Int) < (g.toNat : Int) := by omega
                go_wp2_with (go_at_call 97; refine (unfold_any x _ hx64').mono ?_; rintro e w' ⟨rfl, rfl⟩)
                try simp only [Exit.jump]
                go_ret3
                exact ⟨ret_take HT.out, rfl⟩
              · have hi11 : ((i : Int) + 1 == 10) = false := by simp; omega
                go_wp2_with (go_at_call 97; refine (unfold_any x _ hx64').mono ?_; rintro e w' ⟨rfl, rfl⟩)
                try simp only [Exit.jump]
                go_ret3
                exact ⟨ret_take HT.out, rfl⟩
            · have hi0 : ¬ (1 : Int) < (i : Int) + 1 := by omega
              have hi11 : ((i : Int) + 1 == 10) = false := by simp; omega
              go_wp2_with (go_at_call 97; refine (unfold_any x _ hx64').mono ?_; rintro e w' ⟨rfl, rfl⟩)
              try simp only [Exit.jump]
              go_ret3
              exact ⟨ret_take HT.out, rfl⟩
end Go.Proofs.YtonjjbmjholkjaaGreatDoor
