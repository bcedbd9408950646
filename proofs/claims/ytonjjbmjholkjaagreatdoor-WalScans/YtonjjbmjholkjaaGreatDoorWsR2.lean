/-
  The contract of the document's answer longstopref01.number: what the call tells of any bytes.
-/
import Derived.Test.YtonjjbmjholkjaaGreatDoorWsR1
namespace Go.Proofs.YtonjjbmjholkjaaGreatDoor
open Go.RowKit

theorem radd_group (u i : Nat) (g : UInt8) (hu : u < 128 ^ i) (hi : i ≤ 8 ∨ (i = 9 ∧ g.toNat ≤ 1)) :
    IntKind.u64.wrap ((u : Int) + IntKind.u64.wrap ((g.toNat : Int) % 128 * 2 ^ (7 * i))) = ((u + g.toNat % 128 * 128 ^ i : Nat) : Int) := by
  have hlt := group_lt u i g hu hi
  have e1 : (g.toNat : Int) % 128 = ((g.toNat % 128 : Nat) : Int) := by omega
  have e2 : (2 : Int) ^ (7 * i) = ((128 ^ i : Nat) : Int) := by rw [← pow128]; simp
  rw [e1, e2, ← Int.natCast_mul]
  generalize g.toNat % 128 * 128 ^ i = m at hlt
  rw [IntKind.wrap_u64, IntKind.wrap_u64]
  omega

set_option maxRecDepth 100000 in
set_option maxRecDepth 20000 in
set_option maxHeartbeats 1000000 in
theorem rtake_some (b off n cap : Nat) (bs : List UInt8) (w : World) (hn : n ≤ 9223372036854775807) (hl : bs.length = n) (hc : ∀ i (h : i < bs.length), w.cell? ⟨b, off + i, none⟩ = some (.int .u8 (bs[i].toNat : Int))) :
    Calls Tryz.prog 40 #[.slice (some ⟨b, off, none⟩) n cap] w fun e w' => e = .returned (.tuple #[.int .i64 (numOf (takeN bs)), .int .i64 ((takeN bs).2.1 : Int), .int .i64 ((takeN bs).2.2 : Int)]) ∧ w = w' := by
  go_enter Tryz.func40, Tryz.ntmps40
  go_wp2
  go_loop [5, 6] (fun r q => ∃ (i u : Nat), q = .int .i64 (i : Int) ∧ r = .int .u64 (u : Int) ∧ i ≤ n ∧ i ≤ 9 ∧ u < 128 ^ i ∧ Hid (takeN bs = takeGo (10 - i) i u (bs.drop i))) (fun _ q => 10 - (intOf q).toNat)
  case atStart => exact ⟨0, 0, rfl, rfl, by omega, by omega, by decide, rfl⟩
  case round =>
    obtain ⟨i, u, rfl, rfl, hin, hi9, hu, ht⟩ := hrel
    have hi10 : (i : Int) < 10 := by omega
    by_cases hi : i = n
    · have hdr : bs.drop i = [] := List.drop_eq_nil_of_le (by omega)
      have hne : (n : Int) ≤ (i : Int) := by omega
      have htt := ht.out
      rw [hdr, take_end] at htt
      have HT : Hid (takeN bs = (0, 0, 20)) := htt
      clear htt ht hdr hc hi
      go_wp2
      go_ret3
      exact ⟨ret_take HT.out, rfl⟩
    · have hck := hc i (by omega)
      have hdr : bs.drop i = bs[i] :: bs.drop (i + 1) := List.drop_eq_getElem_cons (by omega)
      have htt := ht.out
      rw [hdr, show 10 - i = (9 - i) + 1 from by omega] at htt
      generalize bs[i] = g at hck htt
      have hlt : (i : Int) < (n : Int) := by omega
      have hgl : (g.toNat : Int) ≤ 255 := by have := g.toNat_lt; omega
      have HU : Hid (u < 128 ^ i) := hu
      clear hc ht hdr hu
      by_cases hbad : i = 9 ∧ 1 < g.toNat
      · rw [take_bad _ _ _ _ _ hbad] at htt
        have HT : Hid (takeN bs = (0, 0, 21)) := htt
        obtain ⟨h9, hg1⟩ := hbad
        have h9' : ((i : Int) == 9) = true := by simp; omega
        clear htt h9
        have hg2 : (1 : Int) < (g.toNat : Int) := by omega
        go_wp2
        go_ret3
        exact ⟨ret_take HT.out, rfl⟩
      · have hE := radd_group u i g HU.out (by have := g.toNat_lt; omega)
        have hu' : u + g.toNat % 128 * 128 ^ i < 128 ^ (i + 1) := by
          have hm : g.toNat % 128 ≤ 127 := by have := Nat.mod_lt g.toNat (show 0 < 128 by decide); omega
          have h2 := Nat.mul_le_mul_right (128 ^ i) hm
          have h3 := HU.out
          rw [Nat.pow_succ]
          omega
        have hx64 : 127 < g.toNat ∨ u + g.toNat % 128 * 128 ^ i < 18446744073709551616 := by
          by_cases h : 127 < g.toNat
          · exact .inl h
          · exact .inr (group_lt u i g HU.out (by omega))
        generalize hx : u + g.toNat % 128 * 128 ^ i = x at hE hu' hx64
        have HU' : Hid (x < 128 ^ (i + 1)) := hu'
        clear hu'
        by_cases hmore : 127 < g.toNat
        · rw [take_next _ _ _ _ _ hbad hmore, hx] at htt
          have HT : Hid (takeN bs = takeGo (9 - i) (i + 1) x (List.drop (i + 1) bs)) := htt
          have hg2 : ¬ (g.toNat : Int) < 128 := by omega
          have hi8 : i ≤ 8 := by omega
          have h9' : ((i : Int) == 9) = false := by simp; omega
          clear htt hx hx64 hbad
          go_wp2
          go_round
          case rel => exact ⟨i + 1, x, by go_num, rfl, by omega, by omega, HU'.out, by rw [show 10 - (i + 1) = 9 - i from by omega]; exact HT⟩
          case measure => simp [intOf]; omega
        · by_cases hz : 0 < i ∧ g.toNat = 0
          · rw [take_zero _ _ _ _ _ hbad (by omega) hz] at htt
            have HT : Hid (takeN bs = (0, 0, 21)) := htt
            have hg0 : ((g.toNat : Int) == 0) = true := by simp; omega
            have hg2 : (g.toNat : Int) < 128 := by omega
            have hg4 : ¬ (1 : Int) < (g.toNat : Int) := by omega
            have hi1 : (0 : Int) < (i : Int) := by omega
            clear htt hx hx64 hbad hz
            by_cases h9 : 9 ≤ i
            · have h9' : ((i : Int) == 9) = true := by simp; omega
              go_wp2
              go_ret3
              exact ⟨ret_take HT.out, rfl⟩
            · have h9' : ((i : Int) == 9) = false := by simp; omega
              go_wp2
              go_ret3
              exact ⟨ret_take HT.out, rfl⟩
          · rw [take_last _ _ _ _ _ hbad (by omega) hz, hx] at htt
            have HT : Hid (takeN bs = (x, i + 1, 0)) := htt
            have hx64' : x < 18446744073709551616 := by omega
            have hg2 : (g.toNat : Int) < 128 := by omega
            clear htt hx hx64
            by_cases hi1 : 0 < i
            · have hg0 : ((g.toNat : Int) == 0) = false := by simp; omega
              by_cases h9 : 9 ≤ i
              · have h9' : ((i : Int) == 9) = true := by simp; omega
                have hg4 : ¬ (1 : Int) < (g.toNat : Int) := by omega
                clear hbad hz
                go_wp2_with (go_at_call 70; refine (runfold_any x _ hx64').mono ?_; rintro e w' ⟨rfl, rfl⟩)
                go_ret3
                exact ⟨ret_take HT.out, rfl⟩
              · have h9' : ((i : Int) == 9) = false := by simp; omega
                clear hbad hz
                go_wp2_with (go_at_call 70; refine (runfold_any x _ hx64').mono ?_; rintro e w' ⟨rfl, rfl⟩)
                go_ret3
                exact ⟨ret_take HT.out, rfl⟩
            · have h9' : ((i : Int) == 9) = false := by simp; omega
              have hi0 : ¬ (0 : Int) < (i : Int) := by omega
              clear hbad hz
              by_cases hgz : g.toNat = 0
              · have hg0 : ((g.toNat : Int) == 0) = true := by simp; omega
                have HG : Hid (g.toNat = 0) := hgz
                clear hgz
                go_wp2_with (go_at_call 70; refine (runfold_any x _ hx64').mono ?_; rintro e w' ⟨rfl, rfl⟩)
                go_ret3
                exact ⟨ret_take HT.out, rfl⟩
              · have hg0 : ((g.toNat : Int) == 0) = false := by simp; omega
                clear hgz
                go_wp2_with (go_at_call 70; refine (runfold_any x _ hx64').mono ?_; rintro e w' ⟨rfl, rfl⟩)
                go_ret3
                exact ⟨ret_take HT.out, rfl⟩
end Go.Proofs.YtonjjbmjholkjaaGreatDoor
