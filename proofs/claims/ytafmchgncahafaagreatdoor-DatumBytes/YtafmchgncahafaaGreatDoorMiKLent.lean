/-
  The contract of the document's answer longstopref01.number: what the call tells of any bytes.
  The contract of the document's answer longstopref01.Sum: bit by bit it comes to the same sum.
  The contracts of longstoplaw01.Lent and Stays: bytes with marked room behind them, and that they are as they were.
-/
import Derived.Test.YtafmchgncahafaaGreatDoorKRef1
import Derived.Test.YtafmchgncahafaaGreatDoorMgLJumps
import Derived.BigQuiet
namespace Go.Proofs.YtafmchgncahafaaGreatDoor.Co
open Go.RowKit

theorem radd_group (u i : Nat) (g : UInt8) (hu : u < 128 ^ i) (hi : i ≤ 8 ∨ (i = 9 ∧ g.toNat ≤ 1)) :
    IntKind.u64.wrap ((u : Int) + IntKind.u64.wrap ((g.toNat : Int) % 128 * 2 ^ (7 * i))) = ((u + g.toNat % 128 * 128 ^ i : Nat) : Int) := by
  have hlt := group_lt u i g hu hi
  have e1 : (g.toNat : Int) % 128 = ((g.toNat % 128 : Nat) : Int) := by omega
  have e2 : (2 : Int) ^ (7 * i) = ((128 ^ i : Nat) : Int) := by rw [← pow128]; simp
  rw [e1, e2, ← Int.natCast_mul]
  generalize g.toNat % 128 * 128 ^ i = m at hlt
  rw [IntKind.wrap_u64, IntKind.wrap_u64]
  omega

set_option maxRecDepth 100000 in
set_option maxHeartbeats 1000000 in
theorem rtake_some (b off n cap : Nat) (bs : List UInt8) (w : World) (hn : n ≤ 9223372036854775807) (hl : bs.length = n) (hc : ∀ i (h : i < bs.length), w.cell? ⟨b, off + i, none⟩ = some (.int .u8 (bs[i].toNat : Int))) :
    Calls Tryz.prog 74 #[.slice (some ⟨b, off, none⟩) n cap] w fun e w' => e = .returned (.tuple #[.int .i64 (numOf (takeN bs)), .int .i64 ((takeN bs).2.1 : Int), .int .i64 ((takeN bs).2.2 : Int)]) ∧ w = w' := by
  go_enter Tryz.func74, Tryz.ntmps74
  go_wp2
  go_loop [5, 6] (fun r q => ∃ (i u : Nat), q = .int .i64 (i : Int) ∧ r = .int .u64 (u : Int) ∧ i ≤ n ∧ i ≤ 9 ∧ u < 128 ^ i ∧ Hid (takeN bs = takeGo (10 - i) i u (bs.drop i))) (fun _ q => 10 - (intOf q).toNat)
  case atStart => exact ⟨0, 0, rfl, rfl, by omega, by omega, by decide, rfl⟩
  case round =>
    obtain ⟨i, u, rfl, rfl, hin, hi9, hu, ht⟩ := hrel
    have hi10 : (i : Int) < 10 := by omega
    by_cases hi : i = n
    · have hdr : bs.drop i = [] := List.drop_eq_nil_of_le (by omega)
      have hne : (n : Int) ≤ (i : Int) := by omega
      have htt := ht.out
      rw [hdr, take_end] at htt
      have HT : Hid (takeN bs = (0, 0, 20)) := htt
      clear htt ht hdr hc hi
      go_wp2
      go_ret3
      exact ⟨ret_take HT.out, rfl⟩
    · have hck := hc i (by omega)
      have hdr : bs.drop i = bs[i] :: bs.drop (i + 1) := List.drop_eq_getElem_cons (by omega)
      have htt := ht.out
      rw [hdr, show 10 - i = (9 - i) + 1 from by omega] at htt
      generalize bs[i] = g at hck htt
      have hlt : (i : Int) < (n : Int) := by omega
      have hgl : (g.toNat : Int) ≤ 255 := by have := g.toNat_lt; omega
      have HU : Hid (u < 128 ^ i) := hu
      clear hc ht hdr hu
      by_cases hbad : i = 9 ∧ 1 < g.toNat
      · rw [take_bad _ _ _ _ _ hbad] at htt
        have HT : Hid (takeN bs = (0, 0, 21)) := htt
        obtain ⟨h9, hg1⟩ := hbad
        have h9' : ((i : Int) == 9) = true := by simp; omega
        clear htt h9
        have hg2 : (1 : Int) < (g.toNat : Int) := by omega
        go_wp2
        go_ret3
        exact ⟨ret_take HT.out, rfl⟩
      · have hE := radd_group u i g HU.out (by have := g.toNat_lt; omega)
        have hu' : u + g.toNat % 128 * 128 ^ i < 128 ^ (i + 1) := by
          have hm : g.toNat % 128 ≤ 127 := by have := Nat.mod_lt g.toNat (show 0 < 128 by decide); omega
          have h2 := Nat.mul_le_mul_right (128 ^ i) hm
          have h3 := HU.out
          rw [Nat.pow_succ]
          omega
        have hx64 : 127 < g.toNat ∨ u + g.toNat % 128 * 128 ^ i < 18446744073709551616 := by
          by_cases h : 127 < g.toNat
          · exact .inl h
          · exact .inr (group_lt u i g HU.out (by omega))
        generalize hx : u + g.toNat % 128 * 128 ^ i = x at hE hu' hx64
        have HU' : Hid (x < 128 ^ (i + 1)) := hu'
        clear hu'
        by_cases hmore : 127 < g.toNat
        · rw [take_next _ _ _ _ _ hbad hmore, hx] at htt
          have HT : Hid (takeN bs = takeGo (9 - i) (i + 1) x (List.drop (i + 1) bs)) := htt
          have hg2 : ¬ (g.toNat : Int) < 128 := by omega
          have hi8 : i ≤ 8 := by omega
          have h9' : ((i : Int) == 9) = false := by simp; omega
          clear htt hx hx64 hbad
          go_wp2
          go_round
          case rel => exact ⟨i + 1, x, by go_num, rfl, by omega, by omega, HU'.out, by rw [show 10 - (i + 1) = 9 - i from by omega]; exact HT⟩
          case measure => simp [intOf]; omega
        · by_cases hz : 0 < i ∧ g.toNat = 0
          · rw [take_zero _ _ _ _ _ hbad (by omega) hz] at htt
            have HT : Hid (takeN bs = (0, 0, 21)) := htt
            have hg0 : ((g.toNat : Int) == 0) = true := by simp; omega
            have hg2 : (g.toNat : Int) < 128 := by omega
            have hg4 : ¬ (1 : Int) < (g.toNat : Int) := by omega
            have hi1 : (0 : Int) < (i : Int) := by omega
            clear htt hx hx64 hbad hz
            by_cases h9 : 9 ≤ i
            · have h9' : ((i : Int) == 9) = true := by simp; omega
              go_wp2
              go_ret3
              exact ⟨ret_take HT.out, rfl⟩
            · have h9' : ((i : Int) == 9) = false := by simp; omega
              go_wp2
              go_ret3
              exact ⟨ret_take HT.out, rfl⟩
          · rw [take_last _ _ _ _ _ hbad (by omega) hz, hx] at htt
            have HT : Hid (takeN bs = (x, i + 1, 0)) := htt
            have hx64' : x < 18446744073709551616 := by omega
            have hg2 : (g.toNat : Int) < 128 := by omega
            clear htt hx hx64
            by_cases hi1 : 0 < i
            · have hg0 : ((g.toNat : Int) == 0) = false := by simp; omega
              by_cases h9 : 9 ≤ i
              · have h9' : ((i : Int) == 9) = true := by simp; omega
                have hg4 : ¬ (1 : Int) < (g.toNat : Int) := by omega
                clear hbad hz
                go_wp2_with (go_at_call 89; refine (runfold_any x _ hx64').mono ?_; rintro e w' ⟨rfl, rfl⟩)
                go_ret3
                exact ⟨ret_take HT.out, rfl⟩
              · have h9' : ((i : Int) == 9) = false := by simp; omega
                clear hbad hz
                go_wp2_with (go_at_call 89; refine (runfold_any x _ hx64').mono ?_; rintro e w' ⟨rfl, rfl⟩)
                go_ret3
                exact ⟨ret_take HT.out, rfl⟩
            · have h9' : ((i : Int) == 9) = false := by simp; omega
              have hi0 : ¬ (0 : Int) < (i : Int) := by omega
              clear hbad hz
              by_cases hgz : g.toNat = 0
              · have hg0 : ((g.toNat : Int) == 0) = true := by simp; omega
                have HG : Hid (g.toNat = 0) := hgz
                clear hgz
                go_wp2_with (go_at_call 89; refine (runfold_any x _ hx64').mono ?_; rintro e w' ⟨rfl, rfl⟩)
                go_ret3
                exact ⟨ret_take HT.out, rfl⟩
              · have hg0 : ((g.toNat : Int) == 0) = false := by simp; omega
                clear hgz
                go_wp2_with (go_at_call 89; refine (runfold_any x _ hx64').mono ?_; rintro e w' ⟨rfl, rfl⟩)
                go_ret3
                exact ⟨ret_take HT.out, rfl⟩
end Go.Proofs.YtafmchgncahafaaGreatDoor.Co

namespace Go.Proofs.YtafmchgncahafaaGreatDoor.Co
open Go.RowKit

set_option maxHeartbeats 400000 in
theorem rtake_none (ao : Option Addr) (cap : Nat) (w : World) :
    Calls Tryz.prog 74 #[.slice ao 0 cap] w fun e w' => e = .returned (.tuple #[.int .i64 0, .int .i64 0, .int .i64 20]) ∧ w = w' := by
  go_enter Tryz.func74, Tryz.ntmps74
  go_wp2
  refine wp_loop_rounds 1 ?_
  rw [rounds_succ]
  go_wp2
  go_ret3
  exact ⟨rfl, rfl⟩

theorem rtake_any (ao : Option Addr) (n cap : Nat) (bs : List UInt8) (w : World) (h : Rd w ao n cap bs) :
    Calls Tryz.prog 74 #[.slice ao n cap] w fun e w' => e = .returned (.tuple #[.int .i64 (numOf (takeN bs)), .int .i64 ((takeN bs).2.1 : Int), .int .i64 ((takeN bs).2.2 : Int)]) ∧ w = w' := by
  obtain ⟨h1, h2, h3, h4, h5⟩ := h
  unfold maxLen at h3
  rcases Nat.eq_zero_or_pos n with hz | hz
  · subst hz
    have : bs = [] := List.eq_nil_of_length_eq_zero h1
    subst this
    exact rtake_none ao cap w
  · obtain ⟨b, off, rfl, hc⟩ := h5 hz
    exact rtake_some b off n cap bs w (by omega) h1 hc
end Go.Proofs.YtafmchgncahafaaGreatDoor.Co

namespace Go.Proofs.YtafmchgncahafaaGreatDoor.Co
open Go.RowKit

theorem own_block {w : World} {base : Nat} {v : Value} {bs : List UInt8} (h : Own w base v bs) (hne : bs ≠ []) :
    ∃ g cap cur, v = .slice (some ⟨g, 0, none⟩) bs.length cap ∧ base ≤ g ∧ g < w.heap.size ∧ w.heap[g]? = some (.cells cur 5 (0, 0)) ∧
      (∀ W : World, W.heap[g]? = some (.cells cur 5 (0, 0)) → Rd W (some ⟨g, 0, none⟩) bs.length cap bs) := by
  obtain ⟨h1, h2⟩ := h
  rcases h2 with ⟨_, hn⟩ | ⟨g, cap, cur, hv, hb, hg, hrest⟩
  · exact absurd (List.eq_nil_of_length_eq_zero hn) hne
  · refine ⟨g, cap, cur, hv, hb, (Array.getElem?_eq_some_iff.1 hg).1, hg, fun W hW => ?_⟩
    have hO : Own W base v bs := ⟨h1, .inr ⟨g, cap, cur, hv, hb, hW, hrest⟩⟩
    obtain ⟨ao, cap', hv', hr, _⟩ := hO.rd
    rw [hv] at hv'
    cases hv'
    exact hr

/-- The slice at block g reads as bs, and behind it stand the two marks. -/
def Marked (w : World) (g cap : Nat) (bs : List UInt8) : Prop := Rd w (some ⟨g, 0, none⟩) (bs.length + 2) cap (bs ++ [55, 56])

theorem Marked.later {w w' : World} {g cap : Nat} {bs : List UInt8} (h : Marked w g cap bs) (hb : Below w.heap.size w w') : Marked w' g cap bs := Rd.later h hb
theorem Marked.drewN {w : World} {g cap : Nat} {bs : List UInt8} (h : Marked w g cap bs) (q : Nat) : Marked (w.drewN q) g cap bs := Rd.drewN h q
theorem Marked.rd {w : World} {g cap : Nat} {bs : List UInt8} (h : Marked w g cap bs) : Rd w (some ⟨g, 0, none⟩) bs.length cap bs := by
  have := Rd.cut h 0 bs.length (by omega)
  simpa using this

set_option maxHeartbeats 400000 in
theorem lent_any (ao : Option Addr) (n cap : Nat) (bs : List UInt8) (w : World) (h : Rd w ao n cap bs) (hl : n ≤ 140737488351232) :
    Calls Tryz.prog 4 #[.slice ao n cap] w fun e w' => ∃ g c, e = .returned (.slice (some ⟨g, 0, none⟩) n c) ∧ w.heap.size ≤ g ∧ Marked w' g c bs ∧ Below w.heap.size w w' := by
  obtain ⟨i0, hi, hz0, hz1, hz2⟩ := info_parts Tryz.info5
  have hln := h.1
  have A1 : Below w.heap.size w (w.alloc (.cells #[] 5)) := (Below.refl _ _).alloc (Nat.le_refl _) _
  have hra := h.later A1
  have HN : Hid (bs.length = n) := hln
  clear hln
  go_enter Tryz.func4, Tryz.ntmps4
  go_wp2_with (at_builtin; refine wpList_append_from rfl (.tmp 4) (.tmp 5) 23 23 rfl w.heap.size 5 i0 (.int .u8 0) 1 1 Tryz.underlying23 hi hz0 hz1 hz2 rfl _ 0 [] rfl (own_made (base := w.heap.size) w #[] 0 (Nat.le_refl _) (by decide) rfl) _ n (bv bs) rfl (src_of_rd Tryz.underlying23 hra) (by unfold maxLen; omega) (by omega) (by simp) ?_)
  intro v2 w2 ho2 hgrow2
  have hO2 : Own w2 w.heap.size v2 bs := own_of ho2
  have b2 : Below w.heap.size w w2 := A1.grown hgrow2 (by simp) (fun k hk => by cases hk; exact Nat.le_refl _)
  have z2 := b2.size
  have hO2' : w2.ownsRow w.heap.size 5 1 v2 n (bv bs) := by have := hO2; unfold Own at this; rw [HN.out] at this; exact this
  clear ho2 hgrow2 A1 hra h
  go_wp2_with (at_builtin; refine wpList_append_own _ rfl (.tmp 7) (.tmp 8) 23 rfl w.heap.size 5 i0 (.int .u8 0) 1 1 Tryz.underlying23 hi hz0 hz1 hz2 rfl (by decide) _ _ _ rfl (World.ownsRow.alloc hO2' _) ⟨w2.heap.size, 0, none⟩ 2 2 [.int .u8 55, .int .u8 56] rfl rfl ?c1 ?c2 (by unfold maxLen; omega) (by omega) (by simp; omega) ?_)
  case c1 =>
    intro j u hj
    match j, hj with
    | 0, hj => simp at hj; subst hj; simp [Addr.add]
    | 1, hj => simp at hj; subst hj; simp [Addr.add]
  case c2 =>
    intro u hu
    simp at hu
    rcases hu with rfl | rfl <;> rfl
  intro v3 w3 ho3 hgrow3 _
  have b3 : Below w.heap.size w w3 := (b2.alloc (by omega) _).grown hgrow3 (by simp; omega) (fun k hk => (World.ownsRow.lt hO2 k hk).1)
  have hO3 : Own w3 w.heap.size v3 (bs ++ [55, 56]) := own_of (n := n + 2) (by rw [bv_append]; exact ho3)
  obtain ⟨g, c, u, hv3, hg, _, hk, R3⟩ := own_block hO3 (by simp)
  have hR := R3 w3 hk
  have hlen : (bs ++ [55, 56]).length = n + 2 := by simp; exact HN.out
  rw [hlen] at hv3 hR
  rw [hv3]
  have hcc := hR.2.1
  have hc0 : ¬ c = 0 := by omega
  have hn0 : (0 : Int) ≤ (n : Int) := by omega
  have hnc : (n : Int) ≤ (c : Int) := by omega
  clear ho3 hgrow3 hO3 R3 hk hO2 hO2' hv3
  go_wp2
  go_ret
  refine ⟨g, c, rfl, hg, ?_, b3⟩
  unfold Marked
  rw [HN.out]
  exact hR

set_option maxHeartbeats 1000000 in
theorem stays_any (g c n : Nat) (ao : Option Addr) (cap : Nat) (bs : List UInt8) (w : World) (h : Marked w g c bs) (hr : Rd w ao n cap bs) :
    Calls Tryz.prog 14 #[.slice (some ⟨g, 0, none⟩) n c, .slice ao n cap] w fun e w' => e = .returned (.bool true) ∧ ∃ nq, w' = w.drewN nq := by
  obtain rfl := hr.1
  have hcc := h.2.1
  have hcm := h.2.2.1
  unfold maxLen at hcm
  obtain ⟨b', off', hao, hcell⟩ := h.2.2.2.2 (by omega)
  cases hao
  have e1 : ∀ q, (w.drewN q).cell? ⟨g, bs.length, none⟩ = some (.int .u8 55) := by
    intro q
    have := hcell bs.length (by simp)
    simpa using this
  have e2 : ∀ q, (w.drewN q).cell? ⟨g, bs.length + 1, none⟩ = some (.int .u8 56) := by
    intro q
    have := hcell (bs.length + 1) (by simp)
    simpa using this
  have q1 : ∀ q, (convert 23 9 (.slice (some ⟨g, 0, none⟩) bs.length c)).run Tryz.prog (w.drewN q) = .ok (.string ⟨bs.toArray⟩) (w.drewN q) := fun q => run_string_of (P := Tryz.prog) 23 9 5 Tryz.underlying23 Tryz.underlying5 Tryz.underlying9 (h.drewN q).rd
  have q2 : ∀ q, (convert 23 9 (.slice ao bs.length cap)).run Tryz.prog (w.drewN q) = .ok (.string ⟨bs.toArray⟩) (w.drewN q) := fun q => run_string_of (P := Tryz.prog) 23 9 5 Tryz.underlying23 Tryz.underlying5 Tryz.underlying9 (hr.drewN q)
  clear h hr hcell
  generalize hL : bs.length = n at *
  clear hL
  have hc0 : ¬ c = 0 := by omega
  have hn0 : (0 : Int) ≤ (n : Int) := by omega
  have hnc : (n : Int) + 2 ≤ (c : Int) := by omega
  have hnc2 : (n : Int) ≤ (c : Int) := by omega
  have hn2 : (n : Int) < (n : Int) + 2 := by omega
  have hn3 : (n : Int) + 1 < (n : Int) + 2 := by omega
  have hwr : IntKind.i64.wrap ((n : Int) + 1) = (n : Int) + 1 := by rw [IntKind.wrap_i64]; omega
  have htn : ((n : Int) + 1).toNat = n + 1 := by omega
  have htn2 : ((n : Int) + 2).toNat = n + 2 := by omega
  go_enter Tryz.func14, Tryz.ntmps14
  go_wp2
  go_quiet (fail)
  go_wp2
  go_ret
  exact ⟨rfl, nq, rfl⟩
end Go.Proofs.YtafmchgncahafaaGreatDoor.Co
