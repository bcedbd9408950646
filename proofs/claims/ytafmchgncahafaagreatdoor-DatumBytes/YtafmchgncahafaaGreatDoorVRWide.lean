/-
  The contract of the document's wide.
-/
import Derived.Test.YtafmchgncahafaaGreatDoorVRKey
import Derived.LoopN
import Derived.Deep.RegionHeld3
import Derived.Deep.AppendLies
namespace Go.Proofs.YtafmchgncahafaaGreatDoor
open Go.RowKit Go.Shelf
attribute [local go_sem] cell?_more frozen?_more setCell_more more_lt more_more more_drew more_drewN setCell_drewN alloc_drewN
abbrev quad (a b c d : Nat) : Obj := .cells #[.int .u64 (a : Int), .int .u64 (b : Int), .int .u64 (c : Int), .int .u64 (d : Int)] 84
abbrev words4 (a b c d : Nat) : List UInt8 := bigE 4 d ++ (bigE 4 c ++ (bigE 4 b ++ bigE 4 a))
theorem words4_step (a b c d j : Nat) (h : j < 4) (q : Nat) (hq : q = 3 - j) (w wr : World) (hB : Below (w.heap.size + 1) (w.alloc (quad a b c d)) wr) (la : a < 4294967296) (lb : b < 4294967296) (lc : c < 4294967296) (ld : d < 4294967296) :
    ∃ x : Nat, x < 4294967296 ∧ wr.cell? ⟨w.heap.size, q, none⟩ = some (.int .u64 (x : Int)) ∧ (words4 a b c d).take (4 * (j + 1)) = (words4 a b c d).take (4 * j) ++ bigE 4 x := by
  have hh : wr.heap[w.heap.size]? = some (quad a b c d) := by
    rw [hB.block w.heap.size (by omega)]
    show (w.heap.push _)[w.heap.size]? = _
    simp
  have hc : ∀ i, wr.cell? ⟨w.heap.size, i, none⟩ = _ := fun i => cell_of_row wr w.heap.size i _ _ (0, 0) hh
  have : j = 0 ∨ j = 1 ∨ j = 2 ∨ j = 3 := by omega
  rcases this with rfl | rfl | rfl | rfl
  · exact ⟨d, ld, by subst hq; rw [hc]; rfl, rfl⟩
  · exact ⟨c, lc, by subst hq; rw [hc]; rfl, rfl⟩
  · exact ⟨b, lb, by subst hq; rw [hc]; rfl, rfl⟩
  · exact ⟨a, la, by subst hq; rw [hc]; rfl, rfl⟩
theorem bytes4 (x : Nat) (lx : x < 4294967296) : ∃ (B0 B1 B2 B3 : UInt8) (d1 d2 : Nat), Hid (bigE 4 x = [B0, B1, B2, B3]) ∧ (x : Int) / 16777216 = (B0.toNat : Int) ∧ (x : Int) / 65536 = (d1 : Int) ∧ (d1 : Int).tmod 256 = (B1.toNat : Int) ∧ (x : Int) / 256 = (d2 : Int) ∧ (d2 : Int).tmod 256 = (B2.toNat : Int) ∧ (x : Int).tmod 256 = (B3.toNat : Int) ∧ IntKind.u64.wrap (B0.toNat : Int) = (B0.toNat : Int) ∧ IntKind.u64.wrap (d1 : Int) = (d1 : Int) ∧ IntKind.u64.wrap (d2 : Int) = (d2 : Int) ∧ IntKind.u8.wrap (B0.toNat : Int) = (B0.toNat : Int) ∧ IntKind.u8.wrap (B1.toNat : Int) = (B1.toNat : Int) ∧ IntKind.u8.wrap (B2.toNat : Int) = (B2.toNat : Int) ∧ IntKind.u8.wrap (B3.toNat : Int) = (B3.toNat : Int) := by
  have y0 := byte256 x 16777216
  have y1 := byte256 x 65536
  have y2 := byte256 x 256
  have y3 := byte256 x 1
  have hw : ∀ B : UInt8, IntKind.u8.wrap (B.toNat : Int) = (B.toNat : Int) := fun B => by
    rw [IntKind.wrap_u8]; have := B.toNat_lt; omega
  refine ⟨_, _, _, _, x / 65536, x / 256, (show _ = _ from bigE4 x), ?_, by omega, ?_, by omega, ?_, ?_, ?_, ?_, ?_, hw _, hw _, hw _, hw _⟩
  · rw [← y0]; omega
  · rw [Int.tmod_eq_emod_of_nonneg (by omega), ← y1]; omega
  · rw [Int.tmod_eq_emod_of_nonneg (by omega), ← y2]; omega
  · rw [Int.tmod_eq_emod_of_nonneg (by omega), ← y3]; omega
  · rw [IntKind.wrap_u64]; have := (UInt8.ofNat (x / 16777216 % 256)).toNat_lt; omega
  · rw [IntKind.wrap_u64]; omega
  · rw [IntKind.wrap_u64]; omega
theorem al_size (w : World) (o : Obj) : (w.alloc o).heap.size = w.heap.size + 1 := Array.size_push _
theorem al_drew (w : World) (o : Obj) : (w.alloc o).drew.heap.size = w.heap.size + 1 := al_size w o
theorem news_four (wr : World) (B0 B1 B2 B3 : UInt8) : ∀ j u, (bv [B0, B1, B2, B3])[j]? = some u → ((wr.alloc (.cells #[.int .u8 (B0.toNat : Int), .int .u8 (B1.toNat : Int), .int .u8 (B2.toNat : Int), .int .u8 (B3.toNat : Int)] 5)).drew).cell? ((⟨wr.heap.size, 0, none⟩ : Addr).add j) = some u := by
  have h : ((wr.alloc (.cells #[.int .u8 (B0.toNat : Int), .int .u8 (B1.toNat : Int), .int .u8 (B2.toNat : Int), .int .u8 (B3.toNat : Int)] 5)).drew).heap[wr.heap.size]? = some (.cells #[.int .u8 (B0.toNat : Int), .int .u8 (B1.toNat : Int), .int .u8 (B2.toNat : Int), .int .u8 (B3.toNat : Int)] 5 (0, 0)) := by
    show (wr.heap.push _)[wr.heap.size]? = _
    simp
  exact World.news_of_block h
theorem keep_cell {w w' : World} {base n : Nat} {x : Value} {xs : List Value} {p q : Nat} (ho : w.ownsRow base 5 1 x n xs) (hg : w.grownBy w' x.ownBlock) (hlt : p < w.heap.size) (hp : p < base) : w'.cell? ⟨p, q, none⟩ = w.cell? ⟨p, q, none⟩ :=
  hg.cell_far ⟨p, q, none⟩ hlt (fun e => by have := (World.ownsRow.lt ho p e.symm).1; omega)
set_option maxRecDepth 20000 in
set_option maxHeartbeats 4000000 in
theorem wide_pos (n : Int) (p lo h1 hi a0 a1 a2 c : Nat) (w : World) (hn0 : 0 ≤ n) (hn1 : n ≤ 9223372036854775807) (hp0 : 1 ≤ p) (hp : p ≤ 1000000)
    (x1 : IntKind.u64.wrap (n % 4294967296 * (p : Int)) = (lo : Int)) (x2 : IntKind.u64.wrap (n / 4294967296 * (p : Int)) = (h1 : Int))
    (x3 : (lo : Int) / 4294967296 = (c : Int)) (x3' : IntKind.u64.wrap (c : Int) = (c : Int)) (x4 : IntKind.u64.wrap ((h1 : Int) + (c : Int)) = (hi : Int)) (x5 : (lo : Int) % 4294967296 = (a0 : Int)) (x6 : (hi : Int) % 4294967296 = (a1 : Int)) (x7 : (hi : Int) / 4294967296 = (a2 : Int)) (x7' : IntKind.u64.wrap (a2 : Int) = (a2 : Int))
    (l0 : a0 < 4294967296) (l1 : a1 < 4294967296) (l2 : a2 < 4294967296) :
    Calls Tryz.prog 31 #[.int .i64 n, .int .i64 (p : Int)] w fun e w' => ∃ v', e = .returned v' ∧ Own w' w.heap.size v' (words4 a0 a1 a2 2147483648) ∧ Below w.heap.size w w' := by
  obtain ⟨i0, hi0, hz0, hz1, hz2⟩ := info_parts Tryz.info5
  go_enter Tryz.func31, Tryz.ntmps31
  go_wp2_with fail
  simp only [x5, x6]
  go_loopw [13, 14] (fun x r wr => ∃ j : Nat, j ≤ 4 ∧ r = .int .i64 (3 - (j : Int)) ∧ Own wr (w.heap.size + 1) x ((words4 a0 a1 a2 2147483648).take (4 * j)) ∧ Below (w.heap.size + 1) (w.alloc (quad a0 a1 a2 2147483648)) wr) (fun _ r _ => (intOf r + 1).toNat)
  case atStart => exact ⟨0, Nat.zero_le _, rfl, ⟨rfl, .inl ⟨rfl, rfl⟩⟩, Below.refl _ _⟩
  case round =>
    obtain ⟨j, hj, rfl, ho, hB⟩ := hrel
    have sB := hB.size
    by_cases hlt : j < 4
    · obtain ⟨q, hq⟩ : ∃ q : Nat, q = 3 - j := ⟨_, rfl⟩
      have eq : 3 - (j : Int) = (q : Int) := by omega
      rw [eq]
      have hq0 : (0 : Int) ≤ (q : Int) := by omega
      have hq4 : (q : Int) < 4 := by omega
      obtain ⟨x, lx, hc, hF⟩ := words4_step a0 a1 a2 2147483648 j hlt q hq w wr hB l0 l1 l2 (by decide)
      have HF := (show Hid _ from hF)
      have HQ : Hid (q = 3 - j) := hq
      have hFl : ((words4 a0 a1 a2 2147483648).take (4 * j)).length ≤ 16 := by simp only [List.length_take]; omega
      obtain ⟨B0, B1, B2, B3, d1, d2, HE, y0, y1, y2, y3, y4, y5, u0, u1, u2, u3, u4, u5, u6⟩ := bytes4 x lx
      obtain ⟨F, hF'⟩ : ∃ F, F = (words4 a0 a1 a2 2147483648).take (4 * j) := ⟨_, rfl⟩
      rw [← hF'] at ho hFl
      have HF' : Hid (F = (words4 a0 a1 a2 2147483648).take (4 * j)) := hF'
      have hx0 : (0 : Int) ≤ (x : Int) := by omega
      have szB : w.heap.size + 1 ≤ wr.heap.size := by rw [al_size] at sB; exact sB
      have NB := news_four wr B0 B1 B2 B3
      have hoA : ∀ o, ((wr.alloc o).drew).ownsRow (w.heap.size + 1) 5 1 u13 F.length (bv F) := fun o => World.ownsRow.alloc ho o
      clear hF hq eq hF' sB
      go_upto_region 21 with fail
      go_region_held3 (fun W => W.cell? ⟨w.heap.size, q, none⟩ = some (.int .u64 (x : Int))) (first | go_keep | assumption)
        ((refine step_append_lies _ (by rfl) _ _ _ (by rfl) (w.heap.size + 1) 5 i0 _ 1 1 Tryz.underlying23 hi0 hz0 hz1 hz2 rfl (by omega) _ F.length (bv F) (by rfl) (hoA _) ⟨wr.heap.size, 0, none⟩ 4 4 (bv [B0, B1, B2, B3]) (by rfl) (by rfl) NB (bv_cell _) (by omega) (by unfold maxLen; omega) (by omega) (by rw [al_drew]; omega) (wr.heap.size + 1) (al_drew _ _) ?_; intro g1 cap1 w1 hown1 hgr1 hat1 hlt1; have hc1 : w1.cell? ⟨w.heap.size, q, none⟩ = some (.int .u64 (x : Int)) := (keep_cell (hoA _) hgr1 (by rw [al_drew]; omega) (by omega)).trans (by assumption)))
      have hB1 : Below (w.heap.size + 1) (w.alloc (quad a0 a1 a2 2147483648)) w1 := ((hB.alloc (by omega) _).drew).grown hgr1 (by rw [al_drew]; omega) (fun k hk => (World.ownsRow.lt (hoA (.cells #[] 5)) k hk).1)
      have hO : Own w1 (w.heap.size + 1) _ (F ++ [B0, B1, B2, B3]) := own_append hown1
      clear hown1 hgr1 ho hB hoA NB
      go_wp2
      go_roundw
      case rel =>
        refine ⟨j + 1, by omega, by congr 1; have := HQ.out; omega, by rw [HF.out, HE.out, ← HF'.out]; exact hO, hB1⟩
      case measure =>
        have := HQ.out
        simp [intOf]
    · have hj' : j = 4 := by omega
      subst hj'
      clear hj hlt
      have e4 : (words4 a0 a1 a2 2147483648).take (4 * 4) = words4 a0 a1 a2 2147483648 := List.take_of_length_le (by simp only [words4, List.length_append, bigE_len]; omega)
      rw [e4] at ho
      clear e4
      have hB2 : Below w.heap.size w wr := ((Below.refl _ w).alloc (Nat.le_refl _) _).trans (hB.mono (by omega))
      clear hB sB
      go_wp2
      go_ret
      exact ⟨_, rfl, ho.more (by omega), hB2⟩
set_option maxRecDepth 20000 in
set_option maxHeartbeats 4000000 in
theorem wide_neg (n : Int) (p u uh lo h1 hi a0 a1 a2 c s0 s1 s2 d0 d1 d2 d3 c1 c2 c3 c4 b0 b1 b2 b3 t b4 : Nat) (w : World) (hn0 : n < 0) (_hn1 : -9223372036854775808 ≤ n) (hp0 : 1 ≤ p) (hp : p ≤ 1000000)
    (x0 : IntKind.u64.wrap (-IntKind.u64.wrap n) = (u : Int))
    (x1 : IntKind.u64.wrap ((u : Int) % 4294967296 * (p : Int)) = (lo : Int)) (x2a : (u : Int) / 4294967296 = (uh : Int)) (x2b : IntKind.u64.wrap (uh : Int) = (uh : Int)) (x2 : IntKind.u64.wrap ((uh : Int) * (p : Int)) = (h1 : Int))
    (x3 : (lo : Int) / 4294967296 = (c : Int)) (x3' : IntKind.u64.wrap (c : Int) = (c : Int)) (x4 : IntKind.u64.wrap ((h1 : Int) + (c : Int)) = (hi : Int)) (x5 : (lo : Int) % 4294967296 = (a0 : Int)) (x6 : (hi : Int) % 4294967296 = (a1 : Int)) (x7 : (hi : Int) / 4294967296 = (a2 : Int)) (x7' : IntKind.u64.wrap (a2 : Int) = (a2 : Int))
    (r0 : IntKind.u64.wrap (4294967295 - (a0 : Int)) = (s0 : Int)) (q0 : IntKind.u64.wrap ((s0 : Int) + 1) = (d0 : Int)) (m0 : (d0 : Int) % 4294967296 = (b0 : Int)) (k0 : (d0 : Int) / 4294967296 = (c1 : Int)) (z0 : IntKind.u64.wrap (c1 : Int) = (c1 : Int))
    (r1 : IntKind.u64.wrap (4294967295 - (a1 : Int)) = (s1 : Int)) (q1 : IntKind.u64.wrap ((s1 : Int) + (c1 : Int)) = (d1 : Int)) (m1 : (d1 : Int) % 4294967296 = (b1 : Int)) (k1 : (d1 : Int) / 4294967296 = (c2 : Int)) (z1 : IntKind.u64.wrap (c2 : Int) = (c2 : Int))
    (r2 : IntKind.u64.wrap (4294967295 - (a2 : Int)) = (s2 : Int)) (q2 : IntKind.u64.wrap ((s2 : Int) + (c2 : Int)) = (d2 : Int)) (m2 : (d2 : Int) % 4294967296 = (b2 : Int)) (k2 : (d2 : Int) / 4294967296 = (c3 : Int)) (z2 : IntKind.u64.wrap (c3 : Int) = (c3 : Int))
    (q3 : IntKind.u64.wrap (4294967295 + (c3 : Int)) = (d3 : Int)) (m3 : (d3 : Int) % 4294967296 = (b3 : Int)) (k3 : (d3 : Int) / 4294967296 = (c4 : Int)) (z3 : IntKind.u64.wrap (c4 : Int) = (c4 : Int))
    (q4 : IntKind.u64.wrap ((b3 : Int) + 2147483648) = (t : Int)) (m4 : (t : Int) % 4294967296 = (b4 : Int))
    (l0 : b0 < 4294967296) (l1 : b1 < 4294967296) (l2 : b2 < 4294967296) (l4 : b4 < 4294967296) :
    Calls Tryz.prog 31 #[.int .i64 n, .int .i64 (p : Int)] w fun e w' => ∃ v', e = .returned v' ∧ Own w' w.heap.size v' (words4 b0 b1 b2 b4) ∧ Below w.heap.size w w' := by
  obtain ⟨i0, hi0, hz0, hz1, hz2⟩ := info_parts Tryz.info5
  have HL : Hid (b0 < 4294967296 ∧ b1 < 4294967296 ∧ b2 < 4294967296 ∧ b4 < 4294967296) := ⟨l0, l1, l2, l4⟩
  clear l0 l1 l2 l4
  go_enter Tryz.func31, Tryz.ntmps31
  go_wp2_with fail
  simp only [x5, x6]
  refine wp_loop_rounds 5 ?_
  rw [rounds_succ]
  go_wp2_with fail
  rw [rounds_succ]
  go_wp2_with fail
  rw [rounds_succ]
  go_wp2_with fail
  rw [rounds_succ]
  go_wp2_with fail
  rw [rounds_succ]
  go_wp2_with fail
  simp only [m3, m4]
  go_loopw [13, 14] (fun x r wr => ∃ j : Nat, j ≤ 4 ∧ r = .int .i64 (3 - (j : Int)) ∧ Own wr (w.heap.size + 1) x ((words4 b0 b1 b2 b4).take (4 * j)) ∧ Below (w.heap.size + 1) (w.alloc (quad b0 b1 b2 b4)) wr) (fun _ r _ => (intOf r + 1).toNat)
  case atStart => exact ⟨0, Nat.zero_le _, rfl, ⟨rfl, .inl ⟨rfl, rfl⟩⟩, Below.refl _ _⟩
  case round =>
    obtain ⟨j, hj, rfl, ho, hB⟩ := hrel
    have sB := hB.size
    by_cases hlt : j < 4
    · obtain ⟨q, hq⟩ : ∃ q : Nat, q = 3 - j := ⟨_, rfl⟩
      have eq : 3 - (j : Int) = (q : Int) := by omega
      rw [eq]
      have hq0 : (0 : Int) ≤ (q : Int) := by omega
      have hq4 : (q : Int) < 4 := by omega
      obtain ⟨x, lx, hc, hF⟩ := words4_step b0 b1 b2 b4 j hlt q hq w wr hB HL.out.1 HL.out.2.1 HL.out.2.2.1 HL.out.2.2.2
      have HF := (show Hid _ from hF)
      have HQ : Hid (q = 3 - j) := hq
      have hFl : ((words4 b0 b1 b2 b4).take (4 * j)).length ≤ 16 := by simp only [List.length_take]; omega
      obtain ⟨B0, B1, B2, B3, f1, f2, HE, y0, y1, y2, y3, y4, y5, u0, u1, u2, u3, u4, u5, u6⟩ := bytes4 x lx
      obtain ⟨F, hF'⟩ : ∃ F, F = (words4 b0 b1 b2 b4).take (4 * j) := ⟨_, rfl⟩
      rw [← hF'] at ho hFl
      have HF' : Hid (F = (words4 b0 b1 b2 b4).take (4 * j)) := hF'
      have hx0 : (0 : Int) ≤ (x : Int) := by omega
      have szB : w.heap.size + 1 ≤ wr.heap.size := by rw [al_size] at sB; exact sB
      have NB := news_four wr B0 B1 B2 B3
      have hoA : ∀ o, ((wr.alloc o).drew).ownsRow (w.heap.size + 1) 5 1 u13 F.length (bv F) := fun o => World.ownsRow.alloc ho o
      clear hF hq eq hF' sB
      go_upto_region 21 with fail
      go_region_held3 (fun W => W.cell? ⟨w.heap.size, q, none⟩ = some (.int .u64 (x : Int))) (first | go_keep | assumption)
        ((refine step_append_lies _ (by rfl) _ _ _ (by rfl) (w.heap.size + 1) 5 i0 _ 1 1 Tryz.underlying23 hi0 hz0 hz1 hz2 rfl (by omega) _ F.length (bv F) (by rfl) (hoA _) ⟨wr.heap.size, 0, none⟩ 4 4 (bv [B0, B1, B2, B3]) (by rfl) (by rfl) NB (bv_cell _) (by omega) (by unfold maxLen; omega) (by omega) (by rw [al_drew]; omega) (wr.heap.size + 1) (al_drew _ _) ?_; intro g1 cap1 w1 hown1 hgr1 hat1 hlt1; have hc1 : w1.cell? ⟨w.heap.size, q, none⟩ = some (.int .u64 (x : Int)) := (keep_cell (hoA _) hgr1 (by rw [al_drew]; omega) (by omega)).trans (by assumption)))
      have hB1 : Below (w.heap.size + 1) (w.alloc (quad b0 b1 b2 b4)) w1 := ((hB.alloc (by omega) _).drew).grown hgr1 (by rw [al_drew]; omega) (fun k hk => (World.ownsRow.lt (hoA (.cells #[] 5)) k hk).1)
      have hO : Own w1 (w.heap.size + 1) _ (F ++ [B0, B1, B2, B3]) := own_append hown1
      clear hown1 hgr1 ho hB hoA NB
      go_wp2
      go_roundw
      case rel =>
        refine ⟨j + 1, by omega, by congr 1; have := HQ.out; omega, by rw [HF.out, HE.out, ← HF'.out]; exact hO, hB1⟩
      case measure =>
        have := HQ.out
        simp [intOf]
    · have hj' : j = 4 := by omega
      subst hj'
      clear hj hlt
      have e4 : (words4 b0 b1 b2 b4).take (4 * 4) = words4 b0 b1 b2 b4 := List.take_of_length_le (by simp only [words4, List.length_append, bigE_len]; omega)
      rw [e4] at ho
      clear e4
      have hB2 : Below w.heap.size w wr := ((Below.refl _ w).alloc (Nat.le_refl _) _).trans (hB.mono (by omega))
      clear hB sB
      go_wp2
      go_ret
      exact ⟨_, rfl, ho.more (by omega), hB2⟩
theorem bigE_app (k H L : Nat) (hL : L < 256 ^ 4) : bigE (k + 4) (H * 256 ^ 4 + L) = bigE k H ++ bigE 4 L := by
  induction k with
  | zero =>
    rw [Nat.zero_add, bigE_mod 4 (H * 256 ^ 4 + L), Nat.add_comm (H * 256 ^ 4), Nat.add_mul_mod_self_right, ← bigE_mod]
    rfl
  | succ k ih =>
    rw [show k + 1 + 4 = (k + 4) + 1 by omega, bigE_succ (k + 4), bigE_succ k, ih, List.cons_append]
    congr 3
    rw [Nat.pow_add, Nat.mul_comm (256 ^ k), ← Nat.div_div_eq_div_mul, Nat.add_comm (H * 256 ^ 4), Nat.add_mul_div_right _ _ (by decide), Nat.div_eq_of_lt hL, Nat.zero_add]
theorem words4_big (a b c d V : Nat) (la : a < 4294967296) (lb : b < 4294967296) (lc : c < 4294967296) (hV : V = ((d * 256 ^ 4 + c) * 256 ^ 4 + b) * 256 ^ 4 + a) : words4 a b c d = bigE 16 V := by
  rw [hV, bigE_app 12 _ a (by omega), bigE_app 8 _ b (by omega), bigE_app 4 _ c (by omega)]
  simp [words4]
theorem at127 (A : Nat) : ((A : Int) + 2 ^ 127).toNat = A + 170141183460469231731687303715884105728 := by
  rw [show (2 : Int) ^ 127 = ((170141183460469231731687303715884105728 : Nat) : Int) from rfl, ← Int.natCast_add, Int.toNat_natCast]
theorem neg127 (A : Nat) (h : A ≤ 170141183460469231731687303715884105728) : (-(A : Int) + 2 ^ 127).toNat = 170141183460469231731687303715884105728 - A := by
  rw [show (2 : Int) ^ 127 = ((170141183460469231731687303715884105728 : Nat) : Int) from rfl]
  omega
theorem wide_any (n : Int) (p : Nat) (w : World) (h0 : -9223372036854775808 ≤ n) (h1 : n ≤ 9223372036854775807) (hp0 : 1 ≤ p) (hp : p ≤ 1000000) :
    Calls Tryz.prog 31 #[.int .i64 n, .int .i64 (p : Int)] w fun e w' => ∃ v', e = .returned v' ∧ Own w' w.heap.size v' (bigE 16 (n * (p : Int) + 2 ^ 127).toNat) ∧ Below w.heap.size w w' := by
  obtain ⟨u, hu⟩ : ∃ u : Nat, u = n.natAbs := ⟨_, rfl⟩
  obtain ⟨ul, hul⟩ : ∃ ul : Nat, ul = u % 4294967296 := ⟨_, rfl⟩
  obtain ⟨uh, huh⟩ : ∃ uh : Nat, uh = u / 4294967296 := ⟨_, rfl⟩
  obtain ⟨lo, hlo⟩ : ∃ lo : Nat, lo = ul * p := ⟨_, rfl⟩
  obtain ⟨h, hh⟩ : ∃ h : Nat, h = uh * p := ⟨_, rfl⟩
  have e1 : u * p = h * 4294967296 + lo := by
    have : u = uh * 4294967296 + ul := by omega
    rw [this, Nat.add_mul, hh, hlo, Nat.mul_right_comm]
  have llo : lo ≤ 4294967295 * 1000000 := by rw [hlo]; exact Nat.mul_le_mul (by omega) hp
  have lh : h ≤ 2147483648 * 1000000 := by rw [hh]; exact Nat.mul_le_mul (by omega) hp
  have w1 : IntKind.u64.wrap (((ul : Nat) : Int) * (p : Int)) = (lo : Int) := by rw [← Int.natCast_mul, ← hlo, IntKind.wrap_u64]; omega
  have w2 : IntKind.u64.wrap (((uh : Nat) : Int) * (p : Int)) = (h : Int) := by rw [← Int.natCast_mul, ← hh, IntKind.wrap_u64]; omega
  have ea : (u : Int) % 4294967296 = (ul : Int) := by omega
  have eb : (u : Int) / 4294967296 = (uh : Int) := by omega
  by_cases hn : 0 ≤ n
  · have hnu : n = (u : Int) := by omega
    have e2 : (n * (p : Int) + 2 ^ 127).toNat = u * p + 170141183460469231731687303715884105728 := by rw [hnu, ← Int.natCast_mul]; exact at127 _
    rw [e2, e1, ← words4_big (lo % 4294967296) ((h + lo / 4294967296) % 4294967296) ((h + lo / 4294967296) / 4294967296) 2147483648 _ (by omega) (by omega) (by omega) (by omega)]
    refine wide_pos n p lo h (h + lo / 4294967296) _ _ _ (lo / 4294967296) w hn h1 hp0 hp (by rw [hnu, ea]; exact w1) (by rw [hnu, eb]; exact w2) (by omega) ?_ ?_ (by omega) (by omega) (by omega) ?_ (by omega) (by omega) (by omega)
    all_goals (rw [IntKind.wrap_u64]; omega)
  · have hnu : n = -(u : Int) := by omega
    have hup : 1 ≤ u * p := Nat.mul_pos (by omega) hp0
    have e2 : (n * (p : Int) + 2 ^ 127).toNat = 170141183460469231731687303715884105728 - u * p := by rw [hnu, Int.neg_mul, ← Int.natCast_mul]; exact neg127 _ (by rw [e1]; omega)
    rw [e1] at hup e2
    obtain ⟨hi, hhi⟩ : ∃ hi, hi = h + lo / 4294967296 := ⟨_, rfl⟩
    obtain ⟨d0, hd0⟩ : ∃ d0, d0 = 4294967295 - lo % 4294967296 + 1 := ⟨_, rfl⟩
    obtain ⟨d1, hd1⟩ : ∃ d1, d1 = 4294967295 - hi % 4294967296 + d0 / 4294967296 := ⟨_, rfl⟩
    obtain ⟨d2, hd2⟩ : ∃ d2, d2 = 4294967295 - hi / 4294967296 + d1 / 4294967296 := ⟨_, rfl⟩
    obtain ⟨d3, hd3⟩ : ∃ d3, d3 = 4294967295 + d2 / 4294967296 := ⟨_, rfl⟩
    rw [e2, ← words4_big (d0 % 4294967296) (d1 % 4294967296) (d2 % 4294967296) ((d3 % 4294967296 + 2147483648) % 4294967296) _ (by omega) (by omega) (by omega) (by omega)]
    refine wide_neg n p u uh lo h hi (lo % 4294967296) (hi % 4294967296) (hi / 4294967296) (lo / 4294967296) (4294967295 - lo % 4294967296) (4294967295 - hi % 4294967296) (4294967295 - hi / 4294967296) d0 d1 d2 d3 (d0 / 4294967296) (d1 / 4294967296) (d2 / 4294967296) (d3 / 4294967296) _ _ _ (d3 % 4294967296) (d3 % 4294967296 + 2147483648) _ w (by omega) h0 hp0 hp ?_ (by rw [ea]; exact w1) eb ?_ w2 (by omega) ?_ ?_ (by omega) (by omega) (by omega) ?_ ?_ ?_ (by omega) (by omega) ?_ ?_ ?_ (by omega) (by omega) ?_ ?_ ?_ (by omega) (by omega) ?_ ?_ (by omega) (by omega) ?_ ?_ (by omega) (by omega) (by omega) (by omega) (by omega)
    · rw [IntKind.wrap_u64, IntKind.wrap_u64]; omega
    all_goals (rw [IntKind.wrap_u64]; omega)
end Go.Proofs.YtafmchgncahafaaGreatDoor
