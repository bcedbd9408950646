/-
  The contracts of what datum.appendKey calls: appendWord, appendText, appendCoordinate, appendUnits.
-/
import Derived.Test.YtafmchgncahafaaGreatDoorVPut2
import Derived.Test.YtafmchgncahafaaGreatDoorMpVKeyM
namespace Go.Proofs.YtafmchgncahafaaGreatDoor
open Go.RowKit
attribute [local go_sem] cell?_more frozen?_more setCell_more more_lt more_more more_drew more_drewN setCell_drewN alloc_drewN

/-- Values that lie in blocks of their own lie there still. -/
def Kp (w w' : World) : Prop := ∀ k v, Box w k v → Box w' k v
theorem Kp.refl (w : World) : Kp w w := fun _ _ h => h
theorem Kp.trans {a b c : World} (h : Kp a b) (k : Kp b c) : Kp a c := fun p v hb => k p v (h p v hb)
theorem Kp.push {a w w' : World} {base : Nat} {x : Value} {bs : List UInt8} {o : Obj} (h : Kp a w) (ho : Own w base x bs) (hg : (w.alloc o).grownBy w' x.ownBlock) : Kp a w' :=
  fun p v hb => ((h p v hb).later ((Below.refl _ _).alloc (Nat.le_refl _) _)).kept (World.ownsRow.alloc ho _) hg

theorem own_two {w : World} {base n : Nat} {v : Value} {bs : List UInt8} {b c : UInt8} (h : w.ownsRow base 5 1 v n (bv bs ++ [Value.int .u8 (b.toNat : Int), Value.int .u8 (c.toNat : Int)])) : Own w base v (bs ++ [b, c]) :=
  own_of (bs := bs ++ [b, c]) (by rw [bv_append]; exact h)

theorem byte_of (n q : Nat) : (n : Int) / 2 ^ q % 256 = ((UInt8.ofNat (n / 2 ^ q % 256)).toNat : Int) := by
  have : (UInt8.ofNat (n / 2 ^ q % 256)).toNat = n / 2 ^ q % 256 := UInt8.toNat_ofNat_of_lt' (Nat.mod_lt _ (by decide))
  rw [this]
  simp
theorem pow6 (j : Nat) (h : j ≤ 6) : 10 ^ j ≤ 1000000 := by
  have := Nat.pow_le_pow_right (show 0 < 10 by decide) h
  simpa using this
theorem xor63 (x : Nat) (h : x < 18446744073709551616) : bits BinOp.xor IntKind.u64 (x : Int) 9223372036854775808 = (((x + 2 ^ 63) % 2 ^ 64 : Nat) : Int) := by
  have e : x ^^^ 9223372036854775808 = (x + 2 ^ 63) % 2 ^ 64 := by
    have h1 : (x ^^^ 9223372036854775808) % 2 ^ 63 = x % 2 ^ 63 := by rw [Nat.xor_mod_two_pow]; simp
    have h2 : (x ^^^ 9223372036854775808) / 2 ^ 63 = (x / 2 ^ 63) ^^^ 1 := by rw [Nat.xor_div_two_pow]
    have h3 := Nat.div_add_mod (x ^^^ 9223372036854775808) (2 ^ 63)
    have h4 : x / 2 ^ 63 = 0 ∨ x / 2 ^ 63 = 1 := by omega
    rcases h4 with h4 | h4
    · rw [h4] at h2; simp at h2; omega
    · rw [h4] at h2; simp at h2; omega
  rw [show (9223372036854775808 : Int) = ((9223372036854775808 : Nat) : Int) from rfl, u64_xor_nat _ _ h (by decide), e]
set_option maxRecDepth 20000 in
set_option maxHeartbeats 2000000 in
theorem appendWord_any (x : Value) (bs : List UInt8) (n s : Nat) (base : Nat) (w : World) (hown : Own w base x bs) (hb : base ≤ w.heap.size) (hl : bs.length ≤ 1000000) (_hn : n < 18446744073709551616) (hs1 : 1 ≤ s) (hs : s ≤ 8) :
    Calls Tryz.prog 76 #[x, .int .u64 (n : Int), .int .i64 (s : Int)] w fun e w' => ∃ v', e = .returned v' ∧ Own w' base v' (bs ++ bigE s n) ∧ Below base w w' ∧ Kp w w' := by
  obtain ⟨i0, hi, hz0, hz1, hz2⟩ := info_parts Tryz.info5
  have hlen := bigE_len s n
  have e1 : wrap64 (8 * wrap64 ((s : Int) - 1)) = 8 * ((s : Int) - 1) := by simp only [wrap64]; omega
  go_enter Tryz.func76, Tryz.ntmps76
  go_wp2
  go_loopw [0, 7] (fun v r wr => ∃ j : Nat, j ≤ s ∧ r = .int .i64 (8 * ((s : Int) - 1 - (j : Int))) ∧ Own wr base v (bs ++ (bigE s n).take j) ∧ Below base w wr ∧ Kp w wr) (fun _ r _ => (intOf r + 8).toNat)
  case atStart => exact ⟨0, Nat.zero_le _, by first | (rw [e1]; congr 1; omega) | (congr 1; omega), by simpa using hown, Below.refl _ _, Kp.refl _⟩
  case round =>
    obtain ⟨j, hj, rfl, ho, hB, hK⟩ := hrel
    have sB := hB.size
    by_cases hlt : j < s
    · obtain ⟨q, hq⟩ : ∃ q : Nat, q = 8 * (s - 1 - j) := ⟨_, rfl⟩
      have eq : 8 * ((s : Int) - 1 - (j : Int)) = (q : Int) := by omega
      rw [eq]
      have hq0 : (0 : Int) ≤ (q : Int) := by omega
      have hq64 : (q : Int) < 64 := by omega
      have hget := bigE_get s n j hlt
      have hpow : 256 ^ (s - 1 - j) = 2 ^ q := by rw [hq, Nat.pow_mul]
      rw [hpow] at hget
      have htk : (bigE s n).take (j + 1) = (bigE s n).take j ++ [UInt8.ofNat (n / 2 ^ q % 256)] := by
        rw [← hget, List.take_append_getElem]
      have hbl : (bs ++ (bigE s n).take j).length ≤ 1000010 := by simp; omega
      have HT : Hid ((bigE s n).take (j + 1) = (bigE s n).take j ++ [UInt8.ofNat (n / 2 ^ q % 256)]) := htk
      have HQ : Hid (q = 8 * (s - 1 - j)) := hq
      clear htk hpow hget hq eq hlen e1
      go_wp2_with (at_builtin; refine wpList_append_own _ rfl _ _ 23 rfl base 5 i0 (.int .u8 0) 1 1 Tryz.underlying23 hi hz0 hz1 hz2 rfl (by decide) _ _ _ rfl (World.ownsRow.alloc ho _) ⟨wr.heap.size, 0, none⟩ 1 1 [.int .u8 ((n : Int) / 2 ^ q % 256)] rfl rfl (cell_one_new _ _ _) (one_cell _ _) (by unfold maxLen; omega) (by omega) (by simp; omega) ?_)
      intro v1 w1 hown1 hgrow1 _
      have hB1 : Below base w w1 := ((hB.alloc (by omega) _).grown hgrow1 (by simp; omega) (fun k hk => (World.ownsRow.lt ho k hk).1))
      have hK1 : Kp w w1 := hK.push ho hgrow1
      rw [byte_of] at hown1
      have hO := own_push hown1
      clear hown1 hgrow1 ho hB
      go_wp2
      go_roundw
      case rel =>
        refine ⟨j + 1, by omega, by congr 1; have := HQ.out; omega, by rw [HT.out, ← List.append_assoc]; exact hO, hB1, hK1⟩
      case measure =>
        have := HQ.out
        simp [intOf]; omega
    · have hj' : j = s := by omega
      have hneg : 8 * ((s : Int) - 1 - (j : Int)) = -8 := by omega
      have htk : (bigE s n).take j = bigE s n := List.take_of_length_le (by omega)
      rw [hneg]
      rw [htk] at ho
      clear htk hlen hneg e1
      go_wp2
      go_ret
      exact ⟨_, rfl, ho, hB, hK⟩

set_option maxRecDepth 20000 in
set_option maxHeartbeats 2000000 in
theorem appendText_any (x : Value) (bs : List UInt8) (s : ByteArray) (base : Nat) (w : World) (hown : Own w base x bs) (hb : base ≤ w.heap.size) (hl : bs.length ≤ 1000000) (hs : s.size ≤ 256) :
    Calls Tryz.prog 56 #[x, .string s] w fun e w' => ∃ v', e = .returned v' ∧ Own w' base v' (bs ++ (esc s.data.toList ++ [0, 1])) ∧ Below base w w' ∧ Kp w w' := by
  obtain ⟨i0, hi, hz0, hz1, hz2⟩ := info_parts Tryz.info5
  have hsz : s.data.toList.length = s.size := rfl
  go_enter Tryz.func56, Tryz.ntmps56
  go_wp2
  go_loopw [0, 8] (fun v r wr => ∃ j : Nat, j ≤ s.size ∧ r = .int .i64 (j : Int) ∧ Own wr base v (bs ++ esc (s.data.toList.take j)) ∧ Below base w wr ∧ Kp w wr) (fun _ r _ => s.size - (intOf r).toNat)
  case atStart => exact ⟨0, Nat.zero_le _, rfl, by simpa [esc] using hown, Below.refl _ _, Kp.refl _⟩
  case round =>
    obtain ⟨j, hj, rfl, ho, hB, hK⟩ := hrel
    have sB := hB.size
    have hel := esc_len (s.data.toList.take j)
    have htl : (s.data.toList.take j).length = j := by simp; omega
    obtain ⟨E, hE⟩ : ∃ E, E = bs ++ esc (s.data.toList.take j) := ⟨_, rfl⟩
    have hEl : E.length ≤ 1000600 := by rw [hE]; simp; omega
    rw [← hE] at ho
    by_cases hlt : j < s.size
    · have j0 : (0 : Int) ≤ (j : Int) := by omega
      have j1 : (j : Int) < (s.size : Int) := by omega
      have het := esc_take s.data.toList j (by omega)
      obtain ⟨c, hc0⟩ : ∃ c, c = s.data.toList[j]'(by omega) := ⟨_, rfl⟩
      rw [← hc0] at het
      have hc : ∀ h, s[j]'h = c := fun h => by rw [hc0]; rfl
      by_cases hz : c = 0
      · have HT : Hid (bs ++ esc (s.data.toList.take (j + 1)) = E ++ [0] ++ [255]) := by
          show _ = _
          rw [het, if_pos hz, hE]; simp
        subst hz
        clear het hc0 hE hel htl hsz
        go_wp2_with (at_builtin; refine wpList_append_own _ rfl _ _ 23 rfl base 5 i0 (.int .u8 0) 1 1 Tryz.underlying23 hi hz0 hz1 hz2 rfl (by decide) _ _ _ rfl (World.ownsRow.alloc ho _) ⟨wr.heap.size, 0, none⟩ 1 1 [.int .u8 0] rfl rfl (cell_one_new _ _ _) (one_cell _ _) (by unfold maxLen; omega) (by omega) (by simp; omega) ?_)
        intro v1 w1 hown1 hgrow1 _
        have hB1 : Below base w w1 := ((hB.alloc (by omega) _).grown hgrow1 (by simp; omega) (fun k hk => (World.ownsRow.lt ho k hk).1))
        have hK1 : Kp w w1 := hK.push ho hgrow1
        have hO := own_push (b := 0) hown1
        have s1 := hB1.size
        have hl1 : (E ++ [0]).length ≤ 1000601 := by simp; omega
        clear hown1 hgrow1 ho hB
        go_wp2_with (at_builtin; refine wpList_append_own _ rfl _ _ 23 rfl base 5 i0 (.int .u8 0) 1 1 Tryz.underlying23 hi hz0 hz1 hz2 rfl (by decide) _ _ _ rfl (World.ownsRow.alloc hO _) ⟨w1.heap.size, 0, none⟩ 1 1 [.int .u8 255] rfl rfl (cell_one_new _ _ _) (one_cell _ _) (by unfold maxLen; omega) (by omega) (by simp; omega) ?_)
        intro v2 w2 hown2 hgrow2 _
        have hB2 : Below base w w2 := ((hB1.alloc (by omega) _).grown hgrow2 (by simp; omega) (fun k hk => (World.ownsRow.lt hO k hk).1))
        have hK2 : Kp w w2 := hK1.push hO hgrow2
        have hO2 := own_push (b := 255) hown2
        clear hown2 hgrow2 hO hB1
        go_wp2
        go_roundw
        case rel => exact ⟨j + 1, by omega, by go_num, by rw [HT.out]; exact hO2, hB2, hK2⟩
        case measure => simp [intOf]; omega
      · have hz' : ((c.toNat : Int) == 0) = false := by
          have : c.toNat ≠ 0 := fun h => hz (UInt8.toNat_inj.1 h)
          rw [beq_eq_false_iff_ne]; omega
        have HT : Hid (bs ++ esc (s.data.toList.take (j + 1)) = E ++ [c]) := by
          show _ = _
          rw [het, if_neg hz, hE]; simp
        clear het hc0 hE hel htl hsz hz
        go_wp2_with (at_builtin; refine wpList_append_own _ rfl _ _ 23 rfl base 5 i0 (.int .u8 0) 1 1 Tryz.underlying23 hi hz0 hz1 hz2 rfl (by decide) _ _ _ rfl (World.ownsRow.alloc ho _) ⟨wr.heap.size, 0, none⟩ 1 1 [.int .u8 (c.toNat : Int)] rfl rfl (cell_one_new _ _ _) (one_cell _ _) (by unfold maxLen; omega) (by omega) (by simp; omega) ?_)
        intro v1 w1 hown1 hgrow1 _
        have hB1 : Below base w w1 := ((hB.alloc (by omega) _).grown hgrow1 (by simp; omega) (fun k hk => (World.ownsRow.lt ho k hk).1))
        have hK1 : Kp w w1 := hK.push ho hgrow1
        have hO := own_push hown1
        clear hown1 hgrow1 ho hB
        go_wp2
        go_roundw
        case rel => exact ⟨j + 1, by omega, by go_num, by rw [HT.out]; exact hO, hB1, hK1⟩
        case measure => simp [intOf]; omega
    · have j1 : ¬ (j : Int) < (s.size : Int) := by omega
      have htk : s.data.toList.take j = s.data.toList := List.take_of_length_le (by omega)
      rw [htk] at hE
      have HT : Hid (bs ++ (esc s.data.toList ++ [0, 1]) = E ++ [0, 1]) := by
        show _ = _
        rw [hE]; simp
      clear htk hE hel htl hsz
      go_wp2_with (at_builtin; refine wpList_append_own _ rfl _ _ 23 rfl base 5 i0 (.int .u8 0) 1 1 Tryz.underlying23 hi hz0 hz1 hz2 rfl (by decide) _ _ _ rfl (World.ownsRow.alloc ho _) ⟨wr.heap.size, 0, none⟩ 2 2 [.int .u8 0, .int .u8 1] rfl rfl (cell_two_new _ _ _ _) (fun x hx => by simp at hx; rcases hx with rfl | rfl <;> rfl) (by unfold maxLen; omega) (by omega) (by simp; omega) ?_)
      intro v1 w1 hown1 hgrow1 _
      have hB1 : Below base w w1 := ((hB.alloc (by omega) _).grown hgrow1 (by simp; omega) (fun k hk => (World.ownsRow.lt ho k hk).1))
      have hK1 : Kp w w1 := hK.push ho hgrow1
      have hO := own_two (b := 0) (c := 1) hown1
      clear hown1 hgrow1 ho hB
      go_wp2
      go_ret
      exact ⟨_, rfl, by rw [HT.out]; exact hO, hB1, hK1⟩

theorem appendCoord_any (x : Value) (bs : List UInt8) (n : Int) (base : Nat) (w : World) (hown : Own w base x bs) (hb : base ≤ w.heap.size) (hl : bs.length ≤ 1000000) (h0 : -1048576 ≤ n) (h1 : n ≤ 1048576) :
    Calls Tryz.prog 57 #[x, .int .i64 n] w fun e w' => ∃ v', e = .returned v' ∧ Own w' base v' (bs ++ bigE 4 (n + 2 ^ 31).toNat) ∧ Below base w w' ∧ Kp w w' := by
  obtain ⟨q, hq⟩ : ∃ q : Nat, q = (n + 2 ^ 31).toNat := ⟨_, rfl⟩
  have e1 : n + 2147483648 = (q : Int) := by omega
  rw [← hq]
  have A := appendWord_any x bs q 4 base w hown hb hl (by omega) (by decide) (by decide)
  have q1 : (q : Int) < 18446744073709551616 := by omega
  have q0 : (0 : Int) ≤ (q : Int) := by omega
  have n1 : n + 2147483648 ≤ 9223372036854775807 := by omega
  have n0 : -9223372036854775808 ≤ n + 2147483648 := by omega
  clear hq
  go_enter Tryz.func57, Tryz.ntmps57
  go_wp2_with fail
  refine A.mono ?_
  rintro e w1 ⟨v1, rfl, ho1, hb1, hk1⟩
  go_wp2
  go_ret
  exact ⟨_, rfl, ho1, hb1, hk1⟩

set_option maxRecDepth 20000 in
set_option maxHeartbeats 2000000 in
theorem appendUnits_any (k n m : Int) (b : ByteArray) (x : Value) (bs : List UInt8) (base : Nat) (w : World) (hown : Own w base x bs) (hb : base ≤ w.heap.size) (hl : bs.length ≤ 999900) (n0 : -9223372036854775808 ≤ n) (n1 : n ≤ 9223372036854775807) (m0 : 0 ≤ m) (m1 : m ≤ 6) :
    Calls Tryz.prog 55 #[x, va k n m b] w fun e w' => ∃ v', e = .returned v' ∧ Own w' base v' (bs ++ bigE 16 (n * 10 ^ (6 - m).toNat + 2 ^ 127).toNat) ∧ Below base w w' ∧ Kp w w' := by
  have e0 : 6 - m = ((6 - m).toNat : Int) := by omega
  obtain ⟨p, hp⟩ : ∃ p, p = (6 - m).toNat := ⟨_, rfl⟩
  rw [← hp] at e0 ⊢
  have hp6 : p ≤ 6 := by omega
  obtain ⟨Z, hZ⟩ : ∃ Z, Z = bigE 16 (n * 10 ^ p + 2 ^ 127).toNat := ⟨_, rfl⟩
  have HZ : Hid (Z = bigE 16 (n * 10 ^ p + 2 ^ 127).toNat) := hZ
  rw [← hZ]
  clear hZ
  have Bw : Below base w (w.alloc (.cells #[.int .i64 k, .int .i64 n, .int .i64 m, .string b] 47)) := (Below.refl _ _).alloc hb _
  have bx := Box.new w k n m b.data.toList
  have KA : Kp w (w.alloc (.cells #[.int .i64 k, .int .i64 n, .int .i64 m, .string b] 47)) := fun _ _ h => h.later ((Below.refl _ _).alloc (Nat.le_refl _) _)
  have ownA : Own (w.alloc (.cells #[.int .i64 k, .int .i64 n, .int .i64 m, .string b] 47)) base x bs := World.ownsRow.alloc hown _
  clear hp
  go_enter Tryz.func55, Tryz.ntmps55
  go_upto_region 1 with fail
  generalize hWA : w.alloc (.cells #[.int .i64 k, .int .i64 n, .int .i64 m, .string b] 47) = wA at *
  obtain ⟨c0, c1, c2, c3⟩ := bx.at4
  simp only at c0 c1 c2 c3
  clear hWA
  go_wp2
  go_loopw [5, 11] (fun f r wr => ∃ j : Nat, j ≤ p ∧ r = .int .i64 (j : Int) ∧ f = .int .u64 ((10 ^ j : Nat) : Int) ∧ wr = wA) (fun _ r _ => p - (intOf r).toNat)
  case atStart => exact ⟨0, Nat.zero_le _, rfl, rfl, rfl⟩
  case round =>
    obtain ⟨j, hj, rfl, rfl, rfl⟩ := hrel
    by_cases hlt : j < p
    · have hlt' : (j : Int) < (p : Int) := by omega
      have hF : 10 ^ j ≤ 1000000 := pow6 j (by omega)
      obtain ⟨F, hFe⟩ : ∃ F, F = 10 ^ j := ⟨_, rfl⟩
      have HF : Hid (F = 10 ^ j) := hFe
      rw [← hFe] at hF ⊢
      have hF' : (F : Int) * 10 ≤ 10000000 := by omega
      clear hFe
      go_wp2
      go_roundw
      case rel => exact ⟨j + 1, by omega, by go_num, by rw [HF.out, Nat.pow_succ]; congr 1, by first | rfl | trivial⟩
      case measure => simp [intOf]; omega
    · have hjp : j = p := by omega
      subst hjp
      have hF6 := pow6 j hp6
      have hF1 : 1 ≤ 10 ^ j := Nat.pow_pos (by decide)
      have hFe : (10 : Int) ^ j = ((10 ^ j : Nat) : Int) := by rw [Int.natCast_pow]; rfl
      have HZ' : Hid (Z = bigE 16 (n * ((10 ^ j : Nat) : Int) + 2 ^ 127).toNat) := by show _ = _; rw [HZ.out, hFe]
      clear hFe HZ
      generalize 10 ^ j = F at *
      by_cases hn : n < 0
      · obtain ⟨U, hU⟩ : ∃ U : Nat, U = (n + 2 ^ 64).toNat := ⟨_, rfl⟩
        have hUi : (U : Int) = n + 2 ^ 64 := by omega
        have hw : IntKind.u64.wrap n = (U : Int) := by rw [IntKind.wrap_u64]; omega
        have M := fun W => mul64_any U F (by omega) (by omega) W
        have hdm := Nat.div_add_mod (U * F) 18446744073709551616
        have hLt := Nat.mod_lt (U * F) (show 0 < 18446744073709551616 by decide)
        generalize U * F / 18446744073709551616 = H at *
        generalize hLd : U * F % 18446744073709551616 = L at *
        obtain ⟨wn, hHF⟩ := words_neg n F U H L hn hUi hF1 (by omega) (by omega) (by omega) hLt
        have hsub : IntKind.u64.wrap ((H : Int) - (F : Int)) = ((H + 2 ^ 64 - F : Nat) : Int) := by rw [IntKind.wrap_u64]; omega
        obtain ⟨X, hX⟩ : ∃ X, X = H + 2 ^ 64 - F := ⟨_, rfl⟩
        rw [← hX] at hsub wn
        have hxor := xor63 X (by omega)
        obtain ⟨Y, hY⟩ : ∃ Y, Y = (X + 2 ^ 63) % 2 ^ 64 := ⟨_, rfl⟩
        rw [← hY] at hxor wn
        have HW : Hid (bigE 8 Y ++ bigE 8 L = Z) := by
          show _ = _
          rw [HZ'.out, wn, bigE_two Y L (by omega)]
        have hYlt : Y < 18446744073709551616 := by omega
        have A := fun W ho hb' => appendWord_any x bs Y 8 base W ho hb' (by omega) hYlt (by decide) (by decide)
        clear hdm wn hY hX hLd hUi hU HZ'
        go_wp2_with (first | (go_at_call 75; refine (M _).mono ?_; rintro e w' ⟨rfl, rfl⟩) | fail)
        refine (A _ ownA (by have := Bw.size; omega)).mono ?_
        rintro e w1 ⟨v1, rfl, ho1, hb1, hk1⟩
        have s1 := hb1.size
        have sA := Bw.size
        have hl1 : (bs ++ bigE 8 Y).length ≤ 1000000 := by have := bigE_len 8 Y; simp; omega
        go_wp2_with fail
        refine (appendWord_any v1 (bs ++ bigE 8 Y) L 8 base _ ho1 (by omega) hl1 hLt (by decide) (by decide)).mono ?_
        rintro e w2 ⟨v2, rfl, ho2, hb2, hk2⟩
        go_wp2
        go_ret
        exact ⟨_, rfl, by rw [← HW.out, ← List.append_assoc]; exact ho2, Bw.trans (hb1.trans hb2), KA.trans (hk1.trans hk2)⟩
      · obtain ⟨N, rfl⟩ : ∃ N : Nat, n = (N : Int) := ⟨n.toNat, by omega⟩
        have M := fun W => mul64_any N F (by omega) (by omega) W
        have hdm := Nat.div_add_mod (N * F) 18446744073709551616
        have hLt := Nat.mod_lt (N * F) (show 0 < 18446744073709551616 by decide)
        have hH1 : N * F / 18446744073709551616 < 1000001 := by
          have : N * F ≤ 9223372036854775807 * 1000000 := Nat.mul_le_mul (by omega) hF6
          omega
        generalize N * F / 18446744073709551616 = H at *
        generalize hLd : N * F % 18446744073709551616 = L at *
        have wn := words_pos N F H L (by omega)
        have hxor := xor63 H (by omega)
        obtain ⟨Y, hY⟩ : ∃ Y, Y = (H + 2 ^ 63) % 2 ^ 64 := ⟨_, rfl⟩
        have hY2 : Y = H + 2 ^ 63 := by omega
        rw [← hY] at hxor
        rw [← hY2] at wn
        have HW : Hid (bigE 8 Y ++ bigE 8 L = Z) := by
          show _ = _
          rw [HZ'.out, wn, bigE_two Y L (by omega)]
        have hYlt : Y < 18446744073709551616 := by omega
        have A := fun W ho hb' => appendWord_any x bs Y 8 base W ho hb' (by omega) hYlt (by decide) (by decide)
        clear hdm wn hY hY2 hLd HZ' hH1
        go_wp2_with (first | (go_at_call 75; refine (M _).mono ?_; rintro e w' ⟨rfl, rfl⟩) | fail)
        refine (A _ ownA (by have := Bw.size; omega)).mono ?_
        rintro e w1 ⟨v1, rfl, ho1, hb1, hk1⟩
        have s1 := hb1.size
        have sA := Bw.size
        have hl1 : (bs ++ bigE 8 Y).length ≤ 1000000 := by have := bigE_len 8 Y; simp; omega
        go_wp2_with fail
        refine (appendWord_any v1 (bs ++ bigE 8 Y) L 8 base _ ho1 (by omega) hl1 hLt (by decide) (by decide)).mono ?_
        rintro e w2 ⟨v2, rfl, ho2, hb2, hk2⟩
        go_wp2
        go_ret
        exact ⟨_, rfl, by rw [← HW.out, ← List.append_assoc]; exact ho2, Bw.trans (hb1.trans hb2), KA.trans (hk1.trans hk2)⟩
end Go.Proofs.YtafmchgncahafaaGreatDoor
