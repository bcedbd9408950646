/-
  The claim: CodecLinear answers true for every two lists of bytes: the sum of bytes of which two are flipped together is both sums flipped together (its tied card: the program's table of sums lies as the program's text lays it).
-/
import Derived.Test.YtdjilmcpkeckoabDoorFrm
import Derived.Test.YtdjilmcpkeckoabDoorLinP
import Derived.Test.YtdjilmcpkeckoabDoorCards
import Derived.Test.YtdjilmcpkeckoabDoorTie
import Derived.SizedLaws
import Derived.Deep.AppendLies
import Derived.Deep.RegionHeld3
namespace Go.Proofs.YtdjilmcpkeckoabDoor
open Go.ChangeShapes Go.WideShapes Go.ChangeAt Go.WideMaps Go.WideElems Go.RowKit

theorem flip_byte (a x : UInt8) : bits .xor .u8 (a.toNat : Int) (x.toNat : Int) = ((a ^^^ x).toNat : Int) := by
  rw [u8_xor_nat _ _ a.toNat_lt x.toNat_lt, UInt8.toNat_xor]

set_option maxHeartbeats 1000000 in
theorem linear_lt (b0 o0 n0 c0 b1 o1 n1 c1 : Nat) (xs ys : List UInt8) (w : World) (hT : Tab w) (h0 : Rd w (some ⟨b0, o0, none⟩) n0 c0 xs) (h1 : Rd w (some ⟨b1, o1, none⟩) n1 c1 ys) (hp : 0 < n1) (_hz0 : c0 ≤ 140737488351232) (_hz1 : c1 ≤ 140737488351232) (hle : n1 < n0) :
    Calls Tryd.prog 5 #[.slice (some ⟨b0, o0, none⟩) n0 c0, .slice (some ⟨b1, o1, none⟩) n1 c1] w fun e w' => e = .returned (.bool true) ∧ Below w.heap.size w w' := by
  obtain ⟨i0, hi, hzz0, hzz1, hzz2⟩ := info_parts Tryd.info5
  have hl0 := h0.1
  have hl1 := h1.1
  have hc0 := h0.2.1
  have hc1 := h1.2.1
  obtain ⟨b0', o0', ha0, hx⟩ := h0.2.2.2.2 (by omega)
  cases ha0
  obtain ⟨b1', o1', ha1, hy⟩ := h1.2.2.2.2 (by omega)
  cases ha1
  have hb0 : b0 < w.heap.size := World.block_lt_of_cell? w _ (hx 0 (by omega))
  have hb1 : b1 < w.heap.size := World.block_lt_of_cell? w _ (hy 0 (by omega))
  have HX : Hid (∀ k (h : k < xs.length), w.cell? ⟨b0, o0 + k, none⟩ = some (.int .u8 (xs[k].toNat : Int))) := hx
  have HY : Hid (∀ k (h : k < ys.length), w.cell? ⟨b1, o1 + k, none⟩ = some (.int .u8 (ys[k].toNat : Int))) := hy
  have HL0 : Hid (xs.length = n0) := hl0
  have HL1 : Hid (ys.length = n1) := hl1
  clear hx hy hl0 hl1
  go_enter Tryd.func5, Tryd.ntmps5
  go_wp2
  go_loopw [6, 7] (fun v i wr => ∃ k : Nat, k ≤ n1 ∧ i = .int .i64 (k : Int) ∧ Own wr w.heap.size v (flip2 (xs.take k) (ys.take k)) ∧ Below w.heap.size w wr) (fun _ i _ => n1 - (intOf i).toNat)
  case atStart => exact ⟨0, Nat.zero_le _, rfl, World.ownsRow_nil _ _ _ _, Below.refl _ _⟩
  case round =>
    obtain ⟨k, hk, rfl, ho, hbl⟩ := hrel
    have hsz := hbl.size
    have e0 := HL0.out
    have e1 := HL1.out
    by_cases hlt : k < n1
    · have hfl := flip2_len xs ys k (by omega) (by omega)
      have hft := flip2_take xs ys k (by omega) (by omega)
      have cx : wr.cell? ⟨b0, o0 + k, none⟩ = some (.int .u8 (xs[k].toNat : Int)) := (hbl.cell (p := ⟨b0, o0 + k, none⟩) hb0).trans (HX.out k (by omega))
      have cy : wr.cell? ⟨b1, o1 + k, none⟩ = some (.int .u8 (ys[k].toNat : Int)) := (hbl.cell (p := ⟨b1, o1 + k, none⟩) hb1).trans (HY.out k (by omega))
      have HF : Hid (flip2 (xs.take (k + 1)) (ys.take (k + 1)) = flip2 (xs.take k) (ys.take k) ++ [xs[k] ^^^ ys[k]]) := hft
      have ex := flip_byte xs[k] ys[k]
      generalize xs[k] = x at cx HF ex
      generalize ys[k] = y at cy HF ex
      generalize x ^^^ y = z at HF ex
      clear hft e0 e1
      have how := ho
      unfold Own at how
      rw [hfl] at how
      have hki : (k : Int) < (n1 : Int) := by omega
      have hk0 : (0 : Int) ≤ (k : Int) := by omega
      have hkn0 : (k : Int) < (n0 : Int) := by omega
      have hkn1 : (k : Int) < (n1 : Int) := by omega
      generalize flip2 (xs.take k) (ys.take k) = F at ho hfl HF how
      have HFL : Hid (F.length = k) := hfl
      clear hfl
      go_wp2_with fail
      go_region_held3 (fun w' => w'.cell? ⟨b0, o0 + k, none⟩ = some (.int .u8 (x.toNat : Int)) ∧ w'.cell? ⟨b1, o1 + k, none⟩ = some (.int .u8 (y.toNat : Int)))
        (first
          | go_keep
          | (go_split_ands
             refine ⟨?_, ?_⟩
             · (rw [hgrow.cell_far _ (by simp; omega) (by intro h; have := (World.ownsRow.lt how _ h.symm).1; simp at this; omega)]; assumption)
             · (rw [hgrow.cell_far _ (by simp; omega) (by intro h; have := (World.ownsRow.lt how _ h.symm).1; simp at this; omega)]; assumption)))
        ((refine step_append_lies _ (by rfl) _ _ _ (by rfl) w.heap.size 5 i0 _ 1 1 Tryd.underlying22 hi hzz0 hzz1 hzz2 rfl (by omega) _ k (bv F) (by rfl) ((how.alloc _).drew)
            ⟨wr.heap.size, 0, none⟩ 1 1 [.int .u8 (z.toNat : Int)] (by rfl) (by rfl) (World.news_of_block (cs := #[.int .u8 (z.toNat : Int)]) (t := 5) (fr := (0, 0)) (heap_alloc_new wr _)) (by simp [Value.oneCell'])
            (by omega) (by unfold maxLen; omega) (by omega) (by simp; omega) (wr.heap.size + 1) (by simp) ?_; intro gg cap w1 hown1 hgrow hat hlt1))
      have hB : Below w.heap.size w w1 := (hbl.alloc (by omega) _).drew.grown hgrow (by simp; omega) (fun k hk => (World.ownsRow.lt how k hk).1)
      have hO := own_push hown1
      rw [← HF.out] at hO
      clear hown1 hgrow ho how hbl
      go_wp2
      go_roundw
      case rel => exact ⟨k + 1, by omega, by go_num, hO, hB⟩
      case measure => simp [intOf]; omega
    · have hkn : k = n1 := by omega
      subst hkn
      obtain ⟨av, cv, rfl, hrv, _⟩ := ho.rd
      have hfl := flip2_len xs ys k (by omega) (by omega)
      have hcr := crc_flip (xs.take k) (ys.take k) (by simp; omega)
      have hA := (h0.later hbl).cut 0 k (by omega)
      have hB := (h1.later hbl).cut 0 k (by omega)
      have hTw := hT.later hbl hT.pos
      simp only [List.drop_zero, Nat.add_zero, Nat.sub_zero] at hA hB
      have ew := xor_word (crc (xs.take k)) (crc (ys.take k))
      rw [← hcr] at ew
      rw [hfl] at hrv ⊢
      have hcz0 : ¬ c0 = 0 := by omega
      have hcz1 : ¬ c1 = 0 := by omega
      have hk0 : (0 : Int) ≤ (k : Int) := by omega
      have hkc0 : (k : Int) ≤ (c0 : Int) := by omega
      have hkc1 : (k : Int) ≤ (c1 : Int) := by omega
      have HSV : Hid (∀ W : World, Tab W → Rd W av k cv (flip2 (xs.take k) (ys.take k)) → Calls Tryd.prog 10 #[.slice av k cv] W fun e w' => e = .returned (.int .u64 ((crc (flip2 (xs.take k) (ys.take k))).toNat : Int)) ∧ W = w') := fun W h1 h2 => sum_any _ _ _ _ W h1 h2
      have HSA : Hid (∀ W : World, Tab W → Rd W (some ⟨b0, o0, none⟩) k c0 (xs.take k) → Calls Tryd.prog 10 #[.slice (some ⟨b0, o0, none⟩) k c0] W fun e w' => e = .returned (.int .u64 ((crc (xs.take k)).toNat : Int)) ∧ W = w') := fun W h1 h2 => sum_any _ _ _ _ W h1 h2
      have HSB : Hid (∀ W : World, Tab W → Rd W (some ⟨b1, o1, none⟩) k c1 (ys.take k) → Calls Tryd.prog 10 #[.slice (some ⟨b1, o1, none⟩) k c1] W fun e w' => e = .returned (.int .u64 ((crc (ys.take k)).toNat : Int)) ∧ W = w') := fun W h1 h2 => sum_any _ _ _ _ W h1 h2
      have HV : Hid (Rd wr av k cv (flip2 (xs.take k) (ys.take k))) := hrv
      have HA : Hid (Rd wr (some ⟨b0, o0, none⟩) k c0 (xs.take k)) := hA
      have HB : Hid (Rd wr (some ⟨b1, o1, none⟩) k c1 (ys.take k)) := hB
      generalize (crc (flip2 (xs.take k) (ys.take k))) = r1 at HSV ew
      generalize crc (xs.take k) = r2 at HSA ew
      generalize crc (ys.take k) = r3 at HSB ew
      clear hrv hA hB hcr hfl h0 h1 ho
      go_wp2_with fail
      go_region_with (first
        | (go_at_call_of 10 (Value.slice av k cv); refine (HSV.out _ ?_ ?_).mono ?_; exact hTw; exact HV.out; rintro e w' ⟨rfl, rfl⟩)
        | (go_at_call_of 10 (Value.slice (some ⟨b0, o0, none⟩) k c0); refine (HSA.out _ ?_ ?_).mono ?_; exact hTw; exact HA.out; rintro e w' ⟨rfl, rfl⟩)
        | (go_at_call_of 10 (Value.slice (some ⟨b1, o1, none⟩) k c1); refine (HSB.out _ ?_ ?_).mono ?_; exact hTw; exact HB.out; rintro e w' ⟨rfl, rfl⟩)
        | (go_at_call 8; refine (knows_any _ ?_).mono ?_; exact hTw; rintro e w6 ⟨rfl, b6⟩))
      all_goals go_wp2
      all_goals go_ret
      all_goals exact ⟨rfl, hbl.drew.trans (b6.mono hsz)⟩

set_option maxHeartbeats 1000000 in
theorem linear_ge (b0 o0 n0 c0 b1 o1 n1 c1 : Nat) (xs ys : List UInt8) (w : World) (hT : Tab w) (h0 : Rd w (some ⟨b0, o0, none⟩) n0 c0 xs) (h1 : Rd w (some ⟨b1, o1, none⟩) n1 c1 ys) (hp : 0 < n0) (_hz0 : c0 ≤ 140737488351232) (_hz1 : c1 ≤ 140737488351232) (hle : n0 ≤ n1) :
    Calls Tryd.prog 5 #[.slice (some ⟨b0, o0, none⟩) n0 c0, .slice (some ⟨b1, o1, none⟩) n1 c1] w fun e w' => e = .returned (.bool true) ∧ Below w.heap.size w w' := by
  obtain ⟨i0, hi, hzz0, hzz1, hzz2⟩ := info_parts Tryd.info5
  have hl0 := h0.1
  have hl1 := h1.1
  have hc0 := h0.2.1
  have hc1 := h1.2.1
  obtain ⟨b0', o0', ha0, hx⟩ := h0.2.2.2.2 (by omega)
  cases ha0
  obtain ⟨b1', o1', ha1, hy⟩ := h1.2.2.2.2 (by omega)
  cases ha1
  have hb0 : b0 < w.heap.size := World.block_lt_of_cell? w _ (hx 0 (by omega))
  have hb1 : b1 < w.heap.size := World.block_lt_of_cell? w _ (hy 0 (by omega))
  have HX : Hid (∀ k (h : k < xs.length), w.cell? ⟨b0, o0 + k, none⟩ = some (.int .u8 (xs[k].toNat : Int))) := hx
  have HY : Hid (∀ k (h : k < ys.length), w.cell? ⟨b1, o1 + k, none⟩ = some (.int .u8 (ys[k].toNat : Int))) := hy
  have HL0 : Hid (xs.length = n0) := hl0
  have HL1 : Hid (ys.length = n1) := hl1
  clear hx hy hl0 hl1
  go_enter Tryd.func5, Tryd.ntmps5
  go_wp2
  go_loopw [6, 7] (fun v i wr => ∃ k : Nat, k ≤ n0 ∧ i = .int .i64 (k : Int) ∧ Own wr w.heap.size v (flip2 (xs.take k) (ys.take k)) ∧ Below w.heap.size w wr) (fun _ i _ => n0 - (intOf i).toNat)
  case atStart => exact ⟨0, Nat.zero_le _, rfl, World.ownsRow_nil _ _ _ _, Below.refl _ _⟩
  case round =>
    obtain ⟨k, hk, rfl, ho, hbl⟩ := hrel
    have hsz := hbl.size
    have e0 := HL0.out
    have e1 := HL1.out
    by_cases hlt : k < n0
    · have hfl := flip2_len xs ys k (by omega) (by omega)
      have hft := flip2_take xs ys k (by omega) (by omega)
      have cx : wr.cell? ⟨b0, o0 + k, none⟩ = some (.int .u8 (xs[k].toNat : Int)) := (hbl.cell (p := ⟨b0, o0 + k, none⟩) hb0).trans (HX.out k (by omega))
      have cy : wr.cell? ⟨b1, o1 + k, none⟩ = some (.int .u8 (ys[k].toNat : Int)) := (hbl.cell (p := ⟨b1, o1 + k, none⟩) hb1).trans (HY.out k (by omega))
      have HF : Hid (flip2 (xs.take (k + 1)) (ys.take (k + 1)) = flip2 (xs.take k) (ys.take k) ++ [xs[k] ^^^ ys[k]]) := hft
      have ex := flip_byte xs[k] ys[k]
      generalize xs[k] = x at cx HF ex
      generalize ys[k] = y at cy HF ex
      generalize x ^^^ y = z at HF ex
      clear hft e0 e1
      have how := ho
      unfold Own at how
      rw [hfl] at how
      have hki : (k : Int) < (n0 : Int) := by omega
      have hk0 : (0 : Int) ≤ (k : Int) := by omega
      have hkn0 : (k : Int) < (n0 : Int) := by omega
      have hkn1 : (k : Int) < (n1 : Int) := by omega
      generalize flip2 (xs.take k) (ys.take k) = F at ho hfl HF how
      have HFL : Hid (F.length = k) := hfl
      clear hfl
      go_wp2_with fail
      go_region_held3 (fun w' => w'.cell? ⟨b0, o0 + k, none⟩ = some (.int .u8 (x.toNat : Int)) ∧ w'.cell? ⟨b1, o1 + k, none⟩ = some (.int .u8 (y.toNat : Int)))
        (first
          | go_keep
          | (go_split_ands
             refine ⟨?_, ?_⟩
             · (rw [hgrow.cell_far _ (by simp; omega) (by intro h; have := (World.ownsRow.lt how _ h.symm).1; simp at this; omega)]; assumption)
             · (rw [hgrow.cell_far _ (by simp; omega) (by intro h; have := (World.ownsRow.lt how _ h.symm).1; simp at this; omega)]; assumption)))
        ((refine step_append_lies _ (by rfl) _ _ _ (by rfl) w.heap.size 5 i0 _ 1 1 Tryd.underlying22 hi hzz0 hzz1 hzz2 rfl (by omega) _ k (bv F) (by rfl) ((how.alloc _).drew)
            ⟨wr.heap.size, 0, none⟩ 1 1 [.int .u8 (z.toNat : Int)] (by rfl) (by rfl) (World.news_of_block (cs := #[.int .u8 (z.toNat : Int)]) (t := 5) (fr := (0, 0)) (heap_alloc_new wr _)) (by simp [Value.oneCell'])
            (by omega) (by unfold maxLen; omega) (by omega) (by simp; omega) (wr.heap.size + 1) (by simp) ?_; intro gg cap w1 hown1 hgrow hat hlt1))
      have hB : Below w.heap.size w w1 := (hbl.alloc (by omega) _).drew.grown hgrow (by simp; omega) (fun k hk => (World.ownsRow.lt how k hk).1)
      have hO := own_push hown1
      rw [← HF.out] at hO
      clear hown1 hgrow ho how hbl
      go_wp2
      go_roundw
      case rel => exact ⟨k + 1, by omega, by go_num, hO, hB⟩
      case measure => simp [intOf]; omega
    · have hkn : k = n0 := by omega
      subst hkn
      obtain ⟨av, cv, rfl, hrv, _⟩ := ho.rd
      have hfl := flip2_len xs ys k (by omega) (by omega)
      have hcr := crc_flip (xs.take k) (ys.take k) (by simp; omega)
      have hA := (h0.later hbl).cut 0 k (by omega)
      have hB := (h1.later hbl).cut 0 k (by omega)
      have hTw := hT.later hbl hT.pos
      simp only [List.drop_zero, Nat.add_zero, Nat.sub_zero] at hA hB
      have ew := xor_word (crc (xs.take k)) (crc (ys.take k))
      rw [← hcr] at ew
      rw [hfl] at hrv ⊢
      have hcz0 : ¬ c0 = 0 := by omega
      have hcz1 : ¬ c1 = 0 := by omega
      have hk0 : (0 : Int) ≤ (k : Int) := by omega
      have hkc0 : (k : Int) ≤ (c0 : Int) := by omega
      have hkc1 : (k : Int) ≤ (c1 : Int) := by omega
      have HSV : Hid (∀ W : World, Tab W → Rd W av k cv (flip2 (xs.take k) (ys.take k)) → Calls Tryd.prog 10 #[.slice av k cv] W fun e w' => e = .returned (.int .u64 ((crc (flip2 (xs.take k) (ys.take k))).toNat : Int)) ∧ W = w') := fun W h1 h2 => sum_any _ _ _ _ W h1 h2
      have HSA : Hid (∀ W : World, Tab W → Rd W (some ⟨b0, o0, none⟩) k c0 (xs.take k) → Calls Tryd.prog 10 #[.slice (some ⟨b0, o0, none⟩) k c0] W fun e w' => e = .returned (.int .u64 ((crc (xs.take k)).toNat : Int)) ∧ W = w') := fun W h1 h2 => sum_any _ _ _ _ W h1 h2
      have HSB : Hid (∀ W : World, Tab W → Rd W (some ⟨b1, o1, none⟩) k c1 (ys.take k) → Calls Tryd.prog 10 #[.slice (some ⟨b1, o1, none⟩) k c1] W fun e w' => e = .returned (.int .u64 ((crc (ys.take k)).toNat : Int)) ∧ W = w') := fun W h1 h2 => sum_any _ _ _ _ W h1 h2
      have HV : Hid (Rd wr av k cv (flip2 (xs.take k) (ys.take k))) := hrv
      have HA : Hid (Rd wr (some ⟨b0, o0, none⟩) k c0 (xs.take k)) := hA
      have HB : Hid (Rd wr (some ⟨b1, o1, none⟩) k c1 (ys.take k)) := hB
      generalize (crc (flip2 (xs.take k) (ys.take k))) = r1 at HSV ew
      generalize crc (xs.take k) = r2 at HSA ew
      generalize crc (ys.take k) = r3 at HSB ew
      clear hrv hA hB hcr hfl h0 h1 ho
      go_wp2_with fail
      go_region_with (first
        | (go_at_call_of 10 (Value.slice av k cv); refine (HSV.out _ ?_ ?_).mono ?_; exact hTw; exact HV.out; rintro e w' ⟨rfl, rfl⟩)
        | (go_at_call_of 10 (Value.slice (some ⟨b0, o0, none⟩) k c0); refine (HSA.out _ ?_ ?_).mono ?_; exact hTw; exact HA.out; rintro e w' ⟨rfl, rfl⟩)
        | (go_at_call_of 10 (Value.slice (some ⟨b1, o1, none⟩) k c1); refine (HSB.out _ ?_ ?_).mono ?_; exact hTw; exact HB.out; rintro e w' ⟨rfl, rfl⟩)
        | (go_at_call 8; refine (knows_any _ ?_).mono ?_; exact hTw; rintro e w6 ⟨rfl, b6⟩))
      all_goals go_wp2
      all_goals go_ret
      all_goals exact ⟨rfl, hbl.drew.trans (b6.mono hsz)⟩

set_option maxHeartbeats 1000000 in
theorem linear_zero (a0 a1 : Option Addr) (n1 c0 c1 : Nat) (w : World) (hT : Tab w) (hn1 : n1 ≤ 9223372036854775807) :
    Calls Tryd.prog 5 #[.slice a0 0 c0, .slice a1 n1 c1] w fun e w' => e = .returned (.bool true) ∧ Below w.heap.size w w' := by
  have ex : bits .xor .u64 0 0 = 0 := by decide +kernel
  have ec : ((crc []).toNat : Int) = 0 := by decide +kernel
  have HS : Hid (∀ (a : Option Addr) (c : Nat) (W : World), Calls Tryd.prog 10 #[.slice a 0 c] W fun e w' => e = .returned (.int .u64 0) ∧ W = w') := fun a c W => by rw [← ec]; exact sum_none a c W
  clear ec
  by_cases hc0 : c0 = 0
  all_goals by_cases hc1 : c1 = 0
  all_goals
    go_enter Tryd.func5, Tryd.ntmps5
    go_wp2
    refine wp_loop_rounds 1 ?_
    rw [rounds_succ]
    go_wp2_with fail
    go_region_with (first
      | (go_at_call 10; refine (HS.out _ _ _).mono ?_; rintro e w' ⟨rfl, rfl⟩)
      | (go_at_call 8; refine (knows_any _ ?_).mono ?_; exact hT; rintro e w6 ⟨rfl, b6⟩))
    all_goals go_wp2
    all_goals go_ret
    all_goals exact ⟨rfl, (Below.refl _ _).drew.trans b6⟩

set_option maxHeartbeats 1000000 in
theorem linear_none (a0 a1 : Option Addr) (n0 c0 c1 : Nat) (w : World) (hT : Tab w) (hn0 : 0 < n0) (_hn1 : n0 ≤ 9223372036854775807) :
    Calls Tryd.prog 5 #[.slice a0 n0 c0, .slice a1 0 c1] w fun e w' => e = .returned (.bool true) ∧ Below w.heap.size w w' := by
  have ex : bits .xor .u64 0 0 = 0 := by decide +kernel
  have ec : ((crc []).toNat : Int) = 0 := by decide +kernel
  have HS : Hid (∀ (a : Option Addr) (c : Nat) (W : World), Calls Tryd.prog 10 #[.slice a 0 c] W fun e w' => e = .returned (.int .u64 0) ∧ W = w') := fun a c W => by rw [← ec]; exact sum_none a c W
  clear ec
  by_cases hc0 : c0 = 0
  all_goals by_cases hc1 : c1 = 0
  all_goals
    go_enter Tryd.func5, Tryd.ntmps5
    go_wp2
    refine wp_loop_rounds 1 ?_
    rw [rounds_succ]
    go_wp2_with fail
    go_region_with (first
      | (go_at_call 10; refine (HS.out _ _ _).mono ?_; rintro e w' ⟨rfl, rfl⟩)
      | (go_at_call 8; refine (knows_any _ ?_).mono ?_; exact hT; rintro e w6 ⟨rfl, b6⟩))
    all_goals go_wp2
    all_goals go_ret
    all_goals exact ⟨rfl, (Below.refl _ _).drew.trans b6⟩

theorem linear_walk (a0 a1 : Option Addr) (n0 c0 n1 c1 : Nat) (xs ys : List UInt8) (w : World) (hT : Tab w) (h0 : Rd w a0 n0 c0 xs) (h1 : Rd w a1 n1 c1 ys) (hz0 : c0 ≤ 140737488351232) (hz1 : c1 ≤ 140737488351232) :
    Calls Tryd.prog 5 #[.slice a0 n0 c0, .slice a1 n1 c1] w fun e w' => e = .returned (.bool true) ∧ Below w.heap.size w w' := by
  have l0 := h0.2.1
  have l1 := h1.2.1
  rcases Nat.eq_zero_or_pos n0 with hp0 | hp0
  · subst hp0; exact linear_zero a0 a1 n1 c0 c1 w hT (by omega)
  · rcases Nat.eq_zero_or_pos n1 with hp1 | hp1
    · subst hp1; exact linear_none a0 a1 n0 c0 c1 w hT hp0 (by omega)
    · obtain ⟨b0, o0, rfl, _⟩ := h0.2.2.2.2 hp0
      obtain ⟨b1, o1, rfl, _⟩ := h1.2.2.2.2 hp1
      by_cases hl : n1 < n0
      · exact linear_lt b0 o0 n0 c0 b1 o1 n1 c1 xs ys w hT h0 h1 hp1 hz0 hz1 hl
      · exact linear_ge b0 o0 n0 c0 b1 o1 n1 c1 xs ys w hT h0 h1 hp0 hz0 hz1 (by omega)

set_option maxRecDepth 100000 in
theorem linear_lifted (os : Os) (started : os.Started) (H : Type) (enc : TypeId × Value → H) :
    ReturnsInHanded {} Tryd.checked os 5 .any (fun w args => (Rows.codecLinearSpec.pre enc Tryd.prog Tryd.f5 [] false w args ∧ laidMetH Tryd.prog laid1 w) ∧ sizedMet enc Tryd.prog Tryd.f5 (OpenSpec.ofChange Rows.codecLinearSpec) false w args)
      (Rows.codecLinearSpec.post enc Tryd.prog Tryd.f5 false true false false) := by
  refine returnsInHanded_of_change_and (C := Tryd.checked) (X := fun w _ => laidMetH Tryd.prog laid1 w) (fun _ _ _ hh h => h.of_heap hh) own started (by kernel_rfl) Tryd.func5
    (ChangeSpec.witness_shaped (enc := enc) (C := Tryd.checked) (os := os) (X := fun w _ => laidMetH Tryd.prog laid1 w) false (World.doorLaid Tryd.prog 14 os) #[.slice none 0 0, .slice none 0 0] 8 rfl (World.shaped_of_RefB (by kernel_rfl) (by kernel_rfl)) (by kernel_rfl) (by kernel_rfl) (by kernel_rfl) (door_met os _)) ?_
  intro W base args ds gs before hval0 hW _ hsz0 hL _
  have hval : ∀ (j : Nat) t v, Tryd.f5.params[j]? = some t → args[j]? = some v → Value.okWide Tryd.prog W .any base t v := hval0
  have hsz : (DataW.weightsEach Tryd.prog (Tryd.f5.params.toList ++ Rows.codecLinearSpec.plain.varTypes Tryd.prog) (ds ++ gs)).all (· ≤ reachBytes) = true := hsz0
  have hW' := hW
  obtain ⟨p, q, hA0, hV, rfl, hfz, hnd⟩ := hW
  have hA : DataW.TrodAll enc Tryd.prog W 0 (fun _ => true) true Tryd.f5.params.toList args.toList ds p := hA0
  rw [Tryd.params5] at hA hval hsz
  obtain ⟨v0, v1, d0, d1, p0, p1, rfl, rfl, rfl, h0, h1⟩ := trodAll_two hA
  obtain ⟨rfl, rfl⟩ := trodVars_none hV
  obtain ⟨x0, n0, c0, rfl⟩ := okWide_slice Tryd.underlying22 (hval 0 22 v0 rfl rfl)
  have k0 := h0
  have lt0 : ∀ x ∈ p0, x.block < W.heap.size := by obtain ⟨m, hm⟩ := k0; exact DataW.trod_lt m _ _ _ hm
  obtain ⟨f0, hf0⟩ := h0
  obtain ⟨g0, r0, e0⟩ := rd_open (a := x0) (len := n0) (cap := c0) hf0 (by simp [Value.cells])
  have z0 : c0 * Tryd.prog.bytesOf 5 ≤ 140737488351232 := by
    rcases e0 with h | ⟨es, sp, hd, hl⟩
    · rw [h]; simp
    · have hd0 : d0 = .slice es sp := hd
      rw [← hl]; exact sized_slice hsz (j := 0) (t := 22) (e := 5) rfl (by simp [hd0]) Tryd.underlying22
  obtain ⟨x1, n1, c1, rfl⟩ := okWide_slice Tryd.underlying22 (hval 1 22 v1 rfl rfl)
  have k1 := h1
  have lt1 : ∀ x ∈ p1, x.block < W.heap.size := by obtain ⟨m, hm⟩ := k1; exact DataW.trod_lt m _ _ _ hm
  obtain ⟨f1, hf1⟩ := h1
  obtain ⟨g1, r1, e1⟩ := rd_open (a := x1) (len := n1) (cap := c1) hf1 (by simp [Value.cells])
  have z1 : c1 * Tryd.prog.bytesOf 5 ≤ 140737488351232 := by
    rcases e1 with h | ⟨es, sp, hd, hl⟩
    · rw [h]; simp
    · have hd0 : d1 = .slice es sp := hd
      rw [← hl]; exact sized_slice hsz (j := 1) (t := 22) (e := 5) rfl (by simp [hd0]) Tryd.underlying22
  clear hA0 hval0 hsz0
  refine (linear_walk x0 x1 n0 c0 n1 c1 g0 g1 W (tab_of_laid hL) r0 r1 (by rw [bytes1] at z0; omega) (by rw [bytes1] at z1; omega)).mono fun e W' ⟨he, bel⟩ => ?_
  subst he
  exact ⟨_, rfl, _, _, _, [], _, [], hW', trodAll_mk1 (shut_bool Tryd.underlying4 _), trodAll_mk2 (Below.trod laidOut (by kernel_rfl) (of_decide_eq_true (by kernel_rfl)) k0 bel lt0) (Below.trod laidOut (by kernel_rfl) (of_decide_eq_true (by kernel_rfl)) k1 bel lt1), rfl, bel.frame _, fun h => by cases h⟩

theorem linear_said : Rows.CodecLinearSaid :=
  OpenClaim.holds_of_wide 5 Tryd.f5 rfl rfl rfl rfl rfl rfl rfl ⟨rfl, rfl, rfl, rfl, rfl⟩ rfl rfl rfl rfl rfl (by kernel_rfl) Tryd.func5 (by kernel_rfl)
    (of_decide_eq_true (by kernel_rfl)) (by unfold Func.isWrapper; first | (rw [if_pos (by decide +kernel)]; kernel_rfl) | (rw [if_neg (by decide +kernel)]; exact ⟨rfl, rfl⟩))
    (fun os started H enc _ => linear_lifted os started H enc)

theorem codecLinear_holds : Rows.CodecLinearCardSaid :=
  Claim7.holds_tied_plain_at .later [] [.data] true _ false
    linear_said (fun _ h => by cases h) (by kernel_rfl) (fun _ h => by cases h) codecLinear_row_tie rfl ⟨rfl, rfl⟩ (by kernel_rfl) rfl
    (fun f fn hf hfn => by
      obtain rfl : f = 5 := Option.some.inj ((show Tryd.prog.funcNamed Tryd.f5.name = some 5 by kernel_rfl).symm.trans hf) |>.symm
      obtain rfl : fn = Tryd.f5 := (Option.some.inj (Tryd.func5.symm.trans hfn)).symm
      exact ⟨by kernel_rfl, fun j t ht => by
        rw [Tryd.params5] at ht
        have hm : t ∈ [22, 22] := by simpa using Array.mem_of_getElem? ht
        have hall : ([22, 22].all fun u => !Tryd.prog.wantsStandIn u) = true := by kernel_rfl
        exact (show Tryd.prog.wantsStandIn t = false by simpa using List.all_eq_true.1 hall t hm)⟩)
    (by kernel_rfl)
#print axioms codecLinear_holds
end Go.Proofs.YtdjilmcpkeckoabDoor
