/-
  The walk of CodecBack, where the numbers are at most 1000 and the texts more than 100.
-/
import Derived.Test.YtdjilmcpkeckoaaDoorBackP
import Derived.Test.YtdjilmcpkeckoaaDoorUnrec
import Derived.Deep.RegionHeld
import Derived.Deep.AppendLies
namespace Go.Proofs.YtdjilmcpkeckoaaDoor
open Go.ChangeShapes Go.WideShapes Go.ChangeAt Go.WideMaps Go.WideElems Go.RowKit

set_option maxHeartbeats 8000000 in
theorem back_12 (ao : Option Addr) (n cap : Nat) (am : Option Addr) (m capm : Nat) (zs : List Int) (ss : List ByteArray) (w : World) (hT : Tab w) (hz : CellsZ w ao zs) (hs : CellsS w am ss)
    (hzb : ∀ z ∈ zs, -9223372036854775808 ≤ z ∧ z ≤ 9223372036854775807) (hsb : ∀ s ∈ ss, s.size ≤ 9223372036854775807) (hl : zs.length = n) (hn : n ≤ 1000) (hl2 : ss.length = 100) (hm : 100 < m) :
    Calls Tryd.prog 7 #[.slice ao n cap, .slice am m capm] w fun e w' => e = .returned (.bool true) ∧ Below w.heap.size w w' := by
  obtain ⟨i0, hi, hzz0, hzz1, hzz2⟩ := info_parts Tryd.info5
  have HL : Hid (zs.length = n) := hl
  have HL2 : Hid (ss.length = 100) := hl2
  have HZ : Hid (CellsZ w ao zs) := hz
  have HS : Hid (CellsS w am ss) := hs
  have HT : Hid (Tab w) := hT
  have HZB : Hid (∀ z ∈ zs, -9223372036854775808 ≤ z ∧ z ≤ 9223372036854775807) := hzb
  have HSB : Hid (∀ s ∈ ss, s.size ≤ 9223372036854775807) := hsb
  have HNL : Hid ((nums zs).length ≤ 10000) := by have := nums_len zs; rw [hl] at this; exact (by omega : (nums zs).length ≤ 10000)
  clear hl hl2 hz hs hT hzb hsb
  go_enter Tryd.func7, Tryd.ntmps7
  go_wp2
  go_loopw [5, 6] (fun v i wr => ∃ k : Nat, k ≤ n ∧ i = .int .i64 (k : Int) ∧ Own wr w.heap.size v (nums (zs.take k)) ∧ Below w.heap.size w wr) (fun _ i _ => n - (intOf i).toNat)
  case atStart => exact ⟨0, Nat.zero_le _, rfl, World.ownsRow_nil _ _ _ _, Below.refl _ _⟩
  case round =>
    obtain ⟨k, hk, rfl, ho, hbl⟩ := hrel
    have hsz := hbl.size
    by_cases hlt : k < n
    · obtain ⟨b, off, rfl, hc⟩ := HZ.out (by rw [HL.out]; omega)
      have hkz : k < zs.length := by rw [HL.out]; omega
      have hb : b < w.heap.size := World.block_lt_of_cell? w _ (hc 0 (by omega))
      have cx : wr.cell? ⟨b, off + k, none⟩ = some (.int .i64 zs[k]) := (hbl.cell (p := ⟨b, off + k, none⟩) hb).trans (hc k hkz)
      have HF : Hid (nums (zs.take (k + 1)) = nums (zs.take k) ++ numBytes zs[k]) := nums_take zs k hkz
      have hnl : (nums (zs.take k)).length ≤ 10000 := by have := nums_len (zs.take k); simp only [List.length_take] at this; omega
      have hzk := HZB.out zs[k] (List.getElem_mem hkz)
      have hbl10 := (numBytes_len zs[k]).2
      have HC := fun W => number_any zs[k] W hzk.1 hzk.2
      generalize zs[k] = z at cx HF HC hbl10
      generalize numBytes z = nz at HF HC hbl10
      generalize nums (zs.take k) = F at ho HF hnl
      have hki : (k : Int) < (n : Int) := by omega
      have hk0 : (0 : Int) ≤ (k : Int) := by omega
      have hk1 : (k : Int) < 1000 := by omega
      clear hc hkz hzk
      go_wp2_with fail
      refine (HC _).mono ?_
      rintro e w1 ⟨v1, rfl, o1, b1⟩
      obtain ⟨a1, c1, rfl, hr1, _⟩ := o1.rd
      have z1 := b1.size
      have ho1 := ho.later b1
      clear HC cx
      go_wp2_with (at_builtin; refine wpList_append_from rfl _ _ 22 22 rfl w.heap.size 5 i0 (.int .u8 0) 1 1 Tryd.underlying22 hi hzz0 hzz1 hzz2 rfl _ F.length (bv F) rfl ho1 _ nz.length (bv nz) rfl (src_of_rd Tryd.underlying22 hr1) (by unfold maxLen; omega) (by omega) (by omega) ?_)
      intro v2 w2 ho2 hgrow2
      have hB : Below w.heap.size w w2 := (hbl.trans (b1.mono hsz)).grown hgrow2 (by omega) (fun k hk => (World.ownsRow.lt ho1 k hk).1)
      have hO := own_append ho2
      rw [← HF.out] at hO
      clear ho2 hgrow2 ho ho1 o1 hr1
      go_wp2
      go_roundw
      case rel => exact ⟨k + 1, by omega, by go_num, hO, hB⟩
      case measure => simp [intOf]; omega
    · have hkn : k = n := by omega
      subst hkn
      have htk : zs.take k = zs := List.take_of_length_le (by rw [HL.out]; exact Nat.le_refl _)
      rw [htk] at ho
      clear htk hk hlt
      have HLN := HNL.out
      have HAE : ∃ A, A = nums zs := ⟨_, rfl⟩
      obtain ⟨A, hA⟩ := HAE
      rw [← hA] at ho HLN
      have HA : Hid (A = nums zs) := hA
      clear hA
      go_wp2
      go_loopw [5, 7] (fun v i wr => ∃ j : Nat, j ≤ 100 ∧ i = .int .i64 (j : Int) ∧ Own wr w.heap.size v (A ++ texts (ss.take j)) ∧ Below w.heap.size w wr ∧ ∀ s ∈ ss.take j, s.size ≤ 10000) (fun _ i _ => 100 - (intOf i).toNat)
      case atStart => exact ⟨0, Nat.zero_le _, rfl, by simpa [texts] using ho, hbl, fun s h => by simp at h⟩
      case round =>
        clear ho hbl hsz
        obtain ⟨j, hj, rfl, ho, hbl, hall⟩ := hrel
        have hsz := hbl.size
        by_cases hlt : j < 100
        · obtain ⟨b, off, rfl, hc⟩ := HS.out (by rw [HL2.out]; omega)
          have hkz : j < ss.length := by rw [HL2.out]; omega
          have hb : b < w.heap.size := World.block_lt_of_cell? w _ (hc 0 (by omega))
          have cx : wr.cell? ⟨b, off + j, none⟩ = some (.string ss[j]) := (hbl.cell (p := ⟨b, off + j, none⟩) hb).trans (hc j hkz)
          have HF : Hid (texts (ss.take (j + 1)) = texts (ss.take j) ++ textBytes ss[j]) := texts_take ss j hkz
          have hnl : (texts (ss.take j)).length ≤ 1001000 := by have := texts_len (ss.take j) hall; simp only [List.length_take] at this; omega
          have hzk := HSB.out ss[j] (List.getElem_mem hkz)
          have HALL : Hid (∀ s ∈ ss.take j, s.size ≤ 10000) := hall
          have HNX : Hid (ss[j].size ≤ 10000 → ∀ s ∈ ss.take (j + 1), s.size ≤ 10000) := by
            intro h s hs
            rw [← List.take_append_getElem hkz] at hs
            rcases List.mem_append.1 hs with h1 | h1
            · exact hall s h1
            · simp at h1; rw [h1]; exact h
          have hbl10 := text_len ss[j]
          generalize ss[j] = s at cx HF hzk HNX hbl10
          generalize texts (ss.take j) = F at ho HF hnl
          have hki : (j : Int) < (m : Int) := by omega
          have hk0 : (0 : Int) ≤ (j : Int) := by omega
          have hk1 : (j : Int) < 100 := by omega
          clear hc hkz hall
          have HTw : Hid (Tab wr) := HT.out.later hbl HT.out.pos
          by_cases h20 : s.size ≤ 1048576
          · have HC := fun W => text_fits s W h20
            go_wp2_with fail
            refine (HC _).mono ?_
            rintro e w1 ⟨v1, rfl, o1, b1⟩
            have z1 := b1.size
            have ho1 := ho.later b1
            have cx1 : w1.cell? ⟨b, off + j, none⟩ = some (.string s) := (b1.cell (p := ⟨b, off + j, none⟩) (by show b < wr.heap.size; omega)).trans cx
            have HT1 : Hid (Tab w1) := HTw.out.later b1 HTw.out.pos
            obtain ⟨a1, c1, rfl, hr1, _⟩ := o1.rd
            clear HC cx o1
            by_cases h14 : s.size ≤ 10000
            · have h14' : ¬ (10000 : Int) < (s.size : Int) := by omega
              have hb10 := hbl10 h14
              generalize textBytes s = ts at HF hr1 hb10
              clear hbl10 h20
              go_wp2_with fail
              refine (num_any _ _).mono ?_
              rintro e w1' ⟨rfl, rfl⟩
              go_wp2_with (at_builtin; refine wpList_append_from rfl _ _ 22 22 rfl w.heap.size 5 i0 (.int .u8 0) 1 1 Tryd.underlying22 hi hzz0 hzz1 hzz2 rfl _ (A ++ F).length (bv (A ++ F)) rfl ho1 _ ts.length (bv ts) rfl (src_of_rd Tryd.underlying22 hr1) (by unfold maxLen; simp only [List.length_append]; omega) (by simp only [List.length_append]; omega) (by omega) ?_)
              intro v2 w2 ho2 hgrow2
              have hB : Below w.heap.size w w2 := (hbl.trans (b1.mono hsz)).grown hgrow2 (by omega) (fun k hk => (World.ownsRow.lt ho1 k hk).1)
              have hO := own_append ho2
              rw [List.append_assoc, ← HF.out] at hO
              clear ho2 hgrow2 ho ho1 hr1
              go_wp2
              go_roundw
              case rel => exact ⟨j + 1, by omega, by go_num, hO, hB, HNX.out h14⟩
              case measure => simp [intOf]; omega
            · have h14' : (10000 : Int) < (s.size : Int) := by omega
              generalize textBytes s = ts at HF hr1
              clear hbl10 h20
              go_wp2_with fail
              refine (num_any _ _).mono ?_
              rintro e w1' ⟨rfl, rfl⟩
              go_wp2_with (go_at_call 20; refine (knows_any _ HT1.out).mono ?_; rintro e w9 ⟨rfl, b9⟩)
              go_ret
              exact ⟨rfl, (hbl.trans (b1.mono hsz)).trans (b9.mono (by omega))⟩
          · have HC := fun W => text_big s W (by omega) hzk
            clear hbl10
            go_wp2_with fail
            refine (HC _).mono ?_
            rintro e w1 ⟨rfl, rfl⟩
            clear HC
            go_wp2_with fail
            refine (num_any _ _).mono ?_
            rintro e w1' ⟨rfl, rfl⟩
            go_wp2_with (go_at_call 20; refine (knows_any _ HTw.out).mono ?_; rintro e w9 ⟨rfl, b9⟩)
            go_ret
            exact ⟨rfl, hbl.trans (b9.mono (by omega))⟩
        · have hjn : j = 100 := by omega
          subst hjn
          have hmi : (100 : Int) < (m : Int) := by omega
          have htk : ss.take 100 = ss := List.take_of_length_le (by rw [HL2.out]; exact Nat.le_refl _)
          rw [htk] at ho hall
          clear htk hj hlt
          have hlT : (texts ss).length ≤ 1001000 := by have := texts_len ss hall; rw [HL2.out] at this; omega
          have HALL : Hid (∀ s ∈ ss, s.size ≤ 10000) := hall
          have HRN : Hid (∀ k (h : k < zs.length), rNum (A ++ texts ss) (nums (zs.take k)).length 0 = (zs[k], (nums (zs.take (k + 1))).length, 0)) := fun k h => by rw [HA.out]; exact read_num zs (texts ss) k h (HZB.out _ (List.getElem_mem h)).1 (HZB.out _ (List.getElem_mem h)).2
          have HRT : Hid (∀ k (h : k < ss.length), rTxt (A ++ texts ss) (A.length + (texts (ss.take k)).length) 0 = (ss[k].data.toList, A.length + (texts (ss.take (k + 1))).length, 0)) := fun k h => read_text A ss k h (HALL.out _ (List.getElem_mem h))
          have hlB : (A ++ texts ss).length ≤ 1011000 := by simp only [List.length_append]; omega
          have HEND : Hid ((A ++ texts ss).length = A.length + (texts (ss.take ss.length)).length) := by rw [List.take_length, List.length_append]; exact rfl
          obtain ⟨a3, c3, rfl, hr3, _⟩ := ho.rd
          clear ho hall hlT HALL
          generalize hBB : A ++ texts ss = B at *
          clear hBB
          have hr3' : Hid (Rd wr a3 B.length c3 B) := hr3
          clear hr3
          go_wp2_with fail
          refine (newReader_any _ _ _ _ _ hr3'.out (by omega)).mono ?_
          rintro e w3 ⟨p, rfl, hp, hR, b3⟩
          have hB3 : Below w.heap.size w w3 := hbl.trans (b3.mono hsz)
          have hpw : w.heap.size ≤ p := by omega
          clear hbl hsz b3 hr3' hlB
          go_wp2
          go_loopw [11] (fun i wr => ∃ q : Nat, q ≤ k ∧ i = .int .i64 (q : Int) ∧ Rdr wr p B (nums (zs.take q)).length 0 ∧ Below w.heap.size w wr) (fun i _ => k - (intOf i).toNat)
          case atStart => exact ⟨0, Nat.zero_le _, rfl, hR, hB3⟩
          case round =>
            clear hR hB3
            obtain ⟨q, hq, rfl, hR, hbl⟩ := hrel
            have hsz := hbl.size
            by_cases hlt : q < k
            · obtain ⟨b, off, rfl, hc⟩ := HZ.out (by rw [HL.out]; omega)
              have hkz : q < zs.length := by rw [HL.out]; omega
              have hb : b < w.heap.size := World.block_lt_of_cell? w _ (hc 0 (by omega))
              have cx : wr.cell? ⟨b, off + q, none⟩ = some (.int .i64 zs[q]) := (hbl.cell (p := ⟨b, off + q, none⟩) hb).trans (hc q hkz)
              have HC := fun W (h : Rdr W p B (nums (zs.take q)).length 0) => rNumber_any p B (nums (zs.take q)).length 0 W h
              rw [HRN.out q hkz] at HC
              simp only at HC
              generalize zs[q] = z at cx HC
              have hki : (q : Int) < (k : Int) := by omega
              have hk0 : (0 : Int) ≤ (q : Int) := by omega
              have hk1 : (q : Int) < 1000 := by omega
              have HRd : Hid (Rdr wr.drew p B (nums (zs.take q)).length 0) := hR.drewN 1
              generalize nums (zs.take q) = F at HC HRd
              have HCH : Hid (∀ W, Rdr W p B F.length 0 → Calls Tryd.prog 23 #[.pointer (some ⟨p, 0, none⟩)] W fun x w' => x = .returned (.int .i64 z) ∧ Rdr w' p B (nums (zs.take (q + 1))).length 0 ∧ W.grownBy w' (some p)) := HC
              clear hc hkz hR HC
              have HFAR : Hid (∀ w4, wr.drew.grownBy w4 (some p) → w4.cell? ⟨b, off + q, none⟩ = some (.int .i64 z)) := fun w4 g4 => (g4.cell_far ⟨b, off + q, none⟩ (show b < wr.heap.size by omega) (fun h => by simp at h; omega)).trans cx
              go_wp2_with fail
              go_region_held (fun W => W.cell? ⟨b, off + q, none⟩ = some (.int .i64 z)) (first | go_keep | assumption)
                ((go_at_call 23; refine (HCH.out _ HRd.out).mono ?_; rintro e w4 ⟨rfl, hR4, g4⟩; have cx4 := HFAR.out _ g4))
              have hB4 : Below w.heap.size w w4 := hbl.trans (gb_below (gb_trans (gb_drewN wr 1 _) g4) hpw hsz)
              go_wp2
              go_roundw
              case rel => exact ⟨q + 1, by omega, by go_num, hR4, hB4⟩
              case measure => simp [intOf]; omega
            · have hqn : k = q := by omega
              subst hqn
              have htk : zs.take k = zs := List.take_of_length_le (by rw [HL.out]; exact Nat.le_refl _)
              rw [htk, ← HA.out] at hR
              clear htk hq hlt
              go_wp2
              go_loopw [12] (fun i wr => ∃ t : Nat, t ≤ 100 ∧ i = .int .i64 (t : Int) ∧ Rdr wr p B (A.length + (texts (ss.take t)).length) 0 ∧ Below w.heap.size w wr) (fun i _ => 100 - (intOf i).toNat)
              case atStart => exact ⟨0, Nat.zero_le _, rfl, by simpa [texts] using hR, hbl⟩
              case round =>
                clear hR hbl hsz
                obtain ⟨t, ht, rfl, hR, hbl⟩ := hrel
                have hsz := hbl.size
                by_cases hlt : t < 100
                · obtain ⟨b, off, rfl, hc⟩ := HS.out (by rw [HL2.out]; omega)
                  have hkz : t < ss.length := by rw [HL2.out]; omega
                  have hb : b < w.heap.size := World.block_lt_of_cell? w _ (hc 0 (by omega))
                  have cx : wr.cell? ⟨b, off + t, none⟩ = some (.string ss[t]) := (hbl.cell (p := ⟨b, off + t, none⟩) hb).trans (hc t hkz)
                  have HC := fun W (h : Rdr W p B (A.length + (texts (ss.take t)).length) 0) => rText_any p B (A.length + (texts (ss.take t)).length) 0 W h
                  rw [HRT.out t hkz] at HC
                  have hsame : (⟨ss[t].data.toList.toArray⟩ : ByteArray) = ss[t] := rfl
                  simp only [hsame] at HC
                  generalize ss[t] = s at cx HC
                  have hki : (t : Int) < (m : Int) := by omega
                  have hk0 : (0 : Int) ≤ (t : Int) := by omega
                  have hk1 : (t : Int) < 100 := by omega
                  have HRd : Hid (Rdr wr.drew p B (A.length + (texts (ss.take t)).length) 0) := hR.drewN 1
                  generalize texts (ss.take t) = F at HC HRd
                  have HCH : Hid (∀ W, Rdr W p B (A.length + F.length) 0 → Calls Tryd.prog 25 #[.pointer (some ⟨p, 0, none⟩)] W fun x w' => x = .returned (.string s) ∧ Rdr w' p B (A.length + (texts (ss.take (t + 1))).length) 0 ∧ W.grownBy w' (some p)) := HC
                  clear hsame hc hkz hR HC
                  have HFAR : Hid (∀ w4, wr.drew.grownBy w4 (some p) → w4.cell? ⟨b, off + t, none⟩ = some (.string s)) := fun w4 g4 => (g4.cell_far ⟨b, off + t, none⟩ (show b < wr.heap.size by omega) (fun h => by simp at h; omega)).trans cx
                  go_wp2_with fail
                  go_region_held (fun W => W.cell? ⟨b, off + t, none⟩ = some (.string s)) (first | go_keep | assumption)
                    ((go_at_call 25; refine (HCH.out _ HRd.out).mono ?_; rintro e w4 ⟨rfl, hR4, g4⟩; have cx4 := HFAR.out _ g4))
                  have hB4 : Below w.heap.size w w4 := hbl.trans (gb_below (gb_trans (gb_drewN wr 1 _) g4) hpw hsz)
                  go_wp2
                  go_roundw
                  case rel => exact ⟨t + 1, by omega, by go_num, hR4, hB4⟩
                  case measure => simp [intOf]; omega
                · have htn : 100 = t := by omega
                  subst htn
                  have hkE : ss.length = 100 := HL2.out
                  have hE := HEND.out
                  rw [hkE] at hE
                  rw [← hE] at hR
                  have HD := done_any p B B.length 0 wr hR
                  have hD0 : rDone B B.length 0 = 0 := by unfold rDone; simp
                  rw [hD0] at HD
                  clear hkE hE hD0 hR
                  go_wp2_with fail
                  refine HD.mono ?_
                  rintro e w5 ⟨rfl, nq, rfl⟩
                  clear HD
                  have HTq : Hid (Tab (wr.drewN nq)) := (HT.out.later hbl HT.out.pos).drewN nq
                  go_wp2_with fail
                  refine (num_any _ _).mono ?_
                  rintro e w' ⟨rfl, rfl⟩
                  go_wp2_with fail
                  refine (knows_any _ HTq.out).mono ?_
                  rintro e w9 ⟨rfl, b9⟩
                  go_wp2
                  go_ret
                  exact ⟨rfl, (below_drewN hbl nq).trans (b9.mono hsz)⟩
end Go.Proofs.YtdjilmcpkeckoaaDoor
