/-
  The walk of CodecReads: it answers true for every list of bytes and every list of numbers.
-/
import Derived.Test.YtdjilmcpkeckoaaDoorReadsQ
import Derived.Test.YtdjilmcpkeckoaaDoorBackP
import Derived.Test.YtdjilmcpkeckoaaDoorFrm
import Derived.Deep.Cut
import Derived.Deep.RegionHeld2
namespace Go.Proofs.YtdjilmcpkeckoaaDoor
open Go.ChangeShapes Go.WideShapes Go.ChangeAt Go.WideMaps Go.WideElems Go.RowKit

/-- A world that has only drawn. -/
def Dr (a w : World) : Prop := ∃ n, w = a.drewN n
theorem Dr.refl (a : World) : Dr a a := ⟨0, rfl⟩
theorem Dr.drewN {a w : World} (h : Dr a w) (m : Nat) : Dr a (w.drewN m) := by obtain ⟨n, rfl⟩ := h; exact ⟨n + m, by rw [World.drewN_drewN]⟩
theorem Dr.drew {a w : World} (h : Dr a w) : Dr a w.drew := h.drewN 1
theorem Rdr.dr {w w' : World} {p : Nat} {bs : List UInt8} {k e : Nat} (h : Rdr w p bs k e) (hd : Dr w w') : Rdr w' p bs k e := by obtain ⟨n, rfl⟩ := hd; exact h.drewN n
theorem RRdr.dr {w w' : World} {p : Nat} {bs : List UInt8} {k e : Nat} (h : RRdr w p bs k e) (hd : Dr w w') : RRdr w' p bs k e := by obtain ⟨n, rfl⟩ := hd; exact h.drewN n
theorem Rdr.lt {w : World} {p : Nat} {bs : List UInt8} {k e : Nat} (h : Rdr w p bs k e) : p < w.heap.size := by
  obtain ⟨ao, cap, hb, _⟩ := h
  exact (Array.getElem?_eq_some_iff.1 hb).1
theorem RRdr.lt {w : World} {p : Nat} {bs : List UInt8} {k e : Nat} (h : RRdr w p bs k e) : p < w.heap.size := by
  obtain ⟨ao, cap, hb, _⟩ := h
  exact (Array.getElem?_eq_some_iff.1 hb).1
theorem RRdr.err {w : World} {p : Nat} {bs : List UInt8} {k e : Nat} (h : RRdr w p bs k e) : w.cell? ⟨p, 2, none⟩ = some (.int .i64 (e : Int)) := by
  obtain ⟨ao, cap, hb, _⟩ := h
  exact (rrCell w hb).2.2
theorem gb_refl (w : World) (r : Option Nat) : w.grownBy w r := ⟨rfl, rfl, rfl, Nat.le_refl _, fun _ _ _ => rfl⟩

set_option maxRecDepth 5000 in
set_option maxHeartbeats 8000000 in
theorem reads_walk (ao : Option Addr) (n cap : Nat) (am : Option Addr) (m capm : Nat) (bs : List UInt8) (zs : List Int) (w : World) (hT : Tab w) (hr : Rd w ao n cap bs) (hc : cap ≤ 140737488351232) (hz : CellsZ w am zs) (hl : zs.length = m) (hm : m ≤ 9223372036854775807) :
    Calls Tryd.prog 4 #[.slice ao n cap, .slice am m capm] w fun e w' => e = .returned (.bool true) ∧ Below w.heap.size w w' := by
  have hnc := hr.2.1
  have HR : Hid (Rd w ao n cap bs) := hr
  have HT : Hid (Tab w) := hT
  have HZ : Hid (CellsZ w am zs) := hz
  have HL : Hid (zs.length = m) := hl
  clear hr hT hz hl
  go_enter Tryd.func4, Tryd.ntmps4
  go_wp2_with fail
  refine (lent_row ao n cap bs _ HR.out (by omega)).mono ?_
  rintro e w1 ⟨g, c, rfl, hg, hM, hRow, b1⟩
  have z1 := b1.size
  have lg := hRow.lt
  go_wp2_with fail
  refine (newReader_far _ _ _ bs w1 hM (by omega)).mono ?_
  rintro e w2 ⟨p, rfl, hp, hF, b2⟩
  have z2 := b2.size
  have lp := hF.lt
  go_wp2_with fail
  refine (rnewReader_far ao n cap bs w2 ((HR.out.later b1).later b2) (by omega)).mono ?_
  rintro e w3 ⟨q, rfl, hq, hF', b3⟩
  have z3 := b3.size
  have Bw3 : Below w.heap.size w w3 := b1.trans ((b2.trans (b3.mono z2)).mono z1)
  go_wp2_with (go_at_call 20; refine (knows_any _ ?_).mono ?_; exact HT.out.later Bw3 HT.out.pos; rintro e w4 ⟨rfl, b4⟩)
  have Bw4 : Below w.heap.size w w4 := Bw3.trans (b4.mono Bw3.size)
  have hF4 := (hF.later b3).later b4
  have hF'4 := hF'.later b4
  have hRow4 := ((hRow.later b2).later b3).later b4
  have hpq : p ≠ q := by omega
  have hgp : p ≠ g := by omega
  have hgq : q ≠ g := by omega
  have HG : Hid (g < w1.heap.size ∧ g < w2.heap.size ∧ w.heap.size ≤ g ∧ w.heap.size ≤ p ∧ w.heap.size ≤ q) := ⟨lg, by omega, hg, by omega, by omega⟩
  have hnm : n ≤ 140737488351232 := by omega
  clear b1 b2 b3 b4 Bw3 hF hF' hRow hM z1 z2 z3 lg lp hp hq hg
  go_loopw [8] (fun i wr => ∃ k : Nat, k ≤ n ∧ i = .int .i64 (k : Int) ∧ RowQ wr g n ∧ w4.grownBy wr (some g)) (fun i _ => n - (intOf i).toNat)
  case atStart => exact ⟨0, Nat.zero_le _, rfl, hRow4, gb_refl _ _⟩
  case round =>
    obtain ⟨k, hk, rfl, hrw, hgb⟩ := hrel
    by_cases hlt : k < n
    · obtain ⟨y, hy⟩ := hrw.cell k hlt
      have hf := hrw.free k
      have hst := hrw.store k (y + 1)
      have hB := gb_trans hgb (gb_setCell wr g k (.int .u8 ((y + 1).toNat : Int)))
      have hp1 := plus_oneQ y
      generalize y + 1 = y1 at hst hB hp1
      have hki : (k : Int) < (n : Int) := by omega
      clear hRow4 hrw
      go_wp2
      go_roundw
      case rel => exact ⟨k + 1, by omega, by go_num, hst, hB⟩
      case measure => simp [intOf]; omega
    · have hki : ¬ (k : Int) < (n : Int) := by omega
      have hG := HG.out
      have hR0 := hF4.past hgb hgp hG.1
      have hQ0 := hF'4.past hgb hgq hG.2.1
      have hB0 : Below w.heap.size w wr := Bw4.grown hgb Bw4.size (fun i hi => by cases hi; omega)
      have hwp := hG.2.2.2.1
      have hwq := hG.2.2.2.2
      clear hrw hgb hRow4 hF4 hF'4 Bw4 hG HG hgp hgq hlt hk
      go_wp2
      go_loopw [9] (fun i wr => ∃ j k e : Nat, j ≤ m ∧ i = .int .i64 (j : Int) ∧ Rdr wr p bs k e ∧ RRdr wr q bs k e ∧ Below w.heap.size w wr) (fun i _ => m - (intOf i).toNat)
      case atStart => exact ⟨0, 0, 0, Nat.zero_le _, rfl, hR0, hQ0, hB0⟩
      case round =>
        clear hR0 hQ0 hB0
        rename World => wr
        obtain ⟨j, k, e, hj, rfl, hR, hQ, hB⟩ := hrel
        by_cases hlt : j < m
        · obtain ⟨b, off, rfl, hcz⟩ := HZ.out (by rw [HL.out]; omega)
          have hjz : j < zs.length := by rw [HL.out]; omega
          have hb : b < w.heap.size := World.block_lt_of_cell? w _ (hcz 0 (by omega))
          have cx : wr.cell? ⟨b, off + j, none⟩ = some (.int .i64 zs[j]) := (hB.cell (p := ⟨b, off + j, none⟩) hb).trans (hcz j hjz)
          generalize zs[j] = z at cx
          have hji : (j : Int) < (m : Int) := by omega
          have hj0 : (0 : Int) ≤ (j : Int) := by omega
          clear hcz hjz
          by_cases hz0 : z = 0
          · subst hz0
            go_wp2_with fail
            refine (rNumber_any p bs k e _ hR).mono ?_
            rintro x w5 ⟨rfl, hR1, gr1⟩
            have hQ1 := hQ.beside hR gr1 hpq hQ.lt
            have C2 := rrNumber_any q bs k e w5 hQ1
            obtain ⟨⟨va, k2, e2⟩, ht⟩ : ∃ t, t = rNum bs k e := ⟨_, rfl⟩
            rw [← ht] at hR1 C2
            rw [← ht]
            simp only at hR1 C2
            clear ht
            have hB5 : Below w.heap.size w w5 := hB.grown gr1 hB.size (fun i hi => by cases hi; omega)
            clear hR hQ hB
            go_wp2_with fail
            refine C2.mono ?_
            rintro x w6 ⟨rfl, hQ2, gr2⟩
            have hR2 := hR1.beside hQ1 gr2 hpq hR1.lt
            have hB2 : Below w.heap.size w w6 := hB5.grown gr2 hB5.size (fun i hi => by cases hi; omega)
            clear C2 hR1 hQ1 gr1 gr2 hB5
            have L1 : ∀ W, Dr w6 W → _ := fun W (h : Dr w6 W) => left_any p bs k2 e2 W (hR2.dr h)
            have L2 : ∀ W, Dr w6 W → _ := fun W (h : Dr w6 W) => rleft_any q bs k2 e2 W (hQ2.dr h)
            have E1 : ∀ W, Dr w6 W → _ := fun W (h : Dr w6 W) => err_yes p bs k2 e2 W (hR2.dr h)
            have D1 : ∀ W, Dr w6 W → _ := fun W (h : Dr w6 W) => done_any p bs k2 e2 W (hR2.dr h)
            have D2 : ∀ W, Dr w6 W → _ := fun W (h : Dr w6 W) => rdone_any q bs k2 e2 W (hQ2.dr h)
            have cE := hQ2.err
            generalize ((bs.length - k2 : Nat) : Int) = lf at L1 L2
            generalize (rDone bs k2 e2 : Int) = dn at D1 D2
            have HQ2 : Hid (RRdr w6 q bs k2 e2) := hQ2
            have HR2 : Hid (Rdr w6 p bs k2 e2) := hR2
            have HB2 : Hid (Below w.heap.size w w6) := hB2
            clear hQ2 hR2 hB2
            go_upto_region 18 with fail
            go_region_held2 (fun W => W.cell? ⟨q, 2, none⟩ = some (.int .i64 (e2 : Int))) (simp [go_sem, cE])
              ((first
                | (go_at_call 27; refine (L1 _ (by repeat (first | exact Dr.refl _ | apply Dr.drew | apply Dr.drewN))).mono ?_; rintro x w' ⟨rfl, nq, rfl⟩)
                | (go_at_call 28; refine (L2 _ (by repeat (first | exact Dr.refl _ | apply Dr.drew | apply Dr.drewN))).mono ?_; rintro x w' ⟨rfl, nq, rfl⟩)
                | (go_at_call 29; refine (E1 _ (by repeat (first | exact Dr.refl _ | apply Dr.drew | apply Dr.drewN))).mono ?_; rintro x w' ⟨rfl, rfl⟩)
                | (go_at_call 16; refine (num_any _ _).mono ?_; rintro x w' ⟨rfl, rfl⟩)
                | (go_at_call 30; refine (D1 _ (by repeat (first | exact Dr.refl _ | apply Dr.drew | apply Dr.drewN))).mono ?_; rintro x w' ⟨rfl, nq, rfl⟩)
                | (go_at_call 31; refine (D2 _ (by repeat (first | exact Dr.refl _ | apply Dr.drew | apply Dr.drewN))).mono ?_; rintro x w' ⟨rfl, nq, rfl⟩)))
            all_goals go_wp2_with fail
            all_goals go_roundw
            case rel => exact ⟨j + 1, k2, e2, by omega, by go_num, HR2.out.drewN _, HQ2.out.drewN _, below_drewN HB2.out _⟩
            case measure => simp [intOf]; omega
          · have hzb : (z == 0) = false := by simp [hz0]
            go_wp2_with fail
            refine (rText_any p bs k e _ hR).mono ?_
            rintro x w5 ⟨rfl, hR1, gr1⟩
            have hQ1 := hQ.beside hR gr1 hpq hQ.lt
            have C2 := rrText_any q bs k e w5 hQ1
            obtain ⟨⟨va, k2, e2⟩, ht⟩ : ∃ t, t = rTxt bs k e := ⟨_, rfl⟩
            rw [← ht] at hR1 C2
            rw [← ht]
            simp only at hR1 C2
            clear ht
            have hB5 : Below w.heap.size w w5 := hB.grown gr1 hB.size (fun i hi => by cases hi; omega)
            clear hR hQ hB
            go_wp2_with fail
            refine C2.mono ?_
            rintro x w6 ⟨rfl, hQ2, gr2⟩
            have hR2 := hR1.beside hQ1 gr2 hpq hR1.lt
            have hB2 : Below w.heap.size w w6 := hB5.grown gr2 hB5.size (fun i hi => by cases hi; omega)
            clear C2 hR1 hQ1 gr1 gr2 hB5
            have L1 : ∀ W, Dr w6 W → _ := fun W (h : Dr w6 W) => left_any p bs k2 e2 W (hR2.dr h)
            have L2 : ∀ W, Dr w6 W → _ := fun W (h : Dr w6 W) => rleft_any q bs k2 e2 W (hQ2.dr h)
            have E1 : ∀ W, Dr w6 W → _ := fun W (h : Dr w6 W) => err_yes p bs k2 e2 W (hR2.dr h)
            have D1 : ∀ W, Dr w6 W → _ := fun W (h : Dr w6 W) => done_any p bs k2 e2 W (hR2.dr h)
            have D2 : ∀ W, Dr w6 W → _ := fun W (h : Dr w6 W) => rdone_any q bs k2 e2 W (hQ2.dr h)
            have cE := hQ2.err
            generalize ((bs.length - k2 : Nat) : Int) = lf at L1 L2
            generalize (rDone bs k2 e2 : Int) = dn at D1 D2
            have HQ2 : Hid (RRdr w6 q bs k2 e2) := hQ2
            have HR2 : Hid (Rdr w6 p bs k2 e2) := hR2
            have HB2 : Hid (Below w.heap.size w w6) := hB2
            clear hQ2 hR2 hB2
            go_upto_region 18 with fail
            go_region_held2 (fun W => W.cell? ⟨q, 2, none⟩ = some (.int .i64 (e2 : Int))) (simp [go_sem, cE])
              ((first
                | (go_at_call 27; refine (L1 _ (by repeat (first | exact Dr.refl _ | apply Dr.drew | apply Dr.drewN))).mono ?_; rintro x w' ⟨rfl, nq, rfl⟩)
                | (go_at_call 28; refine (L2 _ (by repeat (first | exact Dr.refl _ | apply Dr.drew | apply Dr.drewN))).mono ?_; rintro x w' ⟨rfl, nq, rfl⟩)
                | (go_at_call 29; refine (E1 _ (by repeat (first | exact Dr.refl _ | apply Dr.drew | apply Dr.drewN))).mono ?_; rintro x w' ⟨rfl, rfl⟩)
                | (go_at_call 16; refine (num_any _ _).mono ?_; rintro x w' ⟨rfl, rfl⟩)
                | (go_at_call 30; refine (D1 _ (by repeat (first | exact Dr.refl _ | apply Dr.drew | apply Dr.drewN))).mono ?_; rintro x w' ⟨rfl, nq, rfl⟩)
                | (go_at_call 31; refine (D2 _ (by repeat (first | exact Dr.refl _ | apply Dr.drew | apply Dr.drewN))).mono ?_; rintro x w' ⟨rfl, nq, rfl⟩)))
            all_goals go_wp2_with fail
            all_goals go_roundw
            case rel => exact ⟨j + 1, k2, e2, by omega, by go_num, HR2.out.drewN _, HQ2.out.drewN _, below_drewN HB2.out _⟩
            case measure => simp [intOf]; omega
        · have hji : ¬ (j : Int) < (m : Int) := by omega
          clear hR hQ
          go_wp2
          go_ret
          exact ⟨rfl, hB⟩
end Go.Proofs.YtdjilmcpkeckoaaDoor
