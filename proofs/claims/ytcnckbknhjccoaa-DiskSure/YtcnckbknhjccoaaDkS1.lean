/-
  The walk of DiskSure.
-/
import Derived.Test.YtcnckbknhjccoaaDkS0
import Derived.Deep.CutBlock
import Derived.BigRegion
namespace Go.Proofs.Ytcnckbknhjccoaa
open Go.RowKit Go.Maps

/-- An op as plain data. -/
structure Od where
  kd : Int
  n : Int
  ao : Option Addr
  m : Nat
  cap : Nat
  torn : Bool
  fo : Option Addr
  fn : Nat
  fc : Nat
  B : List UInt8
def Od.cells (s : Od) : Array Value := #[.int .i64 s.kd, .int .i64 s.n, .slice s.ao s.m s.cap, .bool s.torn, .slice s.fo s.fn s.fc]
def At5 (w : World) (b o : Nat) (s : Od) : Prop := ∀ j v, s.cells[j]? = some v → w.cell? ⟨b, o + j, none⟩ = some v
def OpsW (w : World) (ao : Option Addr) (ss : List Od) : Prop :=
  (0 < ss.length → ∃ b off, b < w.heap.size ∧ ao = some ⟨b, off, none⟩ ∧ ∀ i (h : i < ss.length), At5 w b (off + i * 5) ss[i]) ∧ ∀ i (h : i < ss.length), Rd w ss[i].ao ss[i].m ss[i].cap ss[i].B ∧ wf64 ss[i].kd ∧ wf64 ss[i].n

set_option maxRecDepth 20000 in
set_option maxHeartbeats 8000000 in
theorem sure_any (aA : Option Addr) (nA cA : Nat) (A : List UInt8) (aP : Option Addr) (nP cP : Nat) (Pb : List UInt8) (aL : Option Addr) (cL : Nat) (ss : List Od) (keep : Int) (torn : Bool) (fa : Option Addr) (fn fc : Nat) (fs : List Int) (w : World)
    (hA : Rd w aA nA cA A) (hP : Rd w aP nP cP Pb) (hL : OpsW w aL ss) (hF : Fs w fa fn fs) (_hnA : nA ≤ 9223372036854775807) (_hnL : ss.length ≤ 9223372036854775807) :
    Calls Try.prog 5 #[.slice aA nA cA, .slice aP nP cP, .slice aL ss.length cL, .int .i64 keep, .bool torn, .slice fa fn fc] w fun e w' => e = .returned (.bool true) ∧ Below w.heap.size w w' := by
  have CN := New_good 1048576 8 (by decide) (by decide) (by decide) (by decide) w
  have HA : Hid (Rd w aA nA cA A) := hA
  have HPP : Hid (Rd w aP nP cP Pb) := hP
  have HLL : Hid (OpsW w aL ss) := hL
  have HFF : Hid (Fs w fa fn fs) := hF
  obtain ⟨nL, hnL⟩ : ∃ nL, ss.length = nL := ⟨_, rfl⟩
  have HNL : Hid (ss.length = nL) := hnL
  rw [hnL] at _hnL ⊢
  clear hA hP hL hF hnL
  go_enter Try.func5, Try.ntmps5
  go_wp2_with fail
  refine CN.mono ?_
  rintro e w1 ⟨h, rfl, hd1, hH, b1⟩
  have F1 : Hid (Fin w h w1) := ⟨b1, hH⟩
  have HD1 : Hid (DkW w1 h 0 0 (dk ⟨1048576, 0, [], 0⟩ 8 none')) := hd1
  have CK := knows_any w1
  clear CN hd1 hH b1
  by_cases hbig : (nA : Int) > 10000
  · go_wp2_with (first | (go_at_call 9; refine (num_any _ _).mono ?_; rintro e w' ⟨rfl, hw⟩; obtain rfl : w1 = w' := hw.symm) | (go_at_call 10; refine CK.mono ?_; rintro e w2 ⟨rfl, b2⟩))
    go_ret
    exact ⟨rfl, F1.out.b.trans (b2.mono F1.out.b.size)⟩
  · have HN : Hid (nA ≤ 10000 ∧ A.length = nA) := ⟨by omega, HA.out.1⟩
    have hnb : ¬ (10000 : Int) < (nA : Int) := by omega
    clear hbig
    go_wp2_with (first | (go_at_call 9; refine (num_any _ _).mono ?_; rintro e w' ⟨rfl, hw⟩; obtain rfl : w1 = w' := hw.symm) | (go_at_call 10; refine CK.mono ?_; rintro e w2 ⟨rfl, b2⟩))
    have F2 := F1.out.later b2
    have hd2 := HD1.out.later b2
    have CB := block_new 0 0 aP nP cP (.slice none 0 0) Pb w2 (HPP.out.later F2.b)
    have F2h : Hid (Fin w h w2) := F2
    have HD2 : Hid (DkW w2 h 0 0 (dk ⟨1048576, 0, [], 0⟩ 8 none')) := hd2
    clear F1 HD1 CK F2 hd2 b2 HPP
    refine CB.mono ?_
    rintro e w3 ⟨gb, rfl, hrb3, b3, hgb3⟩
    obtain ⟨bB, hbB⟩ : ∃ bB, bB = blk Pb := ⟨_, rfl⟩
    rw [← hbB] at hrb3
    have hbl : bB.length = 512 := by rw [hbB]; exact blk_len Pb
    have F3 := F2h.out.later b3
    have hd3 := HD2.out.later b3
    have hgl : gb < w3.heap.size := by
      obtain ⟨b, off, e, hc⟩ := hrb3.2.2.2.2 (by decide)
      cases e
      exact World.block_lt_of_cell? w3 _ (hc 0 (by rw [hbl]; decide))
    have HGB : Hid (Ap w3 h gb) := ⟨hgl, fun hb => by have := HD2.out.lt hb; omega⟩
    have HBL : Hid (w.heap.size ≤ gb ∧ bB.length = 512) := ⟨Nat.le_trans F2h.out.b.size hgb3, hbl⟩
    clear hgl
    have CA := append_any h 0 0 _ w3 hd3 aA nA cA A (HA.out.later F3.b) (by have := HN.out; omega) (fun hpos b off he hb => by
      have hbn := HN.out
      obtain ⟨b', off', he', hc'⟩ := HA.out.2.2.2.2 hpos
      rw [he'] at he
      cases he
      have h9 : b < w.heap.size := World.block_lt_of_cell? w _ (hc' 0 (by omega))
      have := F3.ge _ hb
      omega)
    rw [dk_app _ _ _ _ (by have := HN.out; simp; omega)] at CA
    have F3h : Hid (Fin w h w3) := F3
    have HR3 : Hid (Rd w3 (some ⟨gb, 0, none⟩) 512 512 bB) := hrb3
    clear CB HD2 F2h hd3 F3 hrb3 b3 hgb3 hbB hbl
    go_wp2_with fail
    refine CA.mono ?_
    rintro e w4 ⟨rfl, g4, hd4, hC4, hg4⟩
    have F4 := (F3h.out.step hC4).g (hg4.elim .inl (fun ⟨b, e1, e2⟩ => .inr ⟨b, e1, Nat.le_trans F3h.out.b.size e2⟩))
    have hr4 := HR3.out.chg hC4 (fun _ b off e => by cases e; exact HGB.out.2)
    obtain ⟨h4, hh4⟩ : ∃ h4 : Wh, h4 = { h with g := g4 } := ⟨_, rfl⟩
    have hB4 : h.B = h4.B := by rw [hh4]
    have ap4 := HGB.out.g hC4.size hg4
    rw [← hh4] at hd4 F4 ap4
    rw [hB4]
    have CW := dwrite_any h4 0 0 _ 7 ⟨by omega, by omega⟩ (some ⟨gb, 0, none⟩) 512 512 bB w4 hd4 hr4 (fun _ b off e => by cases e; exact ap4.2) (by decide) (by decide)
    rw [dk_write _ _ HBL.out.2] at CW
    have F4h : Hid (Fin w h4 w4) := F4
    have HR4 : Hid (Rd w4 (some ⟨gb, 0, none⟩) 512 512 bB ∧ Ap w4 h4 gb) := ⟨hr4, ap4⟩
    clear CA F3h HR3 HGB hd4 F4 hC4 hg4 hr4 ap4 hh4 hB4
    go_wp2_with (go_at_call 9; refine (num_any _ _).mono ?_; rintro e w' ⟨rfl, hw⟩; obtain rfl : w4 = w' := hw.symm)
    refine CW.mono ?_
    rintro e w5 ⟨rfl, nf5, hd5, hC5, hn5⟩
    have CS := dsync_any h4 0 nf5 _ w5 hd5 (by omega)
    rw [sync_first] at CS
    have F5h : Hid (Fin w h4 w5) := F4h.out.step hC5
    have HR5 : Hid (Rd w5 (some ⟨gb, 0, none⟩) 512 512 bB ∧ Ap w5 h4 gb) := ⟨HR4.out.1.chg hC5 (fun _ b off e => by cases e; exact HR4.out.2.2), HR4.out.2.size hC5.size⟩
    have HN5 : Hid (nf5 ≤ 1) := by exact (show nf5 ≤ 1 by omega)
    clear CW F4h HR4 hd5 hC5 hn5
    go_wp2_with (go_at_call 9; refine (num_any _ _).mono ?_; rintro e w' ⟨rfl, hw⟩; obtain rfl : w5 = w' := hw.symm)
    refine CS.mono ?_
    rintro e w6 ⟨rfl, mf6, no6, nf6, hd6, hC6, hm6, hn6⟩
    obtain ⟨h6, hh6⟩ : ∃ h6 : Wh, h6 = { h4 with mf := mf6 } := ⟨_, rfl⟩
    have hB6 : h4.B = h6.B := by rw [hh6]
    have F6 := (F5h.out.step hC6).mf (hm6.imp id (fun q => Nat.le_trans F5h.out.b.size q))
    have ap6 := HR5.out.2.mf hC6.size hm6
    rw [← hh6] at hd6 F6 ap6
    rw [hB6]
    have HR6 : Hid (Rd w6 (some ⟨gb, 0, none⟩) 512 512 bB) := HR5.out.1.chg hC6 (fun _ b off e => by cases e; exact HR5.out.2.2)
    have HI6 : Hid (DkW w6 h6 no6 nf6 (dk ⟨1048576, 0, A, A.length⟩ 8 (over (put none' 7 bB) none')) ∧ Fin w h6 w6 ∧ Ap w6 h6 gb ∧ no6 + nf6 ≤ 1) := ⟨hd6, F6, ap6, by have := HN5.out; omega⟩
    clear CS F5h HR5 HN5 hd6 F6 ap6 hC6 hm6 hn6 hh6 hB6
    go_upto_block 0 with (go_at_call 9; refine (num_any _ _).mono ?_; rintro e w' ⟨rfl, hw⟩; obtain rfl : w6 = w' := hw.symm)
    have hB6 : Hid (SI w w6 A bB gb h6.B 0 [] (.slice none 0 0) none h6 no6 nf6 (dk ⟨1048576, 0, A, A.length⟩ 8 (over (put none' 7 bB) none'))) :=
      ⟨rfl, Nat.zero_le _, HI6.out.1, sure_first A bB, HI6.out.2.1, HI6.out.2.2.1, by have := HI6.out.2.2.2; omega, HR6.out, Ob.nil _, fun b e => by cases e⟩
    obtain ⟨hB, hhB⟩ : ∃ hB, hB = h6.B := ⟨_, rfl⟩
    rw [← hhB] at hB6 ⊢
    clear HI6 HR6 hhB
    go_cut [18] from 68 (fun s18 wx => ∃ (M : List UInt8) (mv : Value) (gm : Option Nat) (h : Wh) (no nf : Nat) (d : Dk), s18 = mv ∧ (∃ ma mc, mv = .slice ma M.length mc) ∧ Hid (SI w wx A bB gb hB 50 M mv gm h no nf d))
    case first =>
      go_wp2_with fail
      go_loopw [18, 19] (fun s18 s19 wr => ∃ (i : Nat) (M : List UInt8) (mv : Value) (gm : Option Nat) (h : Wh) (no nf : Nat) (d : Dk), s19 = .int .i64 (i : Int) ∧ s18 = mv ∧ (∃ ma mc, mv = .slice ma M.length mc) ∧
        Hid (i ≤ nL ∧ i ≤ 50 ∧ SI w wr A bB gb hB i M mv gm h no nf d)) (fun _ s19 _ => 50 - (intOf s19).toNat)
      case atStart =>
        exact ⟨0, [], .slice none 0 0, none, h6, no6, nf6, _, rfl, rfl, ⟨none, 0, rfl⟩, Nat.zero_le _, by omega, hB6.out⟩
      case round =>
        obtain ⟨i, M, mv, gm, h, no, nf, d, rfl, rfl, ⟨ma, mc, hmv⟩, hH⟩ := hrel
        subst hmv
        by_cases hlt : i < nL
        · by_cases hlt2 : i < 50
          · skip
            have hii : i < ss.length := by rw [HNL.out]; exact hlt
            obtain ⟨lb, lo, hlb, rfl, hAt⟩ := HLL.out.1 (by omega)
            have hAt := hAt i hii
            obtain ⟨hro, hwk, hwn⟩ := HLL.out.2 i hii
            generalize ss[i] = s at hAt hro hwk hwn
            obtain ⟨kd, on, oa, om, oc, otn, ofo, ofn, ofc, oB⟩ := s
            dsimp only at hro hwk hwn
            have bwr := hH.out.2.2.fin.b
            have c0 : wr.cell? ⟨lb, lo + i * 5, none⟩ = some (.int .i64 kd) := (bwr.cell (p := ⟨lb, lo + i * 5, none⟩) hlb).trans (hAt 0 _ rfl)
            have c1 : wr.cell? ⟨lb, lo + i * 5 + 1, none⟩ = some (.int .i64 on) := (bwr.cell (p := ⟨lb, lo + i * 5 + 1, none⟩) hlb).trans (hAt 1 _ rfl)
            have c2 : wr.cell? ⟨lb, lo + i * 5 + 2, none⟩ = some (.slice oa om oc) := (bwr.cell (p := ⟨lb, lo + i * 5 + 2, none⟩) hlb).trans (hAt 2 _ rfl)
            have c3 : wr.cell? ⟨lb, lo + i * 5 + 3, none⟩ = some (.bool otn) := (bwr.cell (p := ⟨lb, lo + i * 5 + 3, none⟩) hlb).trans (hAt 3 _ rfl)
            have c4 : wr.cell? ⟨lb, lo + i * 5 + 4, none⟩ = some (.slice ofo ofn ofc) := (bwr.cell (p := ⟨lb, lo + i * 5 + 4, none⟩) hlb).trans (hAt 4 _ rfl)
            have hl1 : (i : Int) < (nL : Int) := by omega
            have hl2 : (i : Int) < 50 := by omega
            have HRO : Hid (Rd w oa om oc oB ∧ wf64 kd ∧ wf64 on ∧ i < nL ∧ i < 50) := ⟨hro, hwk, hwn, hlt, hlt2⟩
            clear hAt hro hwk hwn bwr
            go_upto_region 15 with fail
            obtain ⟨W1, hW1⟩ : ∃ W1, W1 = wr.alloc (.cells #[.int .i64 kd, .int .i64 on, .slice oa om oc, .bool otn, .slice ofo ofn ofc] 35) := ⟨_, rfl⟩
            rw [← hW1]
            have bW1 : Below wr.heap.size wr W1 := by rw [hW1]; exact (Below.refl _ _).alloc (Nat.le_refl _) _
            have hN1 : W1.heap[wr.heap.size]? = some (.cells #[.int .i64 kd, .int .i64 on, .slice oa om oc, .bool otn, .slice ofo ofn ofc] 35 (0, 0)) := by rw [hW1]; exact heap_alloc_new wr _
            have S1 := hH.out.2.2.later bW1
            have e0 : W1.cell? ⟨wr.heap.size, 0, none⟩ = some (.int .i64 kd) := bl_cell hN1 0 _ rfl
            have e1 : W1.cell? ⟨wr.heap.size, 1, none⟩ = some (.int .i64 on) := bl_cell hN1 1 _ rfl
            have e2 : W1.cell? ⟨wr.heap.size, 2, none⟩ = some (.slice oa om oc) := bl_cell hN1 2 _ rfl
            have e3 : W1.cell? ⟨wr.heap.size, 3, none⟩ = some (.bool otn) := bl_cell hN1 3 _ rfl
            have e4 : W1.cell? ⟨wr.heap.size, 4, none⟩ = some (.slice ofo ofn ofc) := bl_cell hN1 4 _ rfl
            have apx : Ap W1 h wr.heap.size := ⟨bl_lt hN1, fun hb => by have := hH.out.2.2.dk.lt hb; omega⟩
            have HS1 : Hid (SI w W1 A bB gb hB i M (.slice ma M.length mc) gm h no nf d ∧ Ap W1 h wr.heap.size ∧ Rd W1 oa om oc oB ∧ (∀ b, gm = some b → b ≠ wr.heap.size)) := ⟨S1, apx, HRO.out.1.later S1.fin.b, fun b e => by have := hH.out.2.2.ob.lt e; omega⟩
            obtain ⟨bx, hbx⟩ : ∃ bx, bx = wr.heap.size := ⟨_, rfl⟩
            rw [← hbx] at HS1 e0 e1 e2 e3 e4 ⊢
            have HWR : Hid (i + 1 ≤ nL ∧ i + 1 ≤ 50) := by have := HRO.out; exact ⟨by omega, by omega⟩
            have hwi : IntKind.i64.wrap ((i : Int) + 1) = ((i + 1 : Nat) : Int) := by have := HRO.out.2.2.2.2; rw [IntKind.wrap_i64]; omega
            have hmeas : ∀ x : Int, x = ((i + 1 : Nat) : Int) → 50 - x.toNat < 50 - (i : Int).toNat := fun x hx => by have := HRO.out.2.2.2.2; omega
            have HME : Hid (∀ x : Int, x = ((i + 1 : Nat) : Int) → 50 - x.toNat < 50 - (i : Int).toNat) := hmeas
            clear hW1 bW1 hN1 S1 apx c0 c1 c2 c3 c4 hl1 hl2 hH hii hlb hlt hlt2 hbx hmeas
            by_cases hbig : 1000 < om
            · have hb1 : (1000 : Int) < (om : Int) := by omega
              go_wp2
              go_roundw
              case rel => exact ⟨i + 1, M, _, gm, h, no, nf, d, rfl, rfl, ⟨ma, mc, rfl⟩, HWR.out.1, HWR.out.2, HS1.out.1.next⟩
              case measure => exact HME.out _ (by first | rfl | omega)
            · have hb1 : ¬ (1000 : Int) < (om : Int) := by omega
              have HOM : Hid (om ≤ 1000) := by exact (show om ≤ 1000 by omega)
              clear hbig
              by_cases k0 : kd = 0
              · subst k0
                have q := HS1.out.1
                have CA := append_any h no nf d W1 q.dk oa om oc oB HS1.out.2.2.1 (by have := HOM.out; omega) (fun hpos b off he hb => by
                  have hR0 := HRO.out.1
                  obtain ⟨b', off', he', hc'⟩ := hR0.2.2.2.2 hpos
                  rw [he'] at he
                  cases he
                  have h9 : b < w.heap.size := World.block_lt_of_cell? w _ (hc' 0 (by have := hR0.1; omega))
                  have := q.fin.ge _ hb
                  omega)
                rw [q.hB] at CA
                have hol : oB.length = om := HRO.out.1.1
                rcases q.su.app oB with ⟨hz, su'⟩ | ⟨hz, su'⟩
                · rw [hz] at CA
                  have HSU : Hid (Sure A bB (d.app oB).2.2 (M ++ oB) ∧ oB.length ≤ 1000) := ⟨su', by have := HOM.out; omega⟩
                  clear su' hz q hol
                  go_wp2_with fail
                  refine CA.mono ?_
                  rintro e w8 ⟨rfl, g8, hd8, hC8, hg8⟩
                  rw [← HS1.out.1.hB] at hd8
                  obtain ⟨-, -, -, -, -, o8, -⟩ := HS1.out.1.stepG hC8 hd8 hg8 _ HSU.out.1
                  have x2 : w8.cell? ⟨bx, 2, none⟩ = some (.slice oa om oc) := hC8.cell HS1.out.2.1.2 e2
                  have x0 : w8.cell? ⟨bx, 0, none⟩ = some (.int .i64 0) := hC8.cell HS1.out.2.1.2 e0
                  have r8 : Rd w8 oa om oc oB := HS1.out.2.2.1.chg hC8 (fun hpos b off e hb => by
                    have hR0 := HRO.out.1
                    obtain ⟨b', off', he', hc'⟩ := hR0.2.2.2.2 hpos
                    rw [he'] at e
                    cases e
                    have h9 : b < w.heap.size := World.block_lt_of_cell? w _ (hc' 0 (by have := hR0.1; omega))
                    have := HS1.out.1.fin.ge _ hb
                    omega)
                  obtain ⟨i0, hi, hz0, hz1, hz2⟩ := info_parts (show (Try.prog.info? 5).map (fun i => (i.zero, i.size, i.bytes)) = some (some (.int .u8 0), 1, 1) by kernel_rfl)
                  obtain ⟨v9, w9, g9, hrun, ho9, hC9, hg9⟩ := run_append_ob (P := Try.prog) 32 32 32 i0 _ Try.underlying32 hi hz0 hz1 hz2 rfl _ gm M o8 _ om oB (src_of_rd Try.underlying32 r8) (by have := HS1.out.1.len; have := HRO.out.2.2.2.2; have := HOM.out; omega)
                  have hx9 : some bx ≠ gm := fun e => HS1.out.2.2.2 bx e.symm rfl
                  have y0 : w9.cell? ⟨bx, 0, none⟩ = some (.int .i64 0) := hC9.cell hx9 x0
                  have FIN : Hid (SI w w9 A bB gb hB (i + 1) (M ++ oB) v9 g9 { h with g := g8 } no nf (d.app oB).2.2) := HS1.out.1.more hC8 hd8 hg8 oB HSU.out.2 HSU.out.1 ho9 hC9 hg9
                  obtain ⟨a9, q9, rfl, -, -, -⟩ := ho9.form
                  clear CA hd8 hC8 hg8 o8 r8 hi hz0 hz1 hz2 ho9 hC9 hg9 hx9 HSU
                  go_wp2_with (first | (go_at_call 9; refine (num_any _ _).mono ?_; rintro e w' ⟨rfl, hw⟩; obtain rfl : w8 = w' := hw.symm) | (at_builtin; refine wpList_append_run rfl _ _ _ _ rfl _ _ rfl rfl hrun ?_))
                  go_roundw
                  case rel =>
                    have F := FIN.out
                    rw [List.length_append] at F
                    exact ⟨i + 1, M ++ oB, _, g9, _, no, nf, _, rfl, rfl, ⟨a9, q9, by rw [List.length_append]⟩, HWR.out.1, HWR.out.2, F⟩
                  case measure => exact HME.out _ (by first | rfl | omega)
                · obtain ⟨er, her⟩ : ∃ er, er = (d.app oB).2.1 := ⟨_, rfl⟩
                  obtain ⟨av, hav⟩ : ∃ av, av = (d.app oB).1 := ⟨_, rfl⟩
                  rw [← her, ← hav] at CA
                  rw [← her] at hz
                  have HSU : Hid (Sure A bB (d.app oB).2.2 M) := su'
                  clear su' q hol her hav
                  go_wp2_with fail
                  refine CA.mono ?_
                  rintro e w8 ⟨rfl, g8, hd8, hC8, hg8⟩
                  rw [← HS1.out.1.hB] at hd8
                  have x0 : w8.cell? ⟨bx, 0, none⟩ = some (.int .i64 0) := hC8.cell HS1.out.2.1.2 e0
                  have FIN : Hid (SI w w8 A bB gb hB i M (.slice ma M.length mc) gm { h with g := g8 } no nf (d.app oB).2.2) := HS1.out.1.appended hC8 hd8 hg8 HSU.out
                  clear CA hd8 hC8 hg8 HSU
                  go_wp2_with (go_at_call 9; refine (num_any _ _).mono ?_; rintro e w' ⟨rfl, hw⟩; obtain rfl : w8 = w' := hw.symm)
                  go_roundw
                  case rel => exact ⟨i + 1, M, _, gm, _, no, nf, _, rfl, rfl, ⟨ma, mc, rfl⟩, HWR.out.1, HWR.out.2, FIN.out.next⟩
                  case measure => exact HME.out _ (by first | rfl | omega)
              · by_cases k4 : kd = 4
                · subst k4
                  by_cases n7 : on = 7
                  · subst n7
                    go_wp2
                    go_roundw
                    case rel => exact ⟨i + 1, M, _, gm, h, no, nf, d, rfl, rfl, ⟨ma, mc, rfl⟩, HWR.out.1, HWR.out.2, HS1.out.1.next⟩
                    case measure => exact HME.out _ (by first | rfl | omega)
                  · have q := HS1.out.1
                    have hne7 : ¬ on = 7 := n7
                    obtain ⟨ga, gn, gc, gB, hga⟩ : ∃ (ga : Option Addr) (gn gc : Nat) (gB : List UInt8), (∀ W, Below W1.heap.size W1 W → Calls Try.prog 24 #[.agg #[.int .i64 4, .int .i64 on, .slice oa om oc, .bool otn, .slice ofo ofn ofc]] W fun e w' => ∃ a n c gB, e = .returned (.slice a n c) ∧ Rd w' a n c gB ∧ Below W.heap.size W w' ∧ (0 < n → ∀ b off, a = some ⟨b, off, none⟩ → ¬ h.has b) ∧ n ≤ 1000) := by
                      refine ⟨none, 0, 0, [], fun W hW => ?_⟩
                      have hRW := HS1.out.2.2.1.later hW
                      cases otn with
                      | true =>
                        refine (block_torn 4 on oa om oc (.slice ofo ofn ofc) W).mono ?_
                        rintro e w' ⟨rfl, b'⟩
                        refine ⟨_, _, _, oB, rfl, hRW.later b', b', fun hpos b off e hb => ?_, HOM.out⟩
                        obtain ⟨b2, off2, he', hc'⟩ := HRO.out.1.2.2.2.2 hpos
                        rw [he'] at e
                        cases e
                        have h9 : b < w.heap.size := World.block_lt_of_cell? w _ (hc' 0 (by have := HRO.out.1.1; omega))
                        have := q.fin.ge _ hb
                        omega
                      | false =>
                        refine (block_new 4 on oa om oc (.slice ofo ofn ofc) oB W hRW).mono ?_
                        rintro e w' ⟨g, rfl, hr', b', hg'⟩
                        refine ⟨_, _, _, _, rfl, hr', b', fun _ b off e hb => ?_, by omega⟩
                        cases e
                        have h1 := q.dk.lt hb
                        have h2 := hW.size
                        omega
                    have HBK : Hid (∀ W, Below W1.heap.size W1 W → Calls Try.prog 24 #[.agg #[.int .i64 4, .int .i64 on, .slice oa om oc, .bool otn, .slice ofo ofn ofc]] W fun e w' => ∃ a n c gB, e = .returned (.slice a n c) ∧ Rd w' a n c gB ∧ Below W.heap.size W w' ∧ (0 < n → ∀ b off, a = some ⟨b, off, none⟩ → ¬ h.has b) ∧ n ≤ 1000) := hga
                    clear hga q
                    go_upto_region 21 with fail
                    have HE : Hid (∀ W : World, (∀ (o : Nat) (v : Value), W1.cell? ⟨bx, o, none⟩ = some v → W.cell? ⟨bx, o, none⟩ = some v) → W.cell? ⟨bx, 0, none⟩ = some (.int .i64 4) ∧ W.cell? ⟨bx, 1, none⟩ = some (.int .i64 on) ∧ W.cell? ⟨bx, 2, none⟩ = some (.slice oa om oc) ∧ W.cell? ⟨bx, 3, none⟩ = some (.bool otn) ∧ W.cell? ⟨bx, 4, none⟩ = some (.slice ofo ofn ofc)) := fun W hW => ⟨hW 0 _ e0, hW 1 _ e1, hW 2 _ e2, hW 3 _ e3, hW 4 _ e4⟩
                    have HBX : Hid (bx < W1.heap.size ∧ ¬ h.has bx) := HS1.out.2.1
                    clear e0 e1 e2 e3 e4
                    go_region_held2 (fun W => W.cell? ⟨bx, 0, none⟩ = some (.int .i64 4) ∧ W.cell? ⟨bx, 1, none⟩ = some (.int .i64 on) ∧ W.cell? ⟨bx, 2, none⟩ = some (.slice oa om oc) ∧ W.cell? ⟨bx, 3, none⟩ = some (.bool otn) ∧ W.cell? ⟨bx, 4, none⟩ = some (.slice ofo ofn ofc))
                      (first
                        | exact HE.out _ (fun o v hv => hv)
                        | exact HE.out _ (fun o v hv => (b8.cell (p := ⟨bx, o, none⟩) HBX.out.1).trans hv)
                        | exact HE.out _ (fun o v hv => hC9.cell HBX.out.2 ((b8.cell (p := ⟨bx, o, none⟩) HBX.out.1).trans hv)))
                      (first
                        | (go_at_call 24; refine (HBK.out _ ((Below.refl _ W1).drew)).mono ?_; rintro e w8 ⟨a8, n8, c8, gB8, rfl, r8, b8, ha8, hn8⟩)
                        | (go_at_call 19; have CW := dwrite_any h no nf d on HRO.out.2.2.1 a8 n8 c8 _ w8 (HS1.out.1.dk.later ⟨b8.os, b8.tape, b8.output, b8.size, b8.block⟩) r8 ha8 (by have := HS1.out.1.nn; have := HRO.out.2.2.2.2; omega) (by omega); rw [HS1.out.1.hB] at CW; refine CW.mono ?_; rintro e w9 ⟨hr9, nf9, hd9, hC9, hn9⟩; obtain ⟨z9, rfl⟩ : ∃ z : Int, e = .returned (.int .i64 z) := ⟨_, hr9⟩; clear hr9))
                    all_goals
                      have x0 : w9.cell? ⟨bx, 0, none⟩ = some (.int .i64 4) := (show _ ∧ _ from by assumption).1
                      have FIN : Hid (SI w w9 A bB gb hB (i + 1) M (.slice ma M.length mc) gm h no nf9 (d.write on gB8).2) :=
                        (HS1.out.1.later ⟨b8.os, b8.tape, b8.output, b8.size, b8.block⟩).next.step hC9 hd9 (HS1.out.1.su.write on hne7 _) hn9 (by have := HS1.out.1.nn; omega)
                      go_wp2
                      go_roundw
                      case rel => exact ⟨i + 1, M, _, gm, _, no, nf9, _, rfl, rfl, ⟨ma, mc, rfl⟩, HWR.out.1, HWR.out.2, FIN.out⟩
                      case measure => exact HME.out _ (by first | rfl | omega)
                · by_cases k5 : kd = 5
                  · subst k5
                    have q := HS1.out.1
                    have CF := fuse_any h no nf d on HRO.out.2.2.1.2 W1 q.dk
                    rw [q.hB] at CF
                    clear q
                    go_wp2_with (go_at_call 23; refine CF.mono ?_; rintro e w8 ⟨⟨v8, rfl⟩, hd8, hC8⟩)
                    go_roundw
                    case rel => exact ⟨i + 1, M, _, gm, h, no, nf, _, rfl, rfl, ⟨ma, mc, rfl⟩, HWR.out.1, HWR.out.2, (HS1.out.1.step hC8 hd8 (HS1.out.1.su.fuse on) (by omega) HS1.out.1.nn).next⟩
                    case measure => exact HME.out _ (by first | rfl | omega)
                  · go_wp2
                    go_roundw
                    case rel => exact ⟨i + 1, M, _, gm, h, no, nf, d, rfl, rfl, ⟨ma, mc, rfl⟩, HWR.out.1, HWR.out.2, HS1.out.1.next⟩
                    case measure => exact HME.out _ (by first | rfl | omega)
          · have hl1 : (i : Int) < (nL : Int) := by omega
            obtain rfl : i = 50 := by have := hH.out.2.1; omega
            have hl2 : ¬ ((50 : Nat) : Int) < 50 := by omega
            go_wp2
            go_meet
            exact ⟨M, _, gm, h, no, nf, d, rfl, ⟨ma, mc, rfl⟩, hH.out.2.2⟩
        · have hl1 : ¬ (i : Int) < (nL : Int) := by omega
          go_wp2
          go_meet
          have q := hH.out.2.2
          have q2 := hH.out.2.1
          exact ⟨M, _, gm, h, no, nf, d, rfl, ⟨ma, mc, rfl⟩, ⟨q.hB, by have := q.len; omega, q.dk, q.su, q.fin, q.ap, by have := q.nn; omega, q.rb, q.ob, q.gm⟩⟩
    case rest =>
      obtain ⟨M, mv, gm, h, no, nf, d, rfl, ⟨ma, mc, rfl⟩, hS⟩ := hcut
      have q := hS.out
      have HML : Hid (M.length ≤ 50000 ∧ A.length = nA ∧ nA ≤ 10000) := ⟨by have := q.len; omega, HN.out.2, HN.out.1⟩
      have CC := dcrash_any h no nf d keep torn fa fn fc fs wc q.dk (by have := q.nn; omega) (HFF.out.later q.fin.b) (fun hp b off e hb => by
        obtain ⟨b2, off2, e2, hc⟩ := HFF.out.2 hp
        rw [e2] at e
        cases e
        have h9 : b < w.heap.size := World.block_lt_of_cell? w _ (hc 0 (by have := HFF.out.1; omega))
        have := q.fin.ge _ hb
        omega)
      rw [q.hB] at CC
      clear q HN hB6
      go_wp2_with fail
      refine CC.mono ?_
      rintro e w2c ⟨⟨v2c, rfl⟩, old', mfc, hcr, hdc, hCc, hmc⟩
      have q := hS.out
      have ho7 := q.su.crashed hcr
      have hdc' : DkW w2c { h with mf := mfc } (no + nf) 0 (d.after keep torn old') := by
        have hdc2 := hdc
        rw [← q.hB] at hdc2
        exact hdc2
      have R0 := q.su.read0 keep torn old' (by have := HML.out; omega)
      have L7 := q.su.load7 keep torn old' ho7
      obtain ⟨T, hT⟩ : ∃ T, T = tail M keep torn := ⟨_, rfl⟩
      rw [← hT] at R0
      have HT : Hid (T.length = min (max keep 0).toNat M.length ∧ ∀ j, j < T.length → j < M.length ∧ (¬ (torn = true ∧ j + 1 = T.length) → T[j]? = M[j]?)) := ⟨by rw [hT]; exact tail_len M keep torn, fun j hj => by rw [hT] at hj ⊢; exact tail_at M keep torn j hj⟩
      obtain ⟨hx, hhx⟩ : ∃ hx : Wh, hx = { h with mf := mfc } := ⟨_, rfl⟩
      have hBx : hB = hx.B := by rw [hhx, ← q.hB]
      have Fx := (q.fin.step hCc).mf (.inr (Nat.le_trans q.fin.b.size hmc))
      have apb := q.ap.mf hCc.size (.inr hmc)
      have apm := fun b e => (q.gm b e).1.mf hCc.size (.inr hmc)
      have rb2 := q.rb.chg hCc (fun _ b off e => by cases e; exact q.ap.2)
      have om2 := q.ob.kept (fun b e => hCc.block b (q.ob.lt e) (q.gm b e).1.2)
      rw [← hhx] at hdc' Fx apb apm
      rw [hBx]
      obtain ⟨ma', mc', emv, rm2, -, -⟩ := om2.form
      simp only [Value.slice.injEq, true_and] at emv
      obtain ⟨rfl, rfl⟩ := emv
      have CR := dread_any hx (no + nf) 0 _ 0 w2c hdc'
      rw [R0] at CR
      obtain ⟨nX, hnX⟩ : ∃ nX, nX = (A ++ T).length := ⟨_, rfl⟩
      dsimp only at CR
      rw [← hnX] at CR
      have HNX : Hid (nX = A.length + T.length) := by rw [hnX]; exact List.length_append
      clear hnX
      have HD2 : Hid (DkW w2c hx (no + nf) 0 (d.after keep torn old')) := hdc'
      have HF2 : Hid (Fin w hx w2c) := Fx
      have HRS : Hid (Rd w2c (some ⟨gb, 0, none⟩) 512 512 bB ∧ Rd w2c ma M.length mc M) := ⟨rb2, rm2⟩
      clear CC hcr hdc hdc' hCc hmc q ho7 R0 hT hhx hBx Fx apb apm rb2 om2 rm2 hS
      go_wp2_with fail
      refine CR.mono ?_
      rintro e w3c ⟨ax, cx, rfl, rx, b3c, hnx⟩
      have CL := dload_any hx (no + nf) 0 _ 7 ⟨by omega, by omega⟩ w3c (HD2.out.later b3c)
      rw [L7] at CL
      dsimp only at CL
      rw [HBL.out.2] at CL
      have HF3 : Hid (Below w.heap.size w w3c) := HF2.out.b.trans (b3c.mono HF2.out.b.size)
      have HR3 : Hid (Rd w3c (some ⟨gb, 0, none⟩) 512 512 bB ∧ Rd w3c ma M.length mc M ∧ Rd w3c ax nX cx (A ++ T)) := ⟨HRS.out.1.later b3c, HRS.out.2.later b3c, rx⟩
      clear CR rx b3c hnx L7 HD2 HF2 HRS
      go_wp2_with fail
      refine CL.mono ?_
      rintro e w4c ⟨ay, cy, rfl, ry, b4c, -⟩
      have HF4 : Hid (Below w.heap.size w w4c) := HF3.out.trans (b4c.mono HF3.out.size)
      have rA4 := HA.out.later HF4.out
      have rx4 := HR3.out.2.2.later b4c
      have rb4 := HR3.out.1.later b4c
      have hnAX : nA ≤ nX := by have := HNX.out; have := HML.out; omega
      obtain ⟨hsl, hsr⟩ := slice_hi rx4 nA hnAX
      have etake : (A ++ T).take nA = A := by rw [← HML.out.2.1]; exact List.take_left
      rw [etake] at hsr
      obtain ⟨BX, hBX⟩ : ∃ BX : ByteArray, BX = ⟨bB.toArray⟩ := ⟨_, rfl⟩
      obtain ⟨AX, hAX⟩ : ∃ AX : ByteArray, AX = ⟨A.toArray⟩ := ⟨_, rfl⟩
      have cvs : ∀ {W : World} {ao : Option Addr} {n cap : Nat} {bs : List UInt8}, Rd W ao n cap bs → (convert 32 9 (.slice ao n cap)).run Try.prog W = .ok (.string ⟨bs.toArray⟩) W := fun hW =>
        run_string_of (P := Try.prog) 32 9 5 Try.underlying32 Try.underlying5 Try.underlying9 hW
      have HK : Hid (∀ W, Below w4c.heap.size w4c W → Below w4c.heap.size w4c W ∧ (convert 32 9 (.slice ay 512 cy)).run Try.prog W = .ok (.string BX) W ∧ (convert 32 9 (.slice (some ⟨gb, 0, none⟩) 512 512)).run Try.prog W = .ok (.string BX) W ∧ (convert 32 9 (.slice ax nA cx)).run Try.prog W = .ok (.string AX) W ∧ (convert 32 9 (.slice aA nA cA)).run Try.prog W = .ok (.string AX) W) := fun W hW => by
        rw [hBX, hAX]
        exact ⟨hW, cvs (ry.later hW), cvs (rb4.later hW), cvs (hsr W (rx4.later hW)), cvs (rA4.later hW)⟩
      have HR4 : Hid (Rd w4c ma M.length mc M ∧ Rd w4c ax nX cx (A ++ T)) := ⟨HR3.out.2.1.later b4c, rx4⟩
      obtain ⟨nM, hnM⟩ : ∃ nM, M.length = nM := ⟨_, rfl⟩
      have HNM : Hid (M.length = nM ∧ nM ≤ 50000 ∧ nA ≤ 10000 ∧ nA ≤ nX ∧ nX ≤ nA + nM) := by
        have h1 := HML.out
        have h2 := HNX.out
        have h3 := HT.out.1
        exact ⟨hnM, by omega, h1.2.2, hnAX, by omega⟩
      have hq1 : ¬ (nX : Int) < (nA : Int) := by omega
      have hw27 : wrap64 ((nA : Int) + (nM : Int)) = (nA : Int) + (nM : Int) := by have := HNM.out; unfold wrap64; omega
      have hw27' : IntKind.i64.wrap ((nA : Int) + (nM : Int)) = (nA : Int) + (nM : Int) := by rw [← wrap64_eq]; exact hw27
      have hq2 : ¬ (nA : Int) + (nM : Int) < (nX : Int) := by have := HNM.out; omega
      have hd1 : decide (nX < nA) = false := decide_eq_false (by have := HNM.out; omega)
      have hd2 : decide ((nX : Int) < (nA : Int)) = false := decide_eq_false (by have := HNM.out; omega)
      have hd3 : decide ((nA : Int) + (nM : Int) < (nX : Int)) = false := decide_eq_false (by have := HNM.out; omega)
      have hd4 : decide (nA + nM < nX) = false := decide_eq_false (by have := HNM.out; omega)
      have hd5 : nA ≤ nX := by have := HNM.out; omega
      have hd6 : nX ≤ nA + nM := by have := HNM.out; omega
      clear CL ry b4c HF3 HR3 rA4 rx4 rb4 hsr etake hBX hAX cvs hnAX
      go_upto_region 27 with fail
      try rw [hnM]
      clear hnM
      go_region_held2 (fun W => Below w4c.heap.size w4c W ∧ (convert 32 9 (.slice ay 512 cy)).run Try.prog W = .ok (.string BX) W ∧ (convert 32 9 (.slice (some ⟨gb, 0, none⟩) 512 512)).run Try.prog W = .ok (.string BX) W ∧ (convert 32 9 (.slice ax nA cx)).run Try.prog W = .ok (.string AX) W ∧ (convert 32 9 (.slice aA nA cA)).run Try.prog W = .ok (.string AX) W)
        (first | exact HK.out _ ((Below.refl _ _).drew) | assumption)
        ((go_at_call 9; refine (num_any _ _).mono ?_; rintro e w' ⟨rfl, rfl⟩))
      clear hsl HK hw27 hw27' hd1 hd2 hd3 hd4 hq1 hq2
      obtain ⟨xr, hrl, hrr⟩ := slice_lo HR4.out.2 nA hd5
      have edrop : (A ++ T).drop nA = T := by rw [← HML.out.2.1]; exact List.drop_left
      rw [edrop] at hrr
      obtain ⟨nT, hnT⟩ : ∃ nT, nT = nX - nA := ⟨_, rfl⟩
      obtain ⟨cT, hcT⟩ : ∃ cT, cT = cx - nA := ⟨_, rfl⟩
      rw [← hnT, ← hcT] at hrl hrr
      have HTL : Hid (T.length = nT ∧ nT ≤ nM ∧ nT = min (max keep 0).toNat nM ∧ nM ≤ 50000) := by
        have h1 := HNX.out
        have h2 := HML.out
        have h3 := HT.out.1
        have h4 := HNM.out
        exact ⟨by omega, by omega, by omega, h4.2.1⟩
      have HR5 : Hid (∀ W, Below w4c.heap.size w4c W → Rd W ma nM mc M ∧ Rd W xr nT cT T) := fun W hW => by
        have h1 := HR4.out.1.later hW
        rw [HNM.out.1] at h1
        exact ⟨h1, hrr W (HR4.out.2.later hW)⟩
      clear hrr edrop hnT hcT hd5 hd6
      go_wp2
      go_loopw [28] (fun s28 wr => ∃ k : Nat, s28 = .int .i64 (k : Int) ∧ Hid (k ≤ nT ∧ Below w4c.heap.size w4c wr)) (fun i _ => nT - (intOf i).toNat)
      case atStart => exact ⟨0, rfl, Nat.zero_le _, (Below.refl _ _).drew⟩
      case round =>
        obtain ⟨k, rfl, hH⟩ := hrel
        by_cases hlt : k < nT
        · have hlt' : (k : Int) < (nT : Int) := by omega
          have hTL := HTL.out
          obtain ⟨hkM, hTk⟩ := HT.out.2 k (by omega)
          obtain ⟨rm, rt⟩ := HR5.out wr hH.out.2
          obtain ⟨mb, mo, rfl, hmc⟩ := rm.2.2.2.2 (by omega)
          obtain ⟨tb, to2, rfl, htc⟩ := rt.2.2.2.2 (by omega)
          have cm := hmc k hkM
          have ct := htc k (by omega)
          obtain ⟨x, hx1⟩ : ∃ x, x = M[k] := ⟨_, rfl⟩
          obtain ⟨y, hy1⟩ : ∃ y, y = T[k]'(by omega) := ⟨_, rfl⟩
          rw [← hx1] at cm
          rw [← hy1] at ct
          have hxy : ¬ (torn = true ∧ k + 1 = nT) → y = x := fun hn => by
            have h := hTk (by rw [hTL.1]; exact hn)
            rw [List.getElem?_eq_getElem hkM, List.getElem?_eq_getElem (by omega : k < T.length), ← hx1, ← hy1] at h
            exact Option.some.inj h
          have hkM' : k < nM := by omega
          have hwk : IntKind.i64.wrap ((k : Int) + 1) = ((k + 1 : Nat) : Int) := by rw [IntKind.wrap_i64]; omega
          have hwT : wrap64 ((nT : Int) - 1) = (nT : Int) - 1 := by unfold wrap64; omega
          have hwT' : IntKind.i64.wrap ((nT : Int) - 1) = (nT : Int) - 1 := by rw [← wrap64_eq]; exact hwT
          have HK1 : Hid (k + 1 ≤ nT) := hlt
          clear hTk hx1 hy1 hmc htc rm rt hTL hkM HR5 hrl
          by_cases hyx : y = x
          · subst hyx
            clear hxy
            go_wp2
            go_region
            go_wp2
            go_roundw
            case rel => exact ⟨k + 1, rfl, HK1.out, by first | exact hH.out.2.drew | exact hH.out.2⟩
            case measure =>
              show nT - ((k : Int) + 1).toNat < nT - ((k : Int)).toNat
              have := HK1.out
              omega
          · obtain ⟨rfl, hkE⟩ : torn = true ∧ k + 1 = nT := Classical.byContradiction (fun hn => hyx (hxy hn))
            have hne : ¬ (y.toNat : Int) = (x.toNat : Int) := fun e => hyx (UInt8.toNat_inj.1 (by omega))
            have hne2 : ((y.toNat : Int) != (x.toNat : Int)) = true := by simpa using hne
            have hke : (k : Int) = (nT : Int) - 1 := by omega
            have hke2 : ((k : Int) == (nT : Int) - 1) = true := by simpa using hke
            have HKE : Hid ((k : Int) = (nT : Int) - 1) := hke
            clear hxy hyx hkE hke
            go_wp2
            go_region
            go_wp2
            go_roundw
            case rel =>
              repeat apply Exists.intro
              apply And.intro
              rotate_left
              · rfl
              · exact ⟨k + 1, rfl, HK1.out, by first | exact hH.out.2.drew | exact hH.out.2⟩
            case measure =>
              show nT - ((k : Int) + 1).toNat < nT - ((k : Int)).toNat
              have := HK1.out
              omega
        · have hlt' : ¬ (k : Int) < (nT : Int) := by omega
          have HKN : Hid (k ≤ nT ∧ ¬ k < nT) := ⟨hH.out.1, hlt⟩
          clear hlt hrl
          go_wp2
          go_ret
          have e : ((nT : Int) == min (max keep 0) (nM : Int)) = true := by
            have h := HTL.out.2.2.1
            have h2 : (nT : Int) = min (max keep 0) (nM : Int) := by omega
            rw [← h2]
            simp
          exact ⟨congrArg (fun b => Ending.returned (Value.bool b)) e, HF4.out.trans (hH.out.2.mono HF4.out.size)⟩
end Go.Proofs.Ytcnckbknhjccoaa
