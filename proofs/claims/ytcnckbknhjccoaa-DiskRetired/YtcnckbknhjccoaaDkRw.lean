/-
  The walk of DiskRetired.
-/
import Derived.Test.YtcnckbknhjccoaaDkRt
import Derived.Deep.RegionHeld2
namespace Go.Proofs.Ytcnckbknhjccoaa
open Go.RowKit Go.Maps

set_option maxRecDepth 20000 in
set_option maxHeartbeats 4000000 in
theorem retired_any (ao : Option Addr) (n cap : Nat) (A : List UInt8) (from_ to_ keep : Int) (w : World) (hr : Rd w ao n cap A) (_hn : n ≤ 9223372036854775807) :
    Calls Try.prog 6 #[.slice ao n cap, .int .i64 from_, .int .i64 to_, .int .i64 keep] w fun e w' => e = .returned (.bool true) ∧ Below w.heap.size w w' := by
  have CN := New_good 1048576 0 (by decide) (by decide) (by decide) (by decide) w
  have HR : Hid (Rd w ao n cap A) := hr
  clear hr
  go_enter Try.func6, Try.ntmps6
  go_wp2_with fail
  refine CN.mono ?_
  rintro e w1 ⟨h, rfl, hd1, hH, b1⟩
  have F1 : Hid (Fin w h w1) := ⟨b1, hH⟩
  have HD1 : Hid (DkW w1 h 0 0 (dk ⟨1048576, 0, [], 0⟩ 0 none')) := hd1
  have CK := knows_any w1
  clear CN hd1 hH b1
  by_cases hbig : (n : Int) > 10000
  · go_wp2_with (first | (go_at_call 9; refine (num_any _ _).mono ?_; rintro e w' ⟨rfl, hw⟩; obtain rfl : w1 = w' := hw.symm) | (go_at_call 10; refine CK.mono ?_; rintro e w2 ⟨rfl, b2⟩))
    go_ret
    exact ⟨rfl, F1.out.b.trans (b2.mono F1.out.b.size)⟩
  · have hn2 : n ≤ 10000 := by omega
    have HN : Hid (n ≤ 10000) := hn2
    have hnb : ¬ (10000 : Int) < (n : Int) := by omega
    clear hbig hn2
    go_wp2_with (first | (go_at_call 9; refine (num_any _ _).mono ?_; rintro e w' ⟨rfl, hw⟩; obtain rfl : w1 = w' := hw.symm) | (go_at_call 10; refine CK.mono ?_; rintro e w2 ⟨rfl, b2⟩))
    have F2 := F1.out.later b2
    have hd2 := HD1.out.later b2
    have hr2 := HR.out.later F2.b
    have hal : A.length = n := HR.out.1
    have CA := append_any h 0 0 _ w2 hd2 ao n cap A hr2 (by have := HN.out; omega) (fun hpos b off he hb => by
      have hbn := HN.out
      obtain ⟨b', off', he', hc'⟩ := HR.out.2.2.2.2 hpos
      rw [he'] at he
      cases he
      have h9 : b < w.heap.size := World.block_lt_of_cell? w _ (hc' 0 (by omega))
      have := F2.ge _ hb
      omega)
    rw [dk_app _ _ _ _ (by have := HN.out; simp; omega)] at CA
    have F2h : Hid (Fin w h w2) := F2
    clear F1 HD1 CK F2 hd2 hr2 b2
    go_wp2_with fail
    refine CA.mono ?_
    rintro e w3 ⟨rfl, g3, hd3, hC3, hg3⟩
    have F3 := (F2h.out.step hC3).g (hg3.elim .inl (fun ⟨b, e1, e2⟩ => .inr ⟨b, e1, Nat.le_trans F2h.out.b.size e2⟩))
    obtain ⟨h3, hh3⟩ : ∃ h3 : Wh, h3 = { h with g := g3 } := ⟨_, rfl⟩
    have hB3 : h.B = h3.B := by rw [hh3]
    rw [← hh3] at hd3 F3
    rw [hB3]
    have F3h : Hid (Fin w h3 w3) := F3
    have HD3 : Hid (DkW w3 h3 0 0 (dk ⟨1048576, 0, [] ++ A, 0⟩ 0 none')) := hd3
    clear CA F2h hC3 hg3 F3 hh3 hB3 hd3
    have hn1 : wrap64 ((n : Int) + 1) = (n : Int) + 1 := by have := HN.out; unfold wrap64; omega
    have hn1' : IntKind.i64.wrap ((n : Int) + 1) = (n : Int) + 1 := by have := HN.out; rw [IntKind.wrap_i64]; omega
    have hnz : ¬ (n : Int) + 1 = 0 := by omega
    have hnz2 : ((n : Int) + 1 == 0) = false := by simp; omega
    go_upto_region 7 with fail
    go_cut [1] from 43 (fun s1 wx => (∃ f : Nat, s1 = .int .i64 (f : Int) ∧ f ≤ n) ∧ wx = w3)
    case first =>
      go_wp2
      go_meet
      obtain ⟨f, hf1, hf2⟩ := turn_ok from_ n HN.out
      obtain ⟨q1, q2⟩ := tmod_bd from_ ((n : Int) + 1) (by omega)
      have hN := HN.out
      have e1 : wrap64 (wrap64 (from_.tmod ((n : Int) + 1) + n) + 1) = from_.tmod ((n : Int) + 1) + n + 1 := by
        generalize from_.tmod ((n : Int) + 1) = y at *
        unfold wrap64; omega
      exact ⟨⟨f, by rw [e1, hf1], hf2⟩, rfl⟩
    case rest =>
      obtain ⟨⟨f, rfl, hf⟩, rfl⟩ := hcut
      have HF : Hid (f ≤ n) := hf
      have hm1 : wrap64 ((n : Int) - f) = (n : Int) - f := by have := HN.out; unfold wrap64; omega
      have hm1' : IntKind.i64.wrap ((n : Int) - f) = (n : Int) - f := by have := HN.out; rw [IntKind.wrap_i64]; omega
      have hm2 : wrap64 ((n : Int) - f + 1) = (n : Int) - f + 1 := by have := HN.out; unfold wrap64; omega
      have hm2' : IntKind.i64.wrap ((n : Int) - f + 1) = (n : Int) - f + 1 := by have := HN.out; rw [IntKind.wrap_i64]; omega
      have hmz : ¬ (n : Int) - f + 1 = 0 := by omega
      have hmz2 : ((n : Int) - f + 1 == 0) = false := by simp; omega
      clear hn1 hn1' hnz hnz2 hf
      go_upto_region 8 with fail
      go_cut [2] from 56 (fun s2 wx => (∃ t : Nat, s2 = .int .i64 (t : Int) ∧ f ≤ t ∧ t ≤ n) ∧ wx = wc)
      case first =>
        go_wp2
        go_meet
        have hN := HN.out
        have hF := HF.out
        obtain ⟨t, ht1, ht2⟩ := turn_ok to_ (n - f) (by omega)
        rw [show ((n - f : Nat) : Int) = (n : Int) - f by omega] at ht1
        obtain ⟨q1, q2⟩ := tmod_bd to_ ((n : Int) - f + 1) (by omega)
        have e1 : wrap64 (wrap64 (wrap64 (to_.tmod ((n : Int) - f + 1) + n) - f) + 1) = to_.tmod ((n : Int) - f + 1) + ((n : Int) - f) + 1 := by
          generalize to_.tmod ((n : Int) - f + 1) = y at *
          unfold wrap64; omega
        refine ⟨⟨f + t, ?_, by omega, by omega⟩, rfl⟩
        rw [e1, ht1]
        have e2 : wrap64 ((f : Int) + t) = ((f + t : Nat) : Int) := by unfold wrap64; omega
        rw [e2]
      case rest =>
        obtain ⟨⟨t, rfl, hft, htn⟩, rfl⟩ := hcut
        have HT : Hid (f ≤ t ∧ t ≤ n ∧ n ≤ 10000 ∧ A.length = n) := ⟨hft, htn, HN.out, hal⟩
        clear hm1 hm1' hm2 hm2' hmz hmz2 hft htn hal HN HF
        have CS := dsync_any h3 0 0 _ wc HD3.out (by decide)
        rw [dk_sync] at CS
        have F3 := F3h
        go_wp2_with (go_at_call 9; refine (num_any _ _).mono ?_; rintro e w' ⟨rfl, hw⟩; obtain rfl : wc = w' := hw.symm)
        refine CS.mono ?_
        rintro e w4 ⟨rfl, mf4, no4, nf4, hd4, hC4, hm4, hn4⟩
        obtain ⟨h4, hh4⟩ : ∃ h4 : Wh, h4 = { h3 with mf := mf4 } := ⟨_, rfl⟩
        have hB4 : h3.B = h4.B := by rw [hh4]
        have F4 := (F3h.out.step hC4).mf (hm4.imp id (fun q => Nat.le_trans F3h.out.b.size q))
        rw [← hh4] at hd4 F4
        rw [hB4]
        dsimp only [List.nil_append] at hd4
        have e4 : ([] ++ A).length = A.length := rfl
        have HD4 : Hid (DkW w4 h4 no4 nf4 (dk ⟨1048576, 0, A, A.length⟩ 0 (over none' none'))) := hd4
        have F4h : Hid (Fin w h4 w4) := F4
        have HN4 : Hid (no4 + nf4 ≤ 0) := hn4
        clear CS F3 F3h HD3 hd4 hC4 hm4 hn4 hh4 hB4 F4 e4
        have hasf : Lo.has ⟨1048576, 0, A, A.length⟩ (f : Int) = true := by
          have := HT.out
          rw [lo_has _ (show (0 : Int) ≤ 0 by omega) (show (0 : Int) ≤ 4611686018427387904 by omega) (show A.length ≤ 16777216 by omega)]
          simp only [Bool.and_eq_true, decide_eq_true_eq]
          omega
        have CR := dretire_any h4 no4 nf4 _ (f : Int) ⟨by omega, by have := HT.out; omega⟩ w4 HD4.out
        rw [dk_retire _ _ _ _ hasf] at CR
        go_wp2_with (go_at_call 9; refine (num_any _ _).mono ?_; rintro e w' ⟨rfl, hw⟩; obtain rfl : w4 = w' := hw.symm)
        refine CR.mono ?_
        rintro e w5 ⟨rfl, hd5, hC5⟩
        rw [show ((f : Int) - 0).toNat = f by omega] at hd5
        have F5h : Hid (Fin w h4 w5) := F4h.out.step hC5
        have HD5 : Hid (DkW w5 h4 no4 nf4 (dk ⟨1048576, f, A.drop f, A.length - f⟩ 0 (over none' none'))) := hd5
        clear CR F4h HD4 hd5 hC5 hasf
        have hast : Lo.has ⟨1048576, f, A.drop f, A.length - f⟩ (t : Int) = true := by
          have := HT.out
          rw [lo_has _ (show (0 : Int) ≤ f by omega) (show (f : Int) ≤ 4611686018427387904 by omega) (show (A.drop f).length ≤ 16777216 by simp; omega)]
          simp only [Bool.and_eq_true, decide_eq_true_eq, List.length_drop]
          omega
        have CU := dcut_any h4 no4 nf4 _ (t : Int) w5 HD5.out
        rw [dk_cut _ _ _ _ hast] at CU
        go_wp2_with (go_at_call 9; refine (num_any _ _).mono ?_; rintro e w' ⟨rfl, hw⟩; obtain rfl : w5 = w' := hw.symm)
        refine CU.mono ?_
        rintro e w6 ⟨rfl, hd6, hC6⟩
        obtain ⟨Bs, hBs⟩ : ∃ Bs, Bs = (A.drop f).take (t - f) := ⟨_, rfl⟩
        have hBl : Bs.length = t - f := by have := HT.out; rw [hBs]; simp; omega
        have hd6' : DkW w6 h4 no4 nf4 (dk ⟨1048576, f, Bs, Bs.length⟩ 0 (over none' none')) := by
          have e1 : ((t : Int) - f).toNat = t - f := by omega
          have e2 : min (A.length - f) (t - f) = Bs.length := by have := HT.out; omega
          rw [hBs]
          rw [hBs] at e2
          rw [← e2]
          rw [e1] at hd6
          exact hd6
        have F6h : Hid (Fin w h4 w6) := F5h.out.step hC6
        have HD6 : Hid (DkW w6 h4 no4 nf4 (dk ⟨1048576, f, Bs, Bs.length⟩ 0 (over none' none'))) := hd6'
        have HBS : Hid (Bs = (A.drop f).take (t - f) ∧ Bs.length = t - f) := ⟨hBs, hBl⟩
        clear CU F5h HD5 hd6 hd6' hC6 hast hBs hBl
        have CC := dcrash_none h4 no4 nf4 _ keep true (.slice none 0 0) w6 HD6.out rfl (by have := HN4.out; omega)
        have ec : Lo.crash ⟨1048576, f, Bs, Bs.length⟩ keep true = ⟨1048576, f, Bs, Bs.length⟩ := crash_sure _ _ _ rfl
        dsimp only [dk] at CC
        rw [ec] at CC
        go_wp2_with (go_at_call 9; refine (num_any _ _).mono ?_; rintro e w' ⟨rfl, hw⟩; obtain rfl : w6 = w' := hw.symm)
        refine CC.mono ?_
        rintro e w7 ⟨⟨v7, rfl⟩, mf7, hd7, hC7, hm7⟩
        obtain ⟨h7, hh7⟩ : ∃ h7 : Wh, h7 = { h4 with mf := mf7 } := ⟨_, rfl⟩
        have hB7 : h4.B = h7.B := by rw [hh7]
        have F7 := (F6h.out.step hC7).mf (.inr (Nat.le_trans F6h.out.b.size hm7))
        rw [← hh7] at hd7 F7
        rw [hB7]
        have HD7 : Hid (DkW w7 h7 no4 0 (dk ⟨1048576, f, Bs, Bs.length⟩ 0 (over none' none'))) := hd7
        have F7h : Hid (Fin w h7 w7) := F7
        clear CC F6h HD6 hd7 hC7 hm7 hh7 hB7 F7 ec HN4
        have hb3 : Hid ((0 : Int) ≤ f ∧ (f : Int) ≤ 4611686018427387904 ∧ Bs.length ≤ 16777216) := by
          have := HT.out
          have := HBS.out.2
          exact ⟨by omega, by omega, by omega⟩
        have has7 : Lo.has ⟨1048576, f, Bs, Bs.length⟩ (f : Int) = true := by
          rw [lo_has _ hb3.out.1 hb3.out.2.1 hb3.out.2.2]
          simp only [Bool.and_eq_true, decide_eq_true_eq]
          omega
        have CR7 := dread_any h7 no4 0 _ (f : Int) w7 HD7.out
        rw [dk_read _ _ _ _ has7] at CR7
        dsimp only at CR7
        rw [show ((f : Int) - f).toNat = 0 by omega, List.drop_zero] at CR7
        go_wp2_with fail
        refine CR7.mono ?_
        rintro e w8 ⟨a8, q8, rfl, hr8, b8, hn8⟩
        have HN8 : Hid (∀ b off, a8 = some ⟨b, off, none⟩ → ¬ h7.has b) := fun b off e hb => by
          have h1 := hn8 b off e
          have h2 := HD7.out.lt hb
          omega
        have HD8 : Hid (DkW w8 h7 no4 0 (dk ⟨1048576, f, Bs, Bs.length⟩ 0 (over none' none'))) := HD7.out.later b8
        have F8h : Hid (Fin w h7 w8) := F7h.out.later b8
        have HR8 : Hid (Rd w8 a8 Bs.length q8 Bs) := hr8
        clear CR7 HD7 F7h hr8 b8 has7 hn8
        have hwf1 : wrap64 ((f : Int) - 1) = (f : Int) - 1 := by have := HT.out; unfold wrap64; omega
        have hwf1' : IntKind.i64.wrap ((f : Int) - 1) = (f : Int) - 1 := by have := HT.out; rw [IntKind.wrap_i64]; omega
        have has8 : Lo.has ⟨1048576, f, Bs, Bs.length⟩ ((f : Int) - 1) = false := by
          rw [lo_has _ hb3.out.1 hb3.out.2.1 hb3.out.2.2]
          simp only [Bool.and_eq_false_iff, decide_eq_false_iff_not]
          left
          omega
        have CR8 := dread_any h7 no4 0 _ ((f : Int) - 1) w8 HD8.out
        rw [dk_read_no _ _ _ _ has8] at CR8
        go_wp2_with fail
        refine CR8.mono ?_
        rintro e w9 ⟨a9, q9, rfl, -, b9, -⟩
        have HD9 : Hid (DkW w9 h7 no4 0 (dk ⟨1048576, f, Bs, Bs.length⟩ 0 (over none' none'))) := HD8.out.later b9
        have F9h : Hid (Fin w h7 w9) := F8h.out.later b9
        have HR9 : Hid (Rd w9 a8 Bs.length q8 Bs) := HR8.out.later b9
        clear CR8 HD8 F8h HR8 b9 has8 hwf1 hwf1'
        have cv := Go.Joins.run_convert_bytes_const_at (P := Try.prog) w9 32 5 #[.int .u8 120] 1 1 w9.heap.size rfl Try.underlying32 Try.underlying5
        have bN : Below w9.heap.size w9 (w9.alloc (.cells #[.int .u8 120] 5 (1, 2))) := (Below.refl _ _).alloc (Nat.le_refl _) _
        have hr10 : Rd (w9.alloc (.cells #[.int .u8 120] 5 (1, 2))) (some ⟨w9.heap.size, 0, none⟩) 1 1 [120] := by
          refine ⟨rfl, Nat.le_refl _, by decide, (fun e => by cases e), fun _ => ⟨w9.heap.size, 0, rfl, fun i hi => ?_⟩⟩
          match i, hi with
          | 0, _ => exact Go.Joins.cell_alloc_mark_at w9 _ _ _ _ 0 rfl
        have CA := append_any h7 no4 0 _ _ (HD9.out.later bN) (some ⟨w9.heap.size, 0, none⟩) 1 1 [120] hr10 (by decide) (fun _ b off e hb => by cases e; exact absurd (HD9.out.lt hb) (by omega))
        rw [dk_app _ _ _ _ (by have := HT.out; have := HBS.out; show (Bs.length : Int) + 1 ≤ 1048576; omega)] at CA
        have F10h : Hid (Fin w h7 (w9.alloc (.cells #[.int .u8 120] 5 (1, 2)))) := F9h.out.later bN
        have HR10 : Hid (Rd (w9.alloc (.cells #[.int .u8 120] 5 (1, 2))) a8 Bs.length q8 Bs) := HR9.out.later bN
        clear bN hr10 F9h HR9
        go_wp2_with fail
        refine CA.mono ?_
        rintro e w11 ⟨rfl, g11, hd11, hC11, hg11⟩
        have hfin : Lo.fin ⟨1048576, f, Bs, Bs.length⟩ = (t : Int) := by
          rw [lo_fin _ hb3.out.1 hb3.out.2.1 hb3.out.2.2]
          have := HT.out
          have := HBS.out.2
          show (f : Int) + (Bs.length : Int) = t
          omega
        rw [hfin]
        obtain ⟨h11, hh11⟩ : ∃ h11 : Wh, h11 = { h7 with g := g11 } := ⟨_, rfl⟩
        have hB11 : h7.B = h11.B := by rw [hh11]
        have F11 := (F10h.out.step hC11).g (hg11.elim .inl (fun ⟨b, e1, e2⟩ => .inr ⟨b, e1, Nat.le_trans F10h.out.b.size e2⟩))
        rw [← hh11] at hd11 F11
        rw [hB11]
        have F11h : Hid (Fin w h11 w11) := F11
        have HD11 : Hid (DkW w11 h11 no4 0 (dk ⟨1048576, f, Bs ++ [120], Bs.length⟩ 0 (over none' none'))) := hd11
        have HRA : Hid (Rd w11 ao n cap A) := HR.out.later F11.b
        have HRB : Hid (Rd w11 a8 Bs.length q8 Bs) := HR10.out.chg hC11 (fun _ b off e => HN8.out b off e)
        clear CA F10h HR10 HD9 hd11 hC11 hg11 F11 hh11 hB11 hfin cv
        -- a[from:to]
        have HSL : Hid (∃ vs : Value, (∃ x y z, vs = .slice x y z) ∧ (∀ W, (Instr.slice 32 (.slice ao n cap) (some (.int .i64 (f : Int))) (some (.int .i64 (t : Int))) none).run Try.prog W = .ok vs W) ∧ ∀ W, Rd W ao n cap A → (convert 32 9 vs).run Try.prog W = .ok (.string ⟨Bs.toArray⟩) W) := slice_mid HR.out f t HT.out.1 HT.out.2.1 HBS.out.1
        obtain ⟨vs, ⟨sx, sy, sz, rfl⟩, hsl, hsc⟩ := HSL.out
        have hc1 : ∀ W, Rd W a8 Bs.length q8 Bs → (convert 32 9 (.slice a8 Bs.length q8)).run Try.prog W = .ok (.string ⟨Bs.toArray⟩) W := fun W hW =>
          run_string_of (P := Try.prog) 32 9 5 Try.underlying32 Try.underlying5 Try.underlying9 hW
        have CB := fun W (hW : Below w11.heap.size w11 W) => base_any h11 no4 0 _ W (HD11.out.later hW)
        have CE := fun W (hW : Below w11.heap.size w11 W) => dend_any h11 no4 0 _ W (HD11.out.later hW)
        have hfin2 : Lo.fin ⟨1048576, f, Bs ++ [120], Bs.length⟩ = (t : Int) + 1 := by
          have := HT.out
          have := HBS.out.2
          rw [lo_fin _ hb3.out.1 hb3.out.2.1 (show (Bs ++ [120]).length ≤ 16777216 by simp; omega)]
          show (f : Int) + ((Bs ++ [120]).length : Int) = t + 1
          simp
          omega
        dsimp only [dk] at CB CE
        rw [hfin2] at CE
        have hK : ∀ W, Below w11.heap.size w11 W → Below w11.heap.size w11 W ∧ (convert 32 9 (.slice a8 Bs.length q8)).run Try.prog W = .ok (.string ⟨Bs.toArray⟩) W ∧ (convert 32 9 (.slice sx sy sz)).run Try.prog W = .ok (.string ⟨Bs.toArray⟩) W := fun W hW => ⟨hW, hc1 W (HRB.out.later hW), hsc W (HRA.out.later hW)⟩
        have HK : Hid (∀ W, Below w11.heap.size w11 W → Below w11.heap.size w11 W ∧ (convert 32 9 (.slice a8 Bs.length q8)).run Try.prog W = .ok (.string ⟨Bs.toArray⟩) W ∧ (convert 32 9 (.slice sx sy sz)).run Try.prog W = .ok (.string ⟨Bs.toArray⟩) W) := hK
        have hw1 : wrap64 ((t : Int) + 1) = (t : Int) + 1 := by have := HT.out; unfold wrap64; omega
        have hw1' : IntKind.i64.wrap ((t : Int) + 1) = (t : Int) + 1 := by have := HT.out; rw [IntKind.wrap_i64]; omega
        obtain ⟨TX, hTX⟩ : ∃ TX : ByteArray, TX = ⟨Bs.toArray⟩ := ⟨_, rfl⟩
        rw [← hTX] at HK
        have HCB : Hid (∀ W, Below w11.heap.size w11 W → Calls Try.prog 20 #[.pointer (some ⟨h11.B, 0, none⟩)] W fun e w' => e = .returned (.int .i64 (f : Int)) ∧ w' = W) := CB
        have HCE : Hid (∀ W, Below w11.heap.size w11 W → Calls Try.prog 21 #[.pointer (some ⟨h11.B, 0, none⟩)] W fun e w' => e = .returned (.int .i64 ((t : Int) + 1)) ∧ Below W.heap.size W w') := CE
        have HF11 : Hid (Below w.heap.size w w11) := F11h.out.b
        clear CB CE hK hc1 hsc hTX HSL HRA HRB HD11 F11h hfin2
        go_upto_region 15 with fail
        go_region_held2 (fun W => Below w11.heap.size w11 W ∧ (convert 32 9 (.slice a8 Bs.length q8)).run Try.prog W = .ok (.string TX) W ∧ (convert 32 9 (.slice sx sy sz)).run Try.prog W = .ok (.string TX) W)
          (first | exact HK.out _ ((Below.refl _ _).drew) | assumption | exact HK.out _ (bp.trans (bE.mono bp.size)))
          (first
            | (go_at_call 9; refine (num_any _ _).mono ?_; rintro e w' ⟨rfl, rfl⟩)
            | (go_at_call 20; refine (HCB.out _ (show Below _ _ _ ∧ _ ∧ _ from by assumption).1).mono ?_; rintro e w' ⟨rfl, rfl⟩)
            | (go_at_call 21; have bp := (show Below w11.heap.size w11 _ ∧ _ ∧ _ from by assumption).1; refine (HCE.out _ bp).mono ?_; rintro e w' ⟨rfl, bE⟩))
        all_goals
          go_wp2
          go_ret
          exact ⟨rfl, HF11.out.trans ((show Below w11.heap.size w11 _ ∧ _ ∧ _ from by assumption).1.mono HF11.out.size)⟩
end Go.Proofs.Ytcnckbknhjccoaa
