/-
  num, knows.
-/
import Derived.Test.YtecgjfghofpjcaaDkN
import Derived.Lib.SmallJoins
namespace Go.Proofs.Ytecgjfghofpjcaa
open Go.RowKit Go.Maps

theorem num_any (n : Int) (w : World) : Calls Try.prog 6 #[.int .i64 n] w fun e w' => e = .returned (.int .i64 n) ∧ w' = w := by
  go_enter Try.func6, Try.ntmps6
  go_wp2
  go_ret
  exact ⟨rfl, rfl⟩

/-- A crash where nothing was written since the last sync. -/
theorem dcrash_none (h : Wh) (no nf : Nat) (d : Dk) (keep : Int) (torn : Bool) (fs : Value) (w : World) (hd : DkW w h no nf d) (hf : d.fresh = none') (hnf : nf ≤ 17592186044416) :
    Calls Try.prog 13 #[.pointer (some ⟨h.B, 0, none⟩), .int .i64 keep, .bool torn, fs] w fun e w' => (∃ v, e = .returned v) ∧ ∃ mf', DkW w' { h with mf := mf' } no 0 { d with lo := d.lo.crash keep torn, fresh := none', off := false, left := -1 } ∧ Chg h.has w w' ∧ w.heap.size ≤ mf' :=
  dcrash_of h no nf d keep torn fs w hd d.old no (fun W _ hW => (pcrash_none h.P h.mo h.mf no nf d.count d.old fs W (by rw [← hf]; exact hW) hnf).mono (fun e w' q => ⟨q.1, q.2.1, q.2.2.mono (fun _ _ e => .inl e)⟩))

set_option maxRecDepth 20000 in
set_option maxHeartbeats 1000000 in
theorem knows_any (w : World) : Calls Try.prog 7 #[] w fun e w' => e = .returned (.bool true) ∧ Below w.heap.size w w' := by
  have CN := New_good 100 2 (by decide) (by decide) (by decide) (by decide) w
  go_enter Try.func7, Try.ntmps7
  go_wp2_with fail
  refine CN.mono ?_
  rintro e w1 ⟨h, rfl, hd1, hH, b1⟩
  clear CN
  have cv := Go.Joins.run_convert_bytes_const_at (P := Try.prog) w1 32 5 #[.int .u8 97, .int .u8 98] 2 2 w1.heap.size rfl Try.underlying32 Try.underlying5
  have bN : Below w1.heap.size w1 (w1.alloc (.cells #[.int .u8 97, .int .u8 98] 5 (2, 3))) := (Below.refl _ _).alloc (Nat.le_refl _) _
  have hd2 := hd1.later bN
  have hr2 : Rd (w1.alloc (.cells #[.int .u8 97, .int .u8 98] 5 (2, 3))) (some ⟨w1.heap.size, 0, none⟩) 2 2 [97, 98] := by
    refine ⟨rfl, Nat.le_refl _, by decide, (fun e => by cases e), fun _ => ⟨w1.heap.size, 0, rfl, fun i hi => ?_⟩⟩
    match i, hi with
    | 0, _ => exact Go.Joins.cell_alloc_mark_at w1 _ _ _ _ 0 rfl
    | 1, _ => exact Go.Joins.cell_alloc_mark_at w1 _ _ _ _ 1 rfl
  have CA := append_any h 0 0 _ _ hd2 (some ⟨w1.heap.size, 0, none⟩) 2 2 [97, 98] hr2 (by decide) (fun _ b off e hb => by cases e; exact absurd (hd1.lt hb) (by omega))
  have HB1 : Hid (Below w.heap.size w (w1.alloc (.cells #[.int .u8 97, .int .u8 98] 5 (2, 3))) ∧ (∀ k, h.has k → w.heap.size ≤ k) ∧ w.heap.size ≤ w1.heap.size) := ⟨b1.trans (bN.mono b1.size), hH, b1.size⟩
  have ea : Dk.app ⟨⟨100, 0, [], 0⟩, 2, none', none', false, -1⟩ [97, 98] = (0, 0, ⟨⟨100, 0, [97, 98], 0⟩, 2, none', none', false, -1⟩) := by rfl
  rw [ea] at CA
  clear hd1 hd2 hr2 hH b1 bN ea
  go_wp2_with fail
  refine CA.mono ?_
  rintro e w2 ⟨rfl, g', hd2, hC2, hg2⟩
  obtain ⟨h2, hh2⟩ : ∃ h2 : Wh, h2 = { h with g := g' } := ⟨_, rfl⟩
  have hB : h.B = h2.B := by rw [hh2]
  have HB2 : Hid (Below w.heap.size w w2 ∧ (∀ k, h2.has k → w.heap.size ≤ k)) := by
    refine ⟨HB1.out.1.trans (hC2.below HB1.out.1.size HB1.out.2.1), fun k hk => ?_⟩
    rw [hh2] at hk
    rcases hk with e | e | e | e | e | e | e
    · exact HB1.out.2.1 k (.inl e)
    · exact HB1.out.2.1 k (.inr (.inl e))
    · exact HB1.out.2.1 k (.inr (.inr (.inl e)))
    · exact HB1.out.2.1 k (.inr (.inr (.inr (.inl e))))
    · exact HB1.out.2.1 k (.inr (.inr (.inr (.inr (.inl e)))))
    · exact HB1.out.2.1 k (.inr (.inr (.inr (.inr (.inr (.inl e))))))
    · dsimp only at e
      rcases hg2 with e2 | ⟨b, e2, e3⟩
      · rw [e2] at e; exact HB1.out.2.1 k (.inr (.inr (.inr (.inr (.inr (.inr e))))))
      · rw [e2] at e; cases e
        have := HB1.out.1.size
        omega
  rw [← hh2] at hd2
  rw [hB]
  have CC := dcrash_none h2 0 0 _ 1 false (.slice none 0 0) w2 hd2 rfl (by decide)
  have ec : Lo.crash ⟨100, 0, [97, 98], 0⟩ 1 false = ⟨100, 0, [97], 1⟩ := by rfl
  dsimp only at CC
  rw [ec] at CC
  clear CA hd2 hC2 hg2 hh2 hB ec cv HB1
  go_wp2_with fail
  refine CC.mono ?_
  rintro e w3 ⟨⟨v3, rfl⟩, mf', hd3, hC3, -⟩
  have CR := dread_any { h2 with mf := mf' } 0 0 _ 0 w3 hd3
  have er : Dk.read ⟨⟨100, 0, [97], 1⟩, 2, none', none', false, -1⟩ 0 = (0, [97]) := by rfl
  rw [er] at CR
  have HB3 : Hid (Below w.heap.size w w3) := HB2.out.1.trans (hC3.below HB2.out.1.size HB2.out.2)
  have HD3 : Hid (DkW w3 { h2 with mf := mf' } 0 0 ⟨⟨100, 0, [97], 1⟩, 2, none', none', false, -1⟩) := hd3
  clear CC hd3 hC3 er HB2
  go_wp2_with fail
  refine CR.mono ?_
  rintro e w4 ⟨ao, cap, rfl, hr4, b4, -⟩
  have CE := dend_any { h2 with mf := mf' } 0 0 _ w4 (HD3.out.later b4)
  have q4 := run_string_of (P := Try.prog) 32 9 5 Try.underlying32 Try.underlying5 Try.underlying9 hr4
  simp only [List.length_cons, List.length_nil, Nat.reduceAdd] at q4
  have ef : Lo.fin ⟨100, 0, [97], 1⟩ = 1 := by rfl
  dsimp only at CE
  rw [ef] at CE
  have HB4 : Hid (Below w.heap.size w w4) := HB3.out.trans (b4.mono HB3.out.size)
  clear CR hr4 b4 ef
  go_wp2_with (first | (go_at_call 6; refine (num_any _ _).mono ?_; rintro e w' ⟨rfl, hw⟩; obtain rfl : w4 = w' := hw.symm) | (go_at_call 15; refine CE.mono ?_; rintro e w5 ⟨rfl, b5⟩))
  go_ret
  exact ⟨rfl, HB4.out.trans (b5.mono HB4.out.size)⟩

/-- The methods of no disk, and of one that nobody made. -/
theorem bare_calls (v : Value) (w : World) (hv : Bare w v) :
    (∀ k t f, Calls Try.prog 13 #[v, .int .i64 k, .bool t, f] w fun e w' => (∃ v, e = .returned v) ∧ w' = w) ∧
    (∀ a n c, Calls Try.prog 12 #[v, .slice a n c] w fun e w' => e = .returned (.tuple #[.int .i64 0, .int .i64 1]) ∧ w' = w) ∧
    (∀ k, Calls Try.prog 14 #[v, .int .i64 k] w fun e w' => e = .returned (.tuple #[.slice none 0 0, .int .i64 1]) ∧ w' = w) ∧
    (∀ k, Calls Try.prog 29 #[v, .int .i64 k] w fun e w' => e = .returned (.tuple #[.slice none 0 0, .int .i64 1]) ∧ w' = w) ∧
    (Calls Try.prog 17 #[v] w fun e w' => e = .returned (.int .i64 1) ∧ w' = w) ∧
    (∀ k, Calls Try.prog 19 #[v, .int .i64 k] w fun e w' => e = .returned (.int .i64 1) ∧ w' = w) ∧
    (∀ k, Calls Try.prog 21 #[v, .int .i64 k] w fun e w' => e = .returned (.int .i64 1) ∧ w' = w) ∧
    (∀ k a n c, Calls Try.prog 23 #[v, .int .i64 k, .slice a n c] w fun e w' => e = .returned (.int .i64 1) ∧ w' = w) ∧
    (Calls Try.prog 31 #[v] w fun e w' => e = .returned (.int .i64 0) ∧ w' = w) ∧
    (Calls Try.prog 15 #[v] w fun e w' => e = .returned (.int .i64 0) ∧ w' = w) ∧
    (Calls Try.prog 33 #[v] w fun e w' => e = .returned (.bool false) ∧ w' = w) ∧
    (∀ k, Calls Try.prog 26 #[v, .int .i64 k] w fun e w' => (∃ v, e = .returned v) ∧ w' = w) := by
  have CW := wasMade_bare v w hv
  have CF := fault_bare v w hv
  obtain ⟨x, rfl⟩ : ∃ x, v = .pointer x := by rcases hv with rfl | ⟨B, rfl, _⟩; · exact ⟨_, rfl⟩
                                              · exact ⟨_, rfl⟩
  clear hv
  refine ⟨fun k t f => ?_, fun a n c => ?_, fun k => ?_, fun k => ?_, ?_, fun k => ?_, fun k => ?_, fun k a n c => ?_, ?_, ?_, ?_, fun k => ?_⟩
  · go_enter Try.func13, Try.ntmps13
    go_wp2_with (first | (go_at_call 34; refine CF.mono ?_; rintro e w' ⟨rfl, hw⟩; obtain rfl : w = w' := hw.symm) | (go_at_call 39; refine CW.mono ?_; rintro e w' ⟨rfl, hw⟩; obtain rfl : w = w' := hw.symm))
    refine bodyPost_ret (results_none rfl _ _ _) rfl ?_
    exact ⟨⟨_, rfl⟩, rfl⟩
  · go_enter Try.func12, Try.ntmps12
    go_wp2_with (first | (go_at_call 34; refine CF.mono ?_; rintro e w' ⟨rfl, hw⟩; obtain rfl : w = w' := hw.symm) | (go_at_call 39; refine CW.mono ?_; rintro e w' ⟨rfl, hw⟩; obtain rfl : w = w' := hw.symm))
    go_ret2
    exact ⟨rfl, rfl⟩
  · go_enter Try.func14, Try.ntmps14
    go_wp2_with (first | (go_at_call 34; refine CF.mono ?_; rintro e w' ⟨rfl, hw⟩; obtain rfl : w = w' := hw.symm) | (go_at_call 39; refine CW.mono ?_; rintro e w' ⟨rfl, hw⟩; obtain rfl : w = w' := hw.symm))
    go_ret2
    exact ⟨rfl, rfl⟩
  · go_enter Try.func29, Try.ntmps29
    go_wp2_with (first | (go_at_call 34; refine CF.mono ?_; rintro e w' ⟨rfl, hw⟩; obtain rfl : w = w' := hw.symm) | (go_at_call 39; refine CW.mono ?_; rintro e w' ⟨rfl, hw⟩; obtain rfl : w = w' := hw.symm))
    go_ret2
    exact ⟨rfl, rfl⟩
  · go_enter Try.func17, Try.ntmps17
    go_wp2_with (first | (go_at_call 34; refine CF.mono ?_; rintro e w' ⟨rfl, hw⟩; obtain rfl : w = w' := hw.symm) | (go_at_call 39; refine CW.mono ?_; rintro e w' ⟨rfl, hw⟩; obtain rfl : w = w' := hw.symm))
    go_ret
    exact ⟨rfl, rfl⟩
  · go_enter Try.func19, Try.ntmps19
    go_wp2_with (first | (go_at_call 34; refine CF.mono ?_; rintro e w' ⟨rfl, hw⟩; obtain rfl : w = w' := hw.symm) | (go_at_call 39; refine CW.mono ?_; rintro e w' ⟨rfl, hw⟩; obtain rfl : w = w' := hw.symm))
    go_ret
    exact ⟨rfl, rfl⟩
  · go_enter Try.func21, Try.ntmps21
    go_wp2_with (first | (go_at_call 34; refine CF.mono ?_; rintro e w' ⟨rfl, hw⟩; obtain rfl : w = w' := hw.symm) | (go_at_call 39; refine CW.mono ?_; rintro e w' ⟨rfl, hw⟩; obtain rfl : w = w' := hw.symm))
    go_ret
    exact ⟨rfl, rfl⟩
  · go_enter Try.func23, Try.ntmps23
    go_wp2_with (first | (go_at_call 34; refine CF.mono ?_; rintro e w' ⟨rfl, hw⟩; obtain rfl : w = w' := hw.symm) | (go_at_call 39; refine CW.mono ?_; rintro e w' ⟨rfl, hw⟩; obtain rfl : w = w' := hw.symm))
    go_ret
    exact ⟨rfl, rfl⟩
  · go_enter Try.func31, Try.ntmps31
    go_wp2_with (first | (go_at_call 34; refine CF.mono ?_; rintro e w' ⟨rfl, hw⟩; obtain rfl : w = w' := hw.symm) | (go_at_call 39; refine CW.mono ?_; rintro e w' ⟨rfl, hw⟩; obtain rfl : w = w' := hw.symm))
    go_ret
    exact ⟨rfl, rfl⟩
  · go_enter Try.func15, Try.ntmps15
    go_wp2_with (first | (go_at_call 34; refine CF.mono ?_; rintro e w' ⟨rfl, hw⟩; obtain rfl : w = w' := hw.symm) | (go_at_call 39; refine CW.mono ?_; rintro e w' ⟨rfl, hw⟩; obtain rfl : w = w' := hw.symm))
    go_ret
    exact ⟨rfl, rfl⟩
  · go_enter Try.func33, Try.ntmps33
    go_wp2_with (first | (go_at_call 34; refine CF.mono ?_; rintro e w' ⟨rfl, hw⟩; obtain rfl : w = w' := hw.symm) | (go_at_call 39; refine CW.mono ?_; rintro e w' ⟨rfl, hw⟩; obtain rfl : w = w' := hw.symm))
    go_ret
    exact ⟨rfl, rfl⟩
  · go_enter Try.func26, Try.ntmps26
    go_wp2_with (first | (go_at_call 34; refine CF.mono ?_; rintro e w' ⟨rfl, hw⟩; obtain rfl : w = w' := hw.symm) | (go_at_call 39; refine CW.mono ?_; rintro e w' ⟨rfl, hw⟩; obtain rfl : w = w' := hw.symm))
    go_end0
    exact ⟨⟨_, rfl⟩, rfl⟩
end Go.Proofs.Ytecgjfghofpjcaa
