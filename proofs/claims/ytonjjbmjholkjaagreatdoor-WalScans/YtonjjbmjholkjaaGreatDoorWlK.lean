/-
  The law's num, made, knows.
-/
import Derived.Test.YtonjjbmjholkjaaGreatDoorWlY
namespace Go.Proofs.YtonjjbmjholkjaaGreatDoor
open Go.RowKit Go.Shelf

theorem wnum_any (n : Int) (w : World) : Calls Tryz.prog 14 #[.int .i64 n] w fun e w' => e = .returned (.int .i64 n) ∧ w' = w := by
  go_enter Tryz.func14, Tryz.ntmps14
  go_wp2
  go_ret
  exact ⟨rfl, rfl⟩

theorem made_any (most : Int) (h1 : 1 ≤ most) (h2 : most ≤ 16777216) (w : World) : Calls Tryz.prog 19 #[.int .i64 most] w fun e w' => ∃ h : Wh, e = .returned (.pointer (some ⟨h.B, 0, none⟩)) ∧ DkW w' h 0 0 (dk ⟨most, 0, [], 0⟩ 0 none') ∧ (∀ k, h.has k → w.heap.size ≤ k) ∧ Below w.heap.size w w' := by
  have CN := New_good most 0 h1 h2 (by decide) (by decide) w
  clear h1 h2
  go_enter Tryz.func19, Tryz.ntmps19
  go_wp2_with fail
  refine CN.mono ?_
  rintro e w1 ⟨h, rfl, hd, hH, b1⟩
  have HF : Hid (_ ∧ _ ∧ _) := And.intro hd (And.intro hH b1)
  clear CN hd hH b1
  go_wp2_with (go_at_call 14; refine (wnum_any _ _).mono ?_; rintro e w' ⟨rfl, hw⟩; obtain rfl : w1 = w' := hw.symm)
  go_ret
  exact ⟨h, rfl, HF.out⟩

/-- What a row of one's own looks like, its length named. -/
theorem row_len {w : World} {n₀ : Nat} {e : TypeId} {size k : Nat} {v : Value} {xs : List Value} (h : w.ownsRow n₀ e size v k xs) : ∃ a c, v = .slice a k c := by
  rcases h.2 with ⟨rfl, rfl⟩ | ⟨g, cap, cur, rfl, _⟩
  · exact ⟨_, _, rfl⟩
  · exact ⟨_, _, rfl⟩

theorem a_len : (recBytes [97]).length = 10 := by rw [rec_len]; have : (numBytes (([97] : List UInt8).length : Int)).length = 1 := by decide +kernel
                                                  rw [this]; rfl
theorem b_len : (recBytes [98]).length = 10 := by rw [rec_len]; have : (numBytes (([98] : List UInt8).length : Int)).length = 1 := by decide +kernel
                                                  rw [this]; rfl

/-- A byte as a constant slice of bytes. -/
theorem one_byte (w : World) (c : UInt8) : Rd (w.alloc (.cells #[.int .u8 (c.toNat : Int)] 5 (1, 2))) (some ⟨w.heap.size, 0, none⟩) 1 1 [c] ∧ Below w.heap.size w (w.alloc (.cells #[.int .u8 (c.toNat : Int)] 5 (1, 2))) := by
  refine ⟨⟨rfl, Nat.le_refl _, by decide, (fun e => by cases e), fun _ => ⟨w.heap.size, 0, rfl, fun i hi => ?_⟩⟩, (Below.refl _ _).alloc (Nat.le_refl _) _⟩
  match i, hi with
  | 0, _ => exact Go.Joins.cell_alloc_mark_at w _ _ _ _ 0 rfl

set_option maxRecDepth 20000 in
set_option maxHeartbeats 4000000 in
theorem wknows_any (w : World) (hT : Tab w) : Calls Tryz.prog 5 #[] w fun e w' => e = .returned (.bool true) ∧ Below w.heap.size w w' := by
  have CN := made_any 100 (by decide) (by decide) w
  have HT : Hid (Tab w) := hT
  clear hT
  go_enter Tryz.func5, Tryz.ntmps5
  go_wp2_with fail
  refine CN.mono ?_
  rintro e w1 ⟨h1, rfl, hd1, hH1, b1⟩
  have CO := ws_open HT.out b1 hd1 hH1 rfl [] [] rfl takeR_nil (fun x hx => by simp at hx)
  clear CN hd1 hH1 b1
  go_wp2_with fail
  refine CO.mono ?_
  rintro e w2 ⟨x2, h2, d2, xs, v, rfl, hB2, s2, hoff2, hleft2, hmost2, hm, hrow, -, -⟩
  have hxs : xs = [] := by simpa [its] using hm
  subst hxs
  obtain ⟨a, c, rfl⟩ := row_len hrow
  have H2 : Hid (WS w w2 x2 h2 d2 [] [] ∧ d2.off = false ∧ d2.left = -1 ∧ d2.lo.most = 100 ∧ h2.B = h1.B) := ⟨s2, hoff2, hleft2, hmost2, hB2⟩
  clear CO s2 hoff2 hleft2 hmost2 hB2 hm hrow
  have cv := Go.Joins.run_convert_bytes_const_at (P := Tryz.prog) w2 22 5 #[.int .u8 97] 1 1 w2.heap.size rfl Tryz.underlying22 Tryz.underlying5
  have ob := one_byte w2 97
  have CA := ws_append HT.out (H2.out.1.later ob.2) _ 1 1 [97] ob.1 (by decide) (by rw [H2.out.2.2.2.1, cat_nil, List.append_nil, a_len]; decide)
  clear ob
  go_wp2_with (go_at_call 14; refine (wnum_any _ _).mono ?_; rintro e w' ⟨rfl, hw⟩; obtain rfl : w2 = w' := hw.symm)
  refine CA.mono ?_
  rintro e w3 ⟨at3, f3, x3, h3, d3, rfl, eW3, eB3, hor3, hmost3, hon3, -⟩
  obtain ⟨rfl, hoff3, hleft3⟩ := hon3 H2.out.2.1 H2.out.2.2.1
  have s3 : WS w w3 x3 h3 d3 [] [[97]] := by
    rcases hor3 with ⟨_, _, q⟩ | ⟨q, _⟩
    · exact q
    · cases q
  have H3 : Hid (WS w w3 x3 h3 d3 [] [[97]] ∧ d3.off = false ∧ d3.left = -1 ∧ d3.lo.most = 100 ∧ x3.Wb = x2.Wb ∧ h3.B = h1.B) := ⟨s3, hoff3, hleft3, hmost3.trans H2.out.2.2.2.1, eW3, eB3.trans H2.out.2.2.2.2⟩
  have CS := ws_sync s3
  rw [eW3] at CS
  clear CA s3 hoff3 hleft3 hmost3 hor3 hon3 eW3 eB3 cv
  go_wp2_with fail
  refine CS.mono ?_
  rintro e w4 ⟨f4, x4, h4, d4, rfl, eW4, eB4, hor4, hmost4, hon4, -⟩
  obtain ⟨rfl, hoff4, hleft4⟩ := hon4 H3.out.2.1 H3.out.2.2.1
  have s4 : WS w w4 x4 h4 d4 [[97]] [] := by
    rcases hor4 with ⟨_, q⟩ | ⟨q, _⟩
    · exact q
    · cases q
  have H4 : Hid (WS w w4 x4 h4 d4 [[97]] [] ∧ d4.off = false ∧ d4.left = -1 ∧ d4.lo.most = 100 ∧ x4.Wb = x2.Wb ∧ h4.B = h1.B) := ⟨s4, hoff4, hleft4, hmost4.trans H3.out.2.2.2.1, eW4, eB4.trans H3.out.2.2.2.2.2⟩
  have cv := Go.Joins.run_convert_bytes_const_at (P := Tryz.prog) w4 22 5 #[.int .u8 98] 1 1 w4.heap.size rfl Tryz.underlying22 Tryz.underlying5
  have ob := one_byte w4 98
  have CA := ws_append HT.out (H4.out.1.later ob.2) _ 1 1 [98] ob.1 (by decide) (by rw [H4.out.2.2.2.1, cat_nil, List.append_nil, cat_one, a_len, b_len]; decide)
  rw [H4.out.2.2.2.2.1] at CA
  clear CS ob s4 hoff4 hleft4 hmost4 hor4 hon4 eW4 eB4
  go_wp2_with fail
  refine CA.mono ?_
  rintro e w5 ⟨at5, f5, x5, h5, d5, rfl, eW5, eB5, hor5, hmost5, hon5, -⟩
  obtain ⟨rfl, hoff5, hleft5⟩ := hon5 H4.out.2.1 H4.out.2.2.1
  have s5 : WS w w5 x5 h5 d5 [[97]] [[98]] ∧ at5 = 10 := by
    rcases hor5 with ⟨_, q1, q⟩ | ⟨q, _⟩
    · exact ⟨q, by rw [q1, cat_nil, List.append_nil, cat_one, a_len]⟩
    · cases q
  obtain ⟨s5, rfl⟩ := s5
  have CC := ws_crash s5 5 false (.slice none 0 0)
  have eB : h5.B = h1.B := eB5.trans H4.out.2.2.2.2.2
  rw [eB] at CC
  have H5 : Hid (WS w w5 x5 h5 d5 [[97]] [[98]] ∧ h5.B = h1.B) := ⟨s5, eB⟩
  clear CA s5 hoff5 hleft5 hmost5 hor5 hon5 eW5 eB5 eB cv
  go_wp2_with fail
  refine CC.mono ?_
  rintro e w6 ⟨⟨v6, rfl⟩, h6, lo6, k6, t6, eB6, hd6, hge6, hb6, hbase6, hmost6, hk6, hl6, ht6, hf6, hle6, -⟩
  have hk0 : k6 = 0 := by
    have h1 := left_app d5.lo (cat [[97]]) (cat [[98]]) H5.out.1.bytes H5.out.1.sure 5 false
    rw [← hle6, hl6] at h1
    have h2 := congrArg List.length h1
    simp only [List.length_append, tornT_len, List.length_take, cat_one, a_len, b_len] at h2
    rcases Nat.lt_or_ge k6 1 with q | q
    · omega
    · have q1 : k6 = 1 := by simp at hk6; omega
      subst q1
      have : cat ([[97]] ++ List.take 1 [[98]]) = recBytes [97] ++ recBytes [98] := by simp [cat]
      rw [this, List.length_append, a_len, b_len] at h2
      omega
  subst hk0
  have CO := ws_open HT.out hb6 hd6 hge6 hbase6 [[97]] t6 hl6 ht6 hf6
  rw [eB6] at CO
  clear CC hd6 hge6 hb6 hbase6 hmost6 hk6 hl6 ht6 hf6 hle6 eB6
  go_wp2_with fail
  refine CO.mono ?_
  rintro e w7 ⟨x7, h7, d7, xs, v, rfl, hB7, s7, -, -, -, hm, hrow, hin, -⟩
  obtain ⟨y, rfl, hy⟩ : ∃ y : Itv, xs = [y] ∧ y.it = ⟨0, [97], 0 + (recBytes [97]).length⟩ := by
    match xs, hm with
    | [], hm => simp [its] at hm
    | [y], hm => simp [its] at hm; exact ⟨y, rfl, by rw [hm]; simp⟩
    | _ :: _ :: _, hm => simp [its] at hm
  have hiy := hin y (by simp)
  obtain ⟨yo, ya, yc⟩ := y
  dsimp only at hy
  subst hy
  obtain ⟨a, c, rfl⟩ := row_len hrow
  obtain ⟨g, -, rfl⟩ : ∃ g, True ∧ a = some ⟨g, 0, none⟩ := by
    rcases hrow.2 with ⟨_, q⟩ | ⟨g, cap, cur, q, _⟩
    · cases q
    · cases q; exact ⟨g, trivial, rfl⟩
  have c1 := World.ownsRow.cells hrow (g := g) rfl 1 (.slice ya 1 yc) (by simp [ecs])
  rw [Addr.add_lit] at c1
  simp only [Nat.zero_add] at c1
  obtain ⟨a1, c1', e1, hrd, -⟩ := hiy.rd
  cases e1
  have q4 := run_string_of (P := Tryz.prog) 22 9 5 Tryz.underlying22 Tryz.underlying5 Tryz.underlying9 hrd
  simp only [List.length_cons, List.length_nil, Nat.reduceAdd] at q4
  have HB7 : Hid (Below w.heap.size w w7) := s7.b
  clear CO s7 hB7 hm hrow hin hiy hrd
  go_wp2_with (go_at_call 14; refine (wnum_any _ _).mono ?_; rintro e w' ⟨rfl, hw⟩; obtain rfl : w7 = w' := hw.symm)
  go_ret
  exact ⟨rfl, HB7.out⟩
end Go.Proofs.YtonjjbmjholkjaaGreatDoor
