/-
  The law's step.
-/
import Derived.Test.YtecgjfghofpjcaaDpW
import Derived.Deep.CutBlock
import Derived.Deep.RegionHeld3
namespace Go.Proofs.Ytecgjfghofpjcaa
open Go.RowKit Go.Maps

/-- What block gives of an op. -/
def bb (t : Bool) (B : List UInt8) : List UInt8 := if t then B else blk B

theorem block_any (kd on : Int) (oa : Option Addr) (om oc : Nat) (otn : Bool) (f : Value) (oB : List UInt8) (w : World) (hr : Rd w oa om oc oB) (hm : om ≤ 140737488351232) :
    Calls Try.prog 24 #[.agg #[.int .i64 kd, .int .i64 on, .slice oa om oc, .bool otn, f]] w fun e w' => ∃ a n c, e = .returned (.slice a n c) ∧ Rd w' a n c (bb otn oB) ∧ Below w.heap.size w w' ∧ (∀ b off, 0 < n → a = some ⟨b, off, none⟩ → (0 < om ∧ oa = some ⟨b, off, none⟩) ∨ w.heap.size ≤ b) ∧ n ≤ 140737488351232 := by
  cases otn with
  | true => exact (block_torn kd on oa om oc f w).mono (fun e w' q => ⟨oa, om, oc, q.1, hr.later q.2, q.2, fun b off hp e => .inl ⟨hp, e⟩, hm⟩)
  | false => exact (block_new kd on oa om oc f oB w hr).mono (fun e w' ⟨g, q1, q2, q3, q4⟩ => ⟨some ⟨g, 0, none⟩, 512, 512, q1, q2, q3, fun b off _ e => .inr (by cases e; exact q4), by decide⟩)

set_option maxRecDepth 20000 in
set_option maxHeartbeats 8000000 in
theorem step_any (h : Wh) (r : Rf) (no nf no' nf' n : Nat) (d : Dk) (kd on : Int) (oa : Option Addr) (om oc : Nat) (otn : Bool) (ofo : Option Addr) (ofn ofc : Nat) (oB : List UInt8) (zs : List Int) (w : World)
    (hP : Pr w h r no nf no' nf' n d) (hn : n ≤ 4398046511104) (hr : Rd w oa om oc oB) (hz : Fs w ofo ofn zs) (hfc : ofn ≤ ofc) (hwn : wf64 on) (hm : om ≤ 140737488351232) (hfm : ofn * 8 ≤ 140737488351232)
    (hS : 0 < om → ∀ b off, oa = some ⟨b, off, none⟩ → ¬ Sf h r b ∧ b < w.heap.size) (hSf : 0 < ofn → ∀ b off, ofo = some ⟨b, off, none⟩ → ¬ Sf h r b ∧ b < w.heap.size) :
    Calls Try.prog 8 #[.pointer (some ⟨h.B, 0, none⟩), .pointer (some ⟨r.R, 0, none⟩), .agg #[.int .i64 kd, .int .i64 on, .slice oa om oc, .bool otn, .slice ofo ofn ofc]] w fun e w' => e = .returned (.bool true) ∧ Sp h r (n + 1) w w' := by
  obtain ⟨W1, hW1⟩ : ∃ W1, W1 = w.alloc (.cells #[.int .i64 kd, .int .i64 on, .slice oa om oc, .bool otn, .slice ofo ofn ofc] 35) := ⟨_, rfl⟩
  have b1 : Below w.heap.size w W1 := by rw [hW1]; exact (Below.refl _ _).alloc (Nat.le_refl _) _
  have hN1 : W1.heap[w.heap.size]? = some (.cells #[.int .i64 kd, .int .i64 on, .slice oa om oc, .bool otn, .slice ofo ofn ofc] 35 (0, 0)) := by rw [hW1]; exact heap_alloc_new w _
  have e0 : W1.cell? ⟨w.heap.size, 0, none⟩ = some (.int .i64 kd) := bl_cell hN1 0 _ rfl
  have e1 : W1.cell? ⟨w.heap.size, 1, none⟩ = some (.int .i64 on) := bl_cell hN1 1 _ rfl
  have e2 : W1.cell? ⟨w.heap.size, 2, none⟩ = some (.slice oa om oc) := bl_cell hN1 2 _ rfl
  have e3 : W1.cell? ⟨w.heap.size, 3, none⟩ = some (.bool otn) := bl_cell hN1 3 _ rfl
  have e4 : W1.cell? ⟨w.heap.size, 4, none⟩ = some (.slice ofo ofn ofc) := bl_cell hN1 4 _ rfl
  have HB1 : Hid (Below w.heap.size w W1 ∧ ∀ k, Sf h r k → k < W1.heap.size) := ⟨b1, fun k hk => (hP.later b1).lt hk⟩
  obtain ⟨bx, hbx⟩ : ∃ bx, bx = w.heap.size := ⟨_, rfl⟩
  have HP : Hid (Pr W1 h r no nf no' nf' n d) := hP.later b1
  have HBX : Hid (bx < W1.heap.size ∧ ¬ Sf h r bx) := ⟨by rw [hbx]; exact bl_lt hN1, fun hk => by have := hP.lt hk; omega⟩
  have HO : Hid (Rd W1 oa om oc oB ∧ Fs W1 ofo ofn zs ∧ ofn ≤ ofc ∧ wf64 on ∧ om ≤ 140737488351232 ∧ ofn * 8 ≤ 140737488351232 ∧ n ≤ 4398046511104) := ⟨hr.later b1, hz.chg (chg_of_below (S := fun _ => False) b1) (fun _ _ _ _ e => e), hfc, hwn, hm, hfm, hn⟩
  have HS : Hid ((0 < om → ∀ b off, oa = some ⟨b, off, none⟩ → ¬ Sf h r b ∧ b < W1.heap.size) ∧ (0 < ofn → ∀ b off, ofo = some ⟨b, off, none⟩ → ¬ Sf h r b ∧ b < W1.heap.size)) := ⟨fun hp b off e => ⟨(hS hp b off e).1, Nat.lt_of_lt_of_le (hS hp b off e).2 b1.size⟩, fun hp b off e => ⟨(hSf hp b off e).1, Nat.lt_of_lt_of_le (hSf hp b off e).2 b1.size⟩⟩
  have HFIN : Hid (∀ w', Sp h r (n + 1) W1 w' → Sp h r (n + 1) w w') := fun w' s => s.since b1
  rw [← hbx] at e0 e1 e2 e3 e4
  clear hP hn hr hz hfc hwn hm hfm hS hSf b1 hN1
  go_enter Try.func8, Try.ntmps8
  go_upto_region 1 with fail
  rw [← hW1, ← hbx]
  clear hW1 hbx
  go_upto_block 0 with fail
  go_cut [7] from 26 (fun s7 wx => s7 = .bool true ∧ Sp h r (n + 1) W1 wx)
  case first =>
    by_cases k0 : kd = 0
    · as_aux_lemma => -- <k0>
        subst k0
        obtain ⟨a4, c4, W4, g4, hrun4, ho4, hR4, b4, nR4, ng4⟩ := copied W1 oa om oc oB HO.out.1 (by have := HO.out; omega)
        have e2a : (W1.alloc (.cells #[] 5)).cell? ⟨bx, 2, none⟩ = some (.slice oa om oc) := (((Below.refl _ W1).alloc (Nat.le_refl _) (.cells #[] 5)).cell (p := ⟨bx, 2, none⟩) HBX.out.1).trans e2
        have P4 := HP.out.later b4
        have CA := append_any h no nf d W4 P4.a a4 om c4 oB hR4 (by have := HO.out; omega) (fun _ b off e hb => by have h1 := (nR4 b off e).1; have h2 := HB1.out.2 b (.inl hb); omega)
        have H4 : Hid (Pr W4 h r no nf no' nf' n d ∧ Ob W4 (.slice a4 om c4) g4 oB ∧ Below W1.heap.size W1 W4 ∧ (∀ b, g4 = some b → W1.heap.size ≤ b) ∧ Rd W4 oa om oc oB) := ⟨P4, ho4, b4, ng4, HO.out.1.later b4⟩
        have x2 : W4.cell? ⟨bx, 2, none⟩ = some (.slice oa om oc) := (b4.cell (p := ⟨bx, 2, none⟩) HBX.out.1).trans e2
        clear ho4 hR4 b4 nR4 ng4 P4
        obtain ⟨v1, hv1⟩ : ∃ v1, v1 = (d.app oB).1 := ⟨_, rfl⟩
        obtain ⟨v2, hv2⟩ : ∃ v2, v2 = (d.app oB).2.1 := ⟨_, rfl⟩
        rw [← hv1, ← hv2] at CA
        have HV : Hid ((d.app oB).1 = v1 ∧ (d.app oB).2.1 = v2) := ⟨hv1.symm, hv2.symm⟩
        clear hv1 hv2
        go_upto_region 5 with (at_builtin; refine wpList_append_run rfl _ _ _ _ rfl _ _ rfl rfl hrun4 ?_)
        clear hrun4 e2 e2a e0 e1 e3 e4
        go_upto_region 6 with (go_at_call 12; refine CA.mono ?_; rintro e w5 ⟨rfl, g5, hd5, hC5, hg5⟩)
        have y2 : w5.cell? ⟨bx, 2, none⟩ = some (.slice oa om oc) := hC5.cell (fun hb => HBX.out.2 (.inl hb)) x2
        have CB := rappend_any r no' nf' d oa om oc oB w5 (H4.out.1.b.apart hC5 (fun k hk hb => H4.out.1.ap k hb hk)) H4.out.1.dok (H4.out.2.2.2.2.chg hC5 (fun hp b off e hb => (HS.out.1 hp b off e).1 (.inl hb))) (fun hp b off e hb => (HS.out.1 hp b off e).1 (.inr hb))
        rw [HV.out.1, HV.out.2] at CB
        have H5 : Hid (DkW w5 { h with g := g5 } no nf (d.app oB).2.2 ∧ Chg h.has W4 w5 ∧ (g5 = h.g ∨ ∃ b, g5 = some b ∧ W4.heap.size ≤ b)) := ⟨hd5, hC5, hg5⟩
        clear CA hd5 hC5 hg5 x2
        go_upto_region 7 with (go_at_call 16; refine CB.mono ?_; rintro e w6 ⟨rfl, a6, c6, hk6, hC6, hE6⟩)
        have H6 : Hid (Sp h r (n + 1) W4 w6 ∧ Ob w6 (.slice a4 om c4) g4 oB) := by
          refine ⟨Sp.both H4.out.1 H5.out.1 H5.out.2.1 (fun k hk => Wh.has_g hk H5.out.2.2) rfl (Below.refl _ _) hk6 hC6 (fun k hk => Rf.has_a hk hE6) rfl (H4.out.1.c.app oB) (by have := H4.out.1.n1; omega) (by have := H4.out.1.n2; omega) (by have := H4.out.1.n3; omega), ?_⟩
          refine H4.out.2.1.kept (fun b e => ?_)
          have h1 := H4.out.2.2.2.1 b e
          have h2 := H4.out.2.1.lt e
          have h3 : ¬ Sf h r b := fun hb => by have := HB1.out.2 b hb; omega
          exact (hC6.block b (Nat.lt_of_lt_of_le h2 H5.out.2.1.size) (fun hb => h3 (.inr hb))).trans (H5.out.2.1.block b h2 (fun hb => h3 (.inl hb)))
        clear CB hk6 hC6 hE6 y2 H5
        go_upto_region 8 with (go_at_call 6; refine (num_any _ _).mono ?_; rintro e w' ⟨rfl, hw⟩; obtain rfl : w6 = w' := hw.symm)
        go_wp2
        go_loopw [13] (fun s13 wr => ∃ i : Nat, s13 = .int .i64 (i : Int) ∧ Hid (i ≤ om ∧ ∃ bs : List UInt8, bs.length = om ∧ Ob wr (.slice a4 om c4) g4 bs ∧ Chg (fun k => some k = g4) w6 wr)) (fun i _ => om - (intOf i).toNat)
        case atStart => exact ⟨0, rfl, Nat.zero_le _, oB, HO.out.1.1, H6.out.2, Chg.refl _ _⟩
        case round =>
          obtain ⟨i, rfl, hI⟩ := hrel
          by_cases hlt : i < om
          · have hlt' : (i : Int) < (om : Int) := by omega
            obtain ⟨bs, hbl, ho, hC⟩ := hI.out.2
            rcases id ho with ⟨ea, -, -⟩ | ⟨b, o, cap, cur, e, hgb, h3, h4, h5, h6, h7⟩
            · exfalso
              simp only [Value.slice.injEq] at ea
              omega
            · simp only [Value.slice.injEq] at e
              obtain ⟨rfl, -, rfl⟩ := e
              obtain ⟨c, hc⟩ : ∃ c, c = bs[i]'(by omega) := ⟨_, rfl⟩
              have k0 : wr.cell? ⟨b, o + i, none⟩ = some (.int .u8 (c.toNat : Int)) := by rw [hc]; exact bl_cell h3 _ _ (h7 i (by omega))
              have kf := bl_open h3 (o + i)
              obtain ⟨c', hc'⟩ : ∃ c' : UInt8, IntKind.u8.wrap ((c.toNat : Int) + 1) = (c'.toNat : Int) := ⟨c + 1, by
                have h1 := c.toNat_lt
                simp only [IntKind.wrap_u8, UInt8.toNat_add, UInt8.reduceToNat]
                omega⟩
              have FIN : Hid (i + 1 ≤ om ∧ ∃ bs : List UInt8, bs.length = om ∧ Ob (wr.setCell ⟨b, o + i, none⟩ (.int .u8 (c'.toNat : Int))) (.slice (some ⟨b, o, none⟩) om c4) g4 bs ∧ Chg (fun k => some k = g4) w6 (wr.setCell ⟨b, o + i, none⟩ (.int .u8 (c'.toNat : Int)))) :=
                ⟨hlt, bs.set i c', by rw [List.length_set, hbl], ho.set_at i (by omega) c', hC.trans (chg_set _ _ _ _) (fun _ _ e => e) (fun k _ (e : k = b) => by rw [e, hgb])⟩
              have hwi : IntKind.i64.wrap ((i : Int) + 1) = ((i + 1 : Nat) : Int) := by have := HO.out; rw [IntKind.wrap_i64]; omega
              have HME : Hid (om - ((i : Int) + 1).toNat < om - ((i : Int)).toNat) := by exact (show om - ((i : Int) + 1).toNat < om - ((i : Int)).toNat by omega)
              clear hbl ho hC h3 h4 h5 h6 h7 hgb hc
              go_wp2
              go_roundw
              case rel => exact ⟨i + 1, rfl, FIN.out⟩
              case measure => exact HME.out
          · have hlt' : ¬ (i : Int) < (om : Int) := by omega
            have FIN : Hid (Sp h r (n + 1) W1 wr) := by
              obtain ⟨bs, hbl, ho, hC⟩ := hI.out.2
              exact Sp.other H4.out.2.2.1 H6.out.1 hC (fun k e => ⟨H4.out.2.2.2.1 k e.symm, H4.out.2.1.lt e.symm⟩) HB1.out.2
            clear hlt
            go_wp2
            go_meet
            exact ⟨rfl, FIN.out⟩
        -- </k0>
    · by_cases k1 : kd = 1
      · as_aux_lemma => -- <k1>
          subst k1
          have CS := dsync_any h no nf d W1 HP.out.a (by have := HP.out.n1; have := HO.out; omega)
          clear e2 e3 e4 k0
          go_wp2_with (first
            | (go_at_call 17; refine CS.mono ?_; rintro e w5 ⟨rfl, mf5, no5, nf5, hd5, hC5, hm5, hn5⟩)
            | (go_at_call 6; refine (num_any _ _).mono ?_; rintro e w' ⟨rfl, hw⟩; obtain rfl : w5 = w' := hw.symm)
            | (go_at_call 18; refine (rsync_any r no' nf' d w5 (HP.out.b.apart hC5 (fun k hk hb => HP.out.ap k hb hk)) HP.out.dok (by have := HP.out.n2; have := HO.out; omega)).mono ?_; rintro e w6 ⟨rfl, hk6, hC6⟩))
          go_meet
          exact ⟨by simp, Sp.both HP.out hd5 hC5 (fun k hk => Wh.has_mf hk hm5) rfl (Below.refl _ _) hk6 hC6 (fun k hk => .inl hk) rfl HP.out.c.sync (by have := HP.out.n1; omega) (by have := HP.out.n2; omega) (by have := HP.out.n3; omega)⟩
          -- </k1>
      · by_cases k2 : kd = 2
        · as_aux_lemma => -- <k2>
            subst k2
            have CC := dcut_any h no nf d on W1.drew (HP.out.later (Below.refl _ _).drew).a
            have e1d : W1.drew.cell? ⟨bx, 1, none⟩ = some (.int .i64 on) := e1
            clear e2 e3 e4 k0 k1
            go_wp2
            go_region_held2 (fun W => W.cell? ⟨bx, 1, none⟩ = some (.int .i64 on))
              (first | exact e1d | exact hC5.cell (fun hb => HBX.out.2 (.inl hb)) e1d | exact hC6.cell (fun hb => HBX.out.2 (.inr hb)) (hC5.cell (fun hb => HBX.out.2 (.inl hb)) e1d))
              (first
                | (go_at_call 19; refine CC.mono ?_; rintro e w5 ⟨rfl, hd5, hC5⟩)
                | (go_at_call 6; refine (num_any _ _).mono ?_; rintro e w' ⟨rfl, hw⟩; obtain rfl : w5 = w' := hw.symm)
                | (go_at_call 20; refine (rcut_any r no' nf' d on w5 ((HP.out.later (Below.refl _ _).drew).b.apart hC5 (fun k hk hb => HP.out.ap k hb hk)) HP.out.dok).mono ?_; rintro e w6 ⟨rfl, hk6, hC6⟩))
            all_goals
              go_wp2
              go_meet
              exact ⟨by simp, (Sp.both (HP.out.later (Below.refl _ _).drew) hd5 hC5 (fun k hk => .inl hk) rfl (Below.refl _ _) hk6 hC6 (fun k hk => .inl hk) rfl (HP.out.c.cut on) (by have := HP.out.n1; omega) (by have := HP.out.n2; omega) (by have := HP.out.n3; omega)).since (Below.refl _ _).drew⟩
            -- </k2>
        · by_cases k3 : kd = 3
          · as_aux_lemma => -- <k3>
              subst k3
              have CC := dretire_any h no nf d on HO.out.2.2.2.1 W1.drew (HP.out.later (Below.refl _ _).drew).a
              have e1d : W1.drew.cell? ⟨bx, 1, none⟩ = some (.int .i64 on) := e1
              clear e2 e3 e4 k0 k1 k2
              go_wp2
              go_region_held2 (fun W => W.cell? ⟨bx, 1, none⟩ = some (.int .i64 on))
                (first | exact e1d | exact hC5.cell (fun hb => HBX.out.2 (.inl hb)) e1d | exact hC6.cell (fun hb => HBX.out.2 (.inr hb)) (hC5.cell (fun hb => HBX.out.2 (.inl hb)) e1d))
                (first
                  | (go_at_call 21; refine CC.mono ?_; rintro e w5 ⟨rfl, hd5, hC5⟩)
                  | (go_at_call 6; refine (num_any _ _).mono ?_; rintro e w' ⟨rfl, hw⟩; obtain rfl : w5 = w' := hw.symm)
                  | (go_at_call 22; refine (rretire_any r no' nf' d on w5 ((HP.out.later (Below.refl _ _).drew).b.apart hC5 (fun k hk hb => HP.out.ap k hb hk)) HP.out.dok).mono ?_; rintro e w6 ⟨rfl, a6, c6, hk6, hC6, hE6⟩))
              all_goals
                go_wp2
                go_meet
                exact ⟨by simp, (Sp.both (HP.out.later (Below.refl _ _).drew) hd5 hC5 (fun k hk => .inl hk) rfl (Below.refl _ _) hk6 hC6 (fun k hk => Rf.has_a hk hE6) rfl (HP.out.c.retire on) (by have := HP.out.n1; omega) (by have := HP.out.n2; omega) (by have := HP.out.n3; omega)).since (Below.refl _ _).drew⟩
              -- </k3>
          · by_cases k4 : kd = 4
            · as_aux_lemma => -- <k4>
                subst k4
                have CB1 := block_any 4 on oa om oc otn (.slice ofo ofn ofc) oB W1.drew HO.out.1 HO.out.2.2.2.2.1
                have HE : Hid (∀ W : World, (∀ o v, W1.cell? ⟨bx, o, none⟩ = some v → W.cell? ⟨bx, o, none⟩ = some v) → W.cell? ⟨bx, 0, none⟩ = some (.int .i64 4) ∧ W.cell? ⟨bx, 1, none⟩ = some (.int .i64 on) ∧ W.cell? ⟨bx, 2, none⟩ = some (.slice oa om oc) ∧ W.cell? ⟨bx, 3, none⟩ = some (.bool otn) ∧ W.cell? ⟨bx, 4, none⟩ = some (.slice ofo ofn ofc)) :=
                  fun W h => ⟨h 0 _ e0, h 1 _ e1, h 2 _ e2, h 3 _ e3, h 4 _ e4⟩
                have hbx1 : bx < W1.heap.size := HBX.out.1
                have HBL : Hid (bx < W1.heap.size) := hbx1
                clear k0 k1 k2 k3 hbx1 e1 e2 e3 e4
                go_wp2
                clear e0
                go_region_held2 (fun W => W.cell? ⟨bx, 0, none⟩ = some (.int .i64 4) ∧ W.cell? ⟨bx, 1, none⟩ = some (.int .i64 on) ∧ W.cell? ⟨bx, 2, none⟩ = some (.slice oa om oc) ∧ W.cell? ⟨bx, 3, none⟩ = some (.bool otn) ∧ W.cell? ⟨bx, 4, none⟩ = some (.slice ofo ofn ofc))
                  (first
                    | exact HE.out _ (fun o v hv => hv)
                    | exact HE.out _ (fun o v hv => (b5.cell (p := ⟨bx, o, none⟩) HBL.out).trans hv)
                    | exact HE.out _ (fun o v hv => hC6.cell (fun hb => HBX.out.2 (.inl hb)) ((b5.cell (p := ⟨bx, o, none⟩) HBL.out).trans hv))
                    | exact HE.out _ (fun o v hv => (b7.cell (p := ⟨bx, o, none⟩) (Nat.lt_of_lt_of_le HBL.out (Nat.le_trans b5.size hC6.size))).trans (hC6.cell (fun hb => HBX.out.2 (.inl hb)) ((b5.cell (p := ⟨bx, o, none⟩) HBL.out).trans hv)))
                    | exact HE.out _ (fun o v hv => hC8.cell (fun hb => HBX.out.2 (.inr hb)) ((b7.cell (p := ⟨bx, o, none⟩) (Nat.lt_of_lt_of_le HBL.out (Nat.le_trans b5.size hC6.size))).trans (hC6.cell (fun hb => HBX.out.2 (.inl hb)) ((b5.cell (p := ⟨bx, o, none⟩) HBL.out).trans hv)))))
                  (first
                    | (go_at_call 24; refine CB1.mono ?_; rintro e w5 ⟨a5, n5, c5, rfl, r5, b5, ha5, hn5⟩)
                    | (go_at_call 23; refine (dwrite_any h no nf d on HO.out.2.2.2.1 a5 n5 c5 (bb otn oB) w5 ((HP.out.later (Below.refl _ _).drew).later b5).a r5 (fun hp b off e hb => (ha5 b off hp e).elim (fun q => (HS.out.1 q.1 b off q.2).1 (.inl hb)) (fun q => by have h1 := HP.out.lt (.inl hb); have h2 : W1.heap.size ≤ b := q; omega)) (by have := HP.out.n1; have := HO.out; omega) (by omega)).mono ?_; rintro e w6 ⟨rfl, nf6, hd6, hC6, hn6⟩)
                    | (go_at_call 6; refine (num_any _ _).mono ?_; rintro e w' ⟨rfl, hw⟩; obtain rfl : w6 = w' := hw.symm)
                    | (go_at_call 24; refine (block_any 4 on oa om oc otn (.slice ofo ofn ofc) oB w6 ((Rd.later (w := W1.drew) HO.out.1 b5).chg hC6 (fun hp b off e hb => (HS.out.1 hp b off e).1 (.inl hb))) HO.out.2.2.2.2.1).mono ?_; rintro e w7 ⟨a7, n7, c7, rfl, r7, b7, ha7, hn7⟩)
                    | (go_at_call 25; refine (rwrite_any r no' nf' d on HO.out.2.2.2.1 a7 n7 c7 (bb otn oB) w7 ((((HP.out.later (Below.refl _ _).drew).later b5).b.apart hC6 (fun k hk hb => HP.out.ap k hb hk)).later b7) HP.out.dok r7 (fun hp b off e hb => (ha7 b off hp e).elim (fun q => (HS.out.1 q.1 b off q.2).1 (.inr hb)) (fun q => by have h1 := HP.out.lt (.inr hb); have h2 := b5.size; have h3 := hC6.size; have h4 : W1.heap.size ≤ w5.heap.size := h2; omega)) (by have := HP.out.n3; have := HO.out; omega) (by omega)).mono ?_; rintro e w8 ⟨rfl, hk8, hC8⟩))
                all_goals
                  go_wp2
                  go_meet
                  exact ⟨by simp, (Sp.both ((HP.out.later (Below.refl _ _).drew).later b5) hd6 hC6 (fun k hk => .inl hk) rfl b7 hk8 hC8 (fun k hk => .inl hk) rfl (HP.out.c.write on _) (by have := HP.out.n1; omega) (by have := HP.out.n2; omega) (by have := HP.out.n3; omega)).since ⟨b5.os, b5.tape, b5.output, b5.size, b5.block⟩⟩
                -- </k4>
            · by_cases k5 : kd = 5
              · as_aux_lemma => -- <k5>
                  subst k5
                  have CF := fuse_any h no nf d on HO.out.2.2.2.1.2 W1 HP.out.a
                  clear e2 e3 e4 k0 k1 k2 k3 k4
                  go_upto_region 22 with (go_at_call 26; refine CF.mono ?_; rintro e w5 ⟨⟨v5, rfl⟩, hd5, hC5⟩)
                  have hk5 := HP.out.b.apart hC5 (fun k hk hb => HP.out.ap k hb hk)
                  have x1 : w5.cell? ⟨bx, 1, none⟩ = some (.int .i64 on) := hC5.cell (fun hb => HBX.out.2 (.inl hb)) e1
                  have f2 := bl_open hk5.b 2
                  have c2 := hk5.c2
                  have hC6 := chg_set w5 r.R 2 (.int .i64 (max (-1) on))
                  have hk6 : RkW (w5.setCell ⟨r.R, 2, none⟩ (.int .i64 (max (-1) on))) r no' nf' { d with left := on } := hk5.turn (d' := { d with left := on }) hC6 (bl_set hk5.b 2 _) rfl rfl rfl
                  have FIN : Hid (Sp h r (n + 1) W1 (w5.setCell ⟨r.R, 2, none⟩ (.int .i64 (max (-1) on)))) :=
                    Sp.both HP.out hd5 hC5 (fun k hk => .inl hk) rfl (Below.refl _ _) hk6 (hC6.mono (fun k _ e => .inl e)) (fun k hk => .inl hk) rfl (HP.out.c.same rfl rfl) (by have := HP.out.n1; omega) (by have := HP.out.n2; omega) (by have := HP.out.n3; omega)
                  clear CF hd5 hC5 hk5 hC6 hk6 e1
                  go_wp2
                  go_meet
                  exact ⟨rfl, FIN.out⟩
                  -- </k5>
              · by_cases k6 : kd = 6
                · as_aux_lemma => -- <k6>
                    subst k6
                    obtain ⟨a4, c4, W4, hrun4, hf4, hc4, b4, nR4⟩ := copied_ints W1.drew ofo ofn ofc zs (HO.out.2.1.chg (chg_of_below (S := fun _ => False) (Below.refl _ W1).drew) (fun _ _ _ _ e => e)) (by have := HO.out; omega)
                    have A1 : Below W1.heap.size W1 (W1.alloc (.cells #[] 3)) := (Below.refl _ W1).alloc (Nat.le_refl _) _
                    have e1a : (W1.alloc (.cells #[] 3)).cell? ⟨bx, 1, none⟩ = some (.int .i64 on) := (A1.cell (p := ⟨bx, 1, none⟩) HBX.out.1).trans e1
                    have e3a : (W1.alloc (.cells #[] 3)).cell? ⟨bx, 3, none⟩ = some (.bool otn) := (A1.cell (p := ⟨bx, 3, none⟩) HBX.out.1).trans e3
                    have e4a : (W1.alloc (.cells #[] 3)).cell? ⟨bx, 4, none⟩ = some (.slice ofo ofn ofc) := (A1.cell (p := ⟨bx, 4, none⟩) HBX.out.1).trans e4
                    have b4' : Below W1.heap.size W1 W4 := ⟨b4.os, b4.tape, b4.output, b4.size, b4.block⟩
                    have x1 : W4.cell? ⟨bx, 1, none⟩ = some (.int .i64 on) := (b4'.cell (p := ⟨bx, 1, none⟩) HBX.out.1).trans e1
                    have x3 : W4.cell? ⟨bx, 3, none⟩ = some (.bool otn) := (b4'.cell (p := ⟨bx, 3, none⟩) HBX.out.1).trans e3
                    have x4 : W4.cell? ⟨bx, 4, none⟩ = some (.slice ofo ofn ofc) := (b4'.cell (p := ⟨bx, 4, none⟩) HBX.out.1).trans e4
                    have P4 := HP.out.later b4'
                    have CC := dcrash_any h no nf d on otn a4 ofn c4 zs W4 P4.a (by have := HP.out.n1; have := HO.out; omega) hf4 (fun _ b off e hb => by have h1 := (nR4 b off e).1; have h2 := HB1.out.2 b (.inl hb); have h3 : W1.heap.size ≤ b := h1; omega)
                    have H4 : Hid (Pr W4 h r no nf no' nf' n d ∧ Below W1.heap.size W1 W4) := ⟨P4, b4'⟩
                    have n1 : ¬ bx = W1.heap.size := by have := HBX.out.1; omega
                    have n2 : ¬ W1.heap.size = bx := by omega
                    have mixed : Try.prog.follows .mixedOrders = true := by kernel_rfl
                    have HX : Hid (W4.cell? ⟨bx, 1, none⟩ = some (.int .i64 on) ∧ W4.cell? ⟨bx, 3, none⟩ = some (.bool otn) ∧ W4.cell? ⟨bx, 4, none⟩ = some (.slice ofo ofn ofc)) := ⟨x1, x3, x4⟩
                    clear k0 k1 k2 k3 k4 k5 e2 hf4 hc4 b4 nR4 A1 b4' P4
                    go_upto_region 24 with fail
                    go_cut [7] from 26 (fun s7 wx => s7 = .bool true ∧ ∃ old' mf', Crashed d.fresh d.old zs old' ∧ DkW wx { h with mf := mf' } (no + nf) 0 { d with lo := d.lo.crash on otn, old := old', fresh := none', off := false, left := -1 } ∧ Chg h.has W4 wx ∧ W4.heap.size ≤ mf')
                    case first =>
                      go_region_held3 (fun W => W.cell? ⟨bx, 1, none⟩ = some (.int .i64 on) ∧ W.cell? ⟨bx, 3, none⟩ = some (.bool otn) ∧ W.cell? ⟨bx, 4, none⟩ = some (.slice ofo ofn ofc))
                        (first
                          | exact ⟨e1, e3, e4⟩
                          | exact ⟨e1a, e3a, e4a⟩
                          | exact HX.out
                          | exact ⟨H5c.cell (fun hb => HBX.out.2 (.inl hb)) HX.out.1, H5c.cell (fun hb => HBX.out.2 (.inl hb)) HX.out.2.1, H5c.cell (fun hb => HBX.out.2 (.inl hb)) HX.out.2.2⟩)
                        (first
                          | (go_at_call 13; refine CC.mono ?_; rintro e w5 ⟨⟨v5, rfl⟩, H5⟩; have H5c : Chg h.has W4 w5 := (fun ⟨_, _, q⟩ => q.2.2.1) H5)
                          | (refine step_append_run (by rfl) _ _ _ _ (by rfl) _ _ (by rfl) (by rfl) hrun4 ?_))
                      all_goals
                        go_wp2
                        go_meet
                        exact ⟨rfl, H5⟩
                    case rest =>
                      obtain ⟨hs7, old', mf', hcr, hd5, hC5, hm5⟩ := hcut
                      subst hs7
                      obtain ⟨ks, hks, rfl⟩ := hcr
                      have y1 : wc.cell? ⟨bx, 1, none⟩ = some (.int .i64 on) := hC5.cell (fun hb => HBX.out.2 (.inl hb)) HX.out.1
                      have y3 : wc.cell? ⟨bx, 3, none⟩ = some (.bool otn) := hC5.cell (fun hb => HBX.out.2 (.inl hb)) HX.out.2.1
                      have y4 : wc.cell? ⟨bx, 4, none⟩ = some (.slice ofo ofn ofc) := hC5.cell (fun hb => HBX.out.2 (.inl hb)) HX.out.2.2
                      have CB := rcrash_any r no' nf' d on otn ofo ofn ofc zs ks wc (H4.out.1.b.apart hC5 (fun k hk hb => H4.out.1.ap k hb hk)) H4.out.1.dok (by have := HP.out.n2; have := HO.out; omega) ((HO.out.2.1.chg (chg_of_below (S := fun _ => False) H4.out.2) (fun _ _ _ _ e => e)).chg hC5 (fun hp b off e hb => (HS.out.2 hp b off e).1 (.inl hb))) HO.out.2.2.1 (fun hp b off e => ⟨fun hb => (HS.out.2 hp b off e).1 (.inr hb), Nat.lt_of_lt_of_le (Nat.lt_of_lt_of_le (HS.out.2 hp b off e).2 H4.out.2.size) hC5.size⟩) hks
                      have H5 : Hid (DkW wc { h with mf := mf' } (no + nf) 0 { d with lo := d.lo.crash on otn, old := crashTo ks zs d.fresh d.old ks.length, fresh := none', off := false, left := -1 } ∧ Chg h.has W4 wc ∧ W4.heap.size ≤ mf') := ⟨hd5, hC5, hm5⟩
                      clear hks hd5 hC5 hm5 hrun4 e1 e3 e4 e1a e3a e4a x1 x3 x4 CC n1 n2 mixed
                      go_wp2_with (go_at_call 27; refine CB.mono ?_; rintro e w6 ⟨⟨v6, rfl⟩, a6, c6, hk6, hC6, hE6⟩)
                      go_meet
                      exact ⟨rfl, (Sp.both H4.out.1 H5.out.1 H5.out.2.1 (fun k hk => Wh.has_mf hk (.inr H5.out.2.2)) rfl (Below.refl _ _) hk6 hC6 (fun k hk => Rf.has_a hk hE6) rfl (HP.out.c.none rfl rfl) (by have := HP.out.n1; omega) (by have := HP.out.n2; omega) (by have := HP.out.n3; omega)).since H4.out.2⟩
                    -- </k6>
                · -- <k7>
                  clear e2 e3 e4
                  go_wp2
                  go_meet
                  exact ⟨rfl, Sp.none HP.out (Below.refl _ _)⟩
                  -- </k7>
  case rest =>
    as_aux_lemma => -- <tail>
      obtain ⟨hs7, h2, r2, no2, nf2, no2', nf2', d2, P2, eB, eR, hC2, hE2⟩ := hcut
      subst hs7
      have x1 : wc.cell? ⟨bx, 1, none⟩ = some (.int .i64 on) := hC2.cell HBX.out.2 e1
      obtain ⟨pB, hpB⟩ : ∃ pB, pB = h.B := ⟨_, rfl⟩
      obtain ⟨pR, hpR⟩ : ∃ pR, pR = r.R := ⟨_, rfl⟩
      have HEQ : Hid (h2.B = pB ∧ r2.R = pR) := ⟨eB.trans hpB.symm, eR.trans hpR.symm⟩
      rw [← hpB, ← hpR]
      have hwn := HO.out.2.2.2.1
      have HPP : Hid (∀ W, Below wc.heap.size wc W → Pr W h2 r2 no2 nf2 no2' nf2' (n + 1) d2) := fun W hW => P2.later hW
      have HSP : Hid (Sp h r (n + 1) W1 wc) := ⟨h2, r2, no2, nf2, no2', nf2', d2, P2, eB, eR, hC2, hE2⟩
      have HX1 : Hid (∀ W, Below wc.heap.size wc W → W.cell? ⟨bx, 1, none⟩ = some (.int .i64 on)) := fun W hW => (hW.cell (p := ⟨bx, 1, none⟩) (Nat.lt_of_lt_of_le HBX.out.1 hC2.size)).trans x1
      obtain ⟨bs, hbs⟩ : ∃ bs, bs = d2.lo.base := ⟨_, rfl⟩
      have HC4 : Hid (∀ W, Below wc.heap.size wc W → W.cell? ⟨pR, 4, none⟩ = some (.int .i64 bs) ∧ W.cell? ⟨pR, 3, none⟩ = some (.bool d2.off)) := fun W hW => by
        have q := P2.later hW
        rw [← eR.trans hpR.symm, hbs]
        exact ⟨q.b.c4, q.b.c3⟩
      obtain ⟨z1, hz1⟩ : ∃ z, z = (d2.read on).1 := ⟨_, rfl⟩
      obtain ⟨m1, hm1⟩ : ∃ z, z = (d2.read on).2.length := ⟨_, rfl⟩
      obtain ⟨L1, hL1⟩ : ∃ z, z = (d2.read on).2 := ⟨_, rfl⟩
      obtain ⟨z2, hz2⟩ : ∃ z, z = (d2.load on).1 := ⟨_, rfl⟩
      obtain ⟨m2, hm2⟩ : ∃ z, z = (d2.load on).2.length := ⟨_, rfl⟩
      obtain ⟨L2, hL2⟩ : ∃ z, z = (d2.load on).2 := ⟨_, rfl⟩
      obtain ⟨z3, hz3⟩ : ∃ z, z = (d2.read bs).1 := ⟨_, rfl⟩
      obtain ⟨m3, hm3⟩ : ∃ z, z = (d2.read bs).2.length := ⟨_, rfl⟩
      obtain ⟨L3, hL3⟩ : ∃ z, z = (d2.read bs).2 := ⟨_, rfl⟩
      have CR : ∀ W, Below wc.heap.size wc W → Calls Try.prog 14 #[.pointer (some ⟨pB, 0, none⟩), .int .i64 on] W fun e w' => ∃ ao cap, e = .returned (.tuple #[.slice ao m1 cap, .int .i64 z1]) ∧ Rd w' ao m1 cap L1 ∧ Below W.heap.size W w' := fun W hW => by
        have := (dread_any h2 no2 nf2 d2 on W (HPP.out W hW).a)
        rw [HEQ.out.1, ← hm1, ← hL1, ← hz1] at this
        exact this.mono (fun e w' ⟨ao, cap, q1, q2, q3, _⟩ => ⟨ao, cap, q1, q2, q3⟩)
      have CRr : ∀ W, Below wc.heap.size wc W → Calls Try.prog 28 #[.pointer (some ⟨pR, 0, none⟩), .int .i64 on] W fun e w' => ∃ ao cap, e = .returned (.tuple #[.slice ao m1 cap, .int .i64 z1]) ∧ Rd w' ao m1 cap L1 ∧ Below W.heap.size W w' := fun W hW => by
        have := (rread_any r2 no2' nf2' d2 on W (HPP.out W hW).b (HPP.out W hW).dok)
        rw [HEQ.out.2, ← hm1, ← hL1, ← hz1] at this
        exact this
      have CL : ∀ W, Below wc.heap.size wc W → Calls Try.prog 29 #[.pointer (some ⟨pB, 0, none⟩), .int .i64 on] W fun e w' => ∃ ao cap, e = .returned (.tuple #[.slice ao m2 cap, .int .i64 z2]) ∧ Rd w' ao m2 cap L2 ∧ Below W.heap.size W w' := fun W hW => by
        have := (dload_any h2 no2 nf2 d2 on hwn W (HPP.out W hW).a)
        rw [HEQ.out.1, ← hm2, ← hL2, ← hz2] at this
        exact this.mono (fun e w' ⟨ao, cap, q1, q2, q3, _⟩ => ⟨ao, cap, q1, q2, q3⟩)
      have CLr : ∀ W, Below wc.heap.size wc W → Calls Try.prog 30 #[.pointer (some ⟨pR, 0, none⟩), .int .i64 on] W fun e w' => ∃ ao cap, e = .returned (.tuple #[.slice ao m2 cap, .int .i64 z2]) ∧ Rd w' ao m2 cap L2 ∧ Below W.heap.size W w' := fun W hW => by
        have := (rload_any r2 no2' nf2' d2 on hwn W (HPP.out W hW).b)
        rw [HEQ.out.2, ← hm2, ← hL2, ← hz2] at this
        exact this
      have CS : ∀ W, Below wc.heap.size wc W → Calls Try.prog 14 #[.pointer (some ⟨pB, 0, none⟩), .int .i64 bs] W fun e w' => ∃ ao cap, e = .returned (.tuple #[.slice ao m3 cap, .int .i64 z3]) ∧ Rd w' ao m3 cap L3 ∧ Below W.heap.size W w' := fun W hW => by
        have := (dread_any h2 no2 nf2 d2 bs W (HPP.out W hW).a)
        rw [HEQ.out.1, ← hm3, ← hL3, ← hz3] at this
        exact this.mono (fun e w' ⟨ao, cap, q1, q2, q3, _⟩ => ⟨ao, cap, q1, q2, q3⟩)
      have CSr : ∀ W, Below wc.heap.size wc W → Calls Try.prog 28 #[.pointer (some ⟨pR, 0, none⟩), .int .i64 bs] W fun e w' => ∃ ao cap, e = .returned (.tuple #[.slice ao m3 cap, .int .i64 z3]) ∧ Rd w' ao m3 cap L3 ∧ Below W.heap.size W w' := fun W hW => by
        have := (rread_any r2 no2' nf2' d2 bs W (HPP.out W hW).b (HPP.out W hW).dok)
        rw [HEQ.out.2, ← hm3, ← hL3, ← hz3] at this
        exact this
      obtain ⟨fn, hfn⟩ : ∃ fn, fn = d2.lo.fin := ⟨_, rfl⟩
      obtain ⟨of_, hof⟩ : ∃ o, o = d2.off := ⟨_, rfl⟩
      have HB : Hid (∀ W, Below wc.heap.size wc W → Calls Try.prog 31 #[.pointer (some ⟨pB, 0, none⟩)] W fun e w' => e = .returned (.int .i64 bs) ∧ w' = W) := fun W hW => by
        have := base_any h2 no2 nf2 d2 W (HPP.out W hW).a
        rw [HEQ.out.1, ← hbs] at this
        exact this
      have HN : Hid (∀ W, Below wc.heap.size wc W → Calls Try.prog 15 #[.pointer (some ⟨pB, 0, none⟩)] W fun e w' => e = .returned (.int .i64 fn) ∧ Below W.heap.size W w') := fun W hW => by
        have := dend_any h2 no2 nf2 d2 W (HPP.out W hW).a
        rw [HEQ.out.1, ← hfn] at this
        exact this
      have HNr : Hid (∀ W, Below wc.heap.size wc W → Calls Try.prog 32 #[.pointer (some ⟨pR, 0, none⟩)] W fun e w' => e = .returned (.int .i64 fn) ∧ Below W.heap.size W w') := fun W hW => by
        have := rend_any r2 no2' nf2' d2 W (HPP.out W hW).b
        rw [HEQ.out.2, ← hfn] at this
        exact this
      have HD : Hid (∀ W, Below wc.heap.size wc W → Calls Try.prog 33 #[.pointer (some ⟨pB, 0, none⟩)] W fun e w' => e = .returned (.bool of_) ∧ w' = W) := fun W hW => by
        have := down_any h2 no2 nf2 d2 W (HPP.out W hW).a
        rw [HEQ.out.1, ← hof] at this
        exact this
      have HCA : Hid (∀ W, Below wc.heap.size wc W → W.cell? ⟨pR, 4, none⟩ = some (.int .i64 bs) ∧ W.cell? ⟨pR, 3, none⟩ = some (.bool of_)) := fun W hW => by rw [hof]; exact HC4.out W hW
      have HR1 : Hid _ := CR
      have HR2 : Hid _ := CRr
      have HR3 : Hid _ := CL
      have HR4 : Hid _ := CLr
      have HR5 : Hid _ := CS
      have HR6 : Hid _ := CSr
      have c4 := (HCA.out wc (Below.refl _ _)).1
      clear CR CRr CL CLr CS CSr hz1 hm1 hL1 hz2 hm2 hL2 hz3 hm3 hL3 hbs hfn hof hwn hpB hpR P2 eB eR hC2 hE2 e0 e1 e2 e3 e4 HC4 HPP HEQ
      have CA := HR1.out wc (Below.refl _ _)
      go_upto_region 27 with (go_at_call 14; refine CA.mono ?_; rintro e w1 ⟨s1, q1, rfl, r1, b1⟩)
      have HW1 : Hid (Below wc.heap.size wc w1 ∧ Rd w1 s1 m1 q1 L1) := ⟨b1, r1⟩
      have y1 := HX1.out w1 b1
      have CA := HR2.out w1 b1
      clear r1 b1 x1 c4
      go_upto_region 28 with (go_at_call 28; refine CA.mono ?_; rintro e w2 ⟨s2, q2, rfl, r2, b2⟩)
      have HW2 : Hid (Below wc.heap.size wc w2 ∧ Rd w2 s1 m1 q1 L1 ∧ Rd w2 s2 m1 q2 L1) := ⟨HW1.out.1.trans (b2.mono HW1.out.1.size), HW1.out.2.later b2, r2⟩
      have y2 := HX1.out w2 HW2.out.1
      have CA := HR3.out w2 HW2.out.1
      clear r2 b2 y1 HW1
      go_upto_region 29 with (go_at_call 29; refine CA.mono ?_; rintro e w3 ⟨s3, q3, rfl, r3, b3⟩)
      have HW3 : Hid (Below wc.heap.size wc w3 ∧ Rd w3 s1 m1 q1 L1 ∧ Rd w3 s2 m1 q2 L1 ∧ Rd w3 s3 m2 q3 L2) := ⟨HW2.out.1.trans (b3.mono HW2.out.1.size), HW2.out.2.1.later b3, HW2.out.2.2.later b3, r3⟩
      have y3 := HX1.out w3 HW3.out.1
      have CA := HR4.out w3 HW3.out.1
      clear r3 b3 y2 HW2
      go_upto_region 30 with (go_at_call 30; refine CA.mono ?_; rintro e w4 ⟨s4, q4, rfl, r4, b4⟩)
      have HW4 : Hid (Below wc.heap.size wc w4 ∧ Rd w4 s1 m1 q1 L1 ∧ Rd w4 s2 m1 q2 L1 ∧ Rd w4 s3 m2 q3 L2 ∧ Rd w4 s4 m2 q4 L2) := ⟨HW3.out.1.trans (b4.mono HW3.out.1.size), HW3.out.2.1.later b4, HW3.out.2.2.1.later b4, HW3.out.2.2.2.later b4, r4⟩
      have y4 := (HCA.out w4 HW4.out.1).1
      have CA := HR5.out w4 HW4.out.1
      clear r4 b4 y3 HW3
      go_upto_region 31 with (go_at_call 14; refine CA.mono ?_; rintro e w5 ⟨s5, q5, rfl, r5, b5⟩)
      have HW5 : Hid (Below wc.heap.size wc w5 ∧ Rd w5 s1 m1 q1 L1 ∧ Rd w5 s2 m1 q2 L1 ∧ Rd w5 s3 m2 q3 L2 ∧ Rd w5 s4 m2 q4 L2 ∧ Rd w5 s5 m3 q5 L3) := ⟨HW4.out.1.trans (b5.mono HW4.out.1.size), HW4.out.2.1.later b5, HW4.out.2.2.1.later b5, HW4.out.2.2.2.1.later b5, HW4.out.2.2.2.2.later b5, r5⟩
      have y5 := (HCA.out w5 HW5.out.1).1
      have CA := HR6.out w5 HW5.out.1
      clear r5 b5 y4 HW4
      go_upto_region 32 with (go_at_call 28; refine CA.mono ?_; rintro e w6 ⟨s6, q6, rfl, r6, b6⟩)
      have HW6 : Hid (Below wc.heap.size wc w6 ∧ Rd w6 s1 m1 q1 L1 ∧ Rd w6 s2 m1 q2 L1 ∧ Rd w6 s3 m2 q3 L2 ∧ Rd w6 s4 m2 q4 L2 ∧ Rd w6 s5 m3 q5 L3 ∧ Rd w6 s6 m3 q6 L3) := ⟨HW5.out.1.trans (b6.mono HW5.out.1.size), HW5.out.2.1.later b6, HW5.out.2.2.1.later b6, HW5.out.2.2.2.1.later b6, HW5.out.2.2.2.2.1.later b6, HW5.out.2.2.2.2.2.later b6, r6⟩
      clear r6 b6 y5 HW5 CA HR1 HR2 HR3 HR4 HR5 HR6
      obtain ⟨T1, hT1⟩ : ∃ T1 : ByteArray, T1 = ⟨L1.toArray⟩ := ⟨_, rfl⟩
      obtain ⟨T2, hT2⟩ : ∃ T2 : ByteArray, T2 = ⟨L2.toArray⟩ := ⟨_, rfl⟩
      obtain ⟨T3, hT3⟩ : ∃ T3 : ByteArray, T3 = ⟨L3.toArray⟩ := ⟨_, rfl⟩
      have cvs : ∀ {W : World} {ao : Option Addr} {n cap : Nat} {bs : List UInt8}, Rd W ao n cap bs → (convert 32 9 (.slice ao n cap)).run Try.prog W = .ok (.string ⟨bs.toArray⟩) W := fun hW =>
        run_string_of (P := Try.prog) 32 9 5 Try.underlying32 Try.underlying5 Try.underlying9 hW
      have HK : Hid (∀ W, Below w6.heap.size w6 W → Below w6.heap.size w6 W ∧ (convert 32 9 (.slice s1 m1 q1)).run Try.prog W = .ok (.string T1) W ∧ (convert 32 9 (.slice s2 m1 q2)).run Try.prog W = .ok (.string T1) W ∧ (convert 32 9 (.slice s3 m2 q3)).run Try.prog W = .ok (.string T2) W ∧ (convert 32 9 (.slice s4 m2 q4)).run Try.prog W = .ok (.string T2) W ∧ (convert 32 9 (.slice s5 m3 q5)).run Try.prog W = .ok (.string T3) W ∧ (convert 32 9 (.slice s6 m3 q6)).run Try.prog W = .ok (.string T3) W ∧ W.cell? ⟨pR, 4, none⟩ = some (.int .i64 bs) ∧ W.cell? ⟨pR, 3, none⟩ = some (.bool of_)) := fun W hW => by
        rw [hT1, hT2, hT3]
        obtain ⟨g0, g1, g2, g3, g4, g5, g6⟩ := HW6.out
        exact ⟨hW, cvs (g1.later hW), cvs (g2.later hW), cvs (g3.later hW), cvs (g4.later hW), cvs (g5.later hW), cvs (g6.later hW), HCA.out W (g0.trans (hW.mono g0.size))⟩
      have HWB : Hid (∀ W, Below w6.heap.size w6 W → Below wc.heap.size wc W) := fun W hW => HW6.out.1.trans (hW.mono HW6.out.1.size)
      clear hT1 hT2 hT3 cvs HW6
      simp only [List.append_eq, List.cons_append, List.nil_append]
      go_region_held2 (fun W => Below w6.heap.size w6 W ∧ (convert 32 9 (.slice s1 m1 q1)).run Try.prog W = .ok (.string T1) W ∧ (convert 32 9 (.slice s2 m1 q2)).run Try.prog W = .ok (.string T1) W ∧ (convert 32 9 (.slice s3 m2 q3)).run Try.prog W = .ok (.string T2) W ∧ (convert 32 9 (.slice s4 m2 q4)).run Try.prog W = .ok (.string T2) W ∧ (convert 32 9 (.slice s5 m3 q5)).run Try.prog W = .ok (.string T3) W ∧ (convert 32 9 (.slice s6 m3 q6)).run Try.prog W = .ok (.string T3) W ∧ W.cell? ⟨pR, 4, none⟩ = some (.int .i64 bs) ∧ W.cell? ⟨pR, 3, none⟩ = some (.bool of_))
        (first | exact HK.out _ ((Below.refl _ _).drew) | assumption | exact HK.out _ (bp.trans (bE.mono bp.size)))
        (first
          | (go_at_call 6; refine (num_any _ _).mono ?_; rintro e w' ⟨rfl, rfl⟩)
          | (go_at_call 31; refine (HB.out _ (HWB.out _ (show Below w6.heap.size w6 _ ∧ _ ∧ _ from by assumption).1)).mono ?_; rintro e w' ⟨rfl, rfl⟩)
          | (go_at_call 33; refine (HD.out _ (HWB.out _ (show Below w6.heap.size w6 _ ∧ _ ∧ _ from by assumption).1)).mono ?_; rintro e w' ⟨rfl, rfl⟩)
          | (go_at_call 15; have bp := (show Below w6.heap.size w6 _ ∧ _ ∧ _ from by assumption).1; refine (HN.out _ (HWB.out _ bp)).mono ?_; rintro e w' ⟨rfl, bE⟩)
          | (go_at_call 32; have bp := (show Below w6.heap.size w6 _ ∧ _ ∧ _ from by assumption).1; refine (HNr.out _ (HWB.out _ bp)).mono ?_; rintro e w' ⟨rfl, bE⟩))
      all_goals
        go_wp2
        go_ret
        exact ⟨by simp, HFIN.out _ (HSP.out.later (HWB.out _ (show Below w6.heap.size w6 _ ∧ _ ∧ _ from by assumption).1))⟩
      -- </tail>
end Go.Proofs.Ytecgjfghofpjcaa
