/-
  The contracts of the document's Append, Cut and Retire.
-/
import Derived.Test.YtecgjfghofpjcaaDpS
namespace Go.Proofs.Ytecgjfghofpjcaa
open Go.RowKit Go.Maps

theorem rset5 (r : Rf) (d d' : Dk) (ao : Option Addr) (n cap : Nat) (hn : n = d'.lo.bytes.length) (h1 : d'.lo.most = d.lo.most) (h2 : d'.count = d.count) (h3 : d'.left = d.left) (h4 : d'.off = d.off) (h5 : d'.lo.base = d.lo.base) (h6 : d'.lo.sure = d.lo.sure) :
    (rcs r d).setIfInBounds 5 (.slice ao n cap) = rcs { r with ao := ao, cap := cap } d' := by
  simp [rcs, hn, h1, h2, h3, h4, h5, h6]

theorem Chg.drw {S : Nat → Prop} {w w' : World} (h : Chg S w w') : Chg S w w'.drew := ⟨h.os, h.tape, h.output, h.size, h.block⟩

theorem not_has {l : Lo} {a : Int} (h : l.has a = false) (h1 : ¬ a < l.base) : a > l.fin := by
  unfold Lo.has at h
  simp only [Bool.and_eq_false_iff, decide_eq_false_iff_not] at h
  omega

theorem is_has {l : Lo} {a : Int} (h : l.has a = true) : ¬ a < l.base ∧ ¬ a > l.fin := by
  unfold Lo.has at h
  simp only [Bool.and_eq_true, decide_eq_true_eq] at h
  omega

set_option maxRecDepth 20000 in
set_option maxHeartbeats 2000000 in
theorem rappend_any (r : Rf) (no nf : Nat) (d : Dk) (ao : Option Addr) (m cap : Nat) (xs : List UInt8) (w : World) (h : RkW w r no nf d) (hk : Dok d) (hr : Rd w ao m cap xs) (hS : 0 < m → ∀ b off, ao = some ⟨b, off, none⟩ → ¬ r.has b) :
    Calls Try.prog 16 #[.pointer (some ⟨r.R, 0, none⟩), .slice ao m cap] w fun e w' => e = .returned (.tuple #[.int .i64 (d.app xs).1, .int .i64 (d.app xs).2.1]) ∧ ∃ a' c', RkW w' { r with ao := a', cap := c' } no nf (d.app xs).2.2 ∧ Chg r.has w w' ∧ (∀ b off, a' = some ⟨b, off, none⟩ → (∃ off', r.ao = some ⟨b, off', none⟩) ∨ w.heap.size ≤ b) := by
  have c3 := h.c3
  have HF : Hid (RkW w { r with ao := r.ao, cap := r.cap } no nf d) := h
  by_cases hoff : d.off = true
  · have e0 : d.app xs = (0, 9, d) := if_pos hoff
    rw [e0]
    rw [hoff] at c3
    clear h hoff e0 hk hr hS
    go_enter Try.func16, Try.ntmps16
    go_wp2
    go_ret2
    exact ⟨rfl, r.ao, r.cap, HF.out, Chg.refl _ _, fun b off e => .inl ⟨off, e⟩⟩
  · have hoff' : d.off = false := by simpa using hoff
    rw [hoff'] at c3
    have c0 := h.c0
    have c5 := h.c5
    have hml := hk.lo.len'
    have hmo := hk.lo.m2
    have hm1 := hk.lo.m1
    have hxl := hr.1
    obtain ⟨k, hkk⟩ : ∃ k, k = d.lo.bytes.length := ⟨_, rfl⟩
    have hw1 : wrap64 (d.lo.most - (k : Int)) = d.lo.most - (k : Int) := by unfold wrap64; omega
    rw [← hkk] at c5
    by_cases hroom : (d.lo.bytes.length : Int) + xs.length ≤ d.lo.most
    · have g1 : ¬ (m : Int) > d.lo.most - (k : Int) := by omega
      have CO := rop_any r no nf d w h hk.lf
      by_cases hl : d.left = 0
      · have e0 : d.app xs = (0, 9, d.burnt) := by unfold Dk.app; rw [if_neg hoff, if_neg (by simpa using hroom), if_pos hl]
        rw [e0]
        have ed : decide (d.left ≠ 0) = false := by simp [hl]
        rw [ed] at CO
        have CO2 : ∀ {W : World}, W = w.drew → Calls Try.prog 45 #[.pointer (some ⟨r.R, 0, none⟩)] W fun e w' => e = .returned (.bool false) ∧ RkW w' r no nf d.burnt ∧ Chg (fun k => k = r.R) W w' := by
          rintro W rfl
          have := rop_any r no nf d w.drew (h.kept (Nat.le_refl _) (fun _ _ => rfl)) hk.lf
          rw [ed] at this
          exact this
        clear h hoff hoff' e0 hk hr hS hroom hl hml hmo hm1 hxl hkk CO
        go_enter Try.func16, Try.ntmps16
        go_wp2
        go_region
        go_wp2_with (go_at_call 45; refine (CO2 rfl).mono ?_; rintro e w2 ⟨rfl, h2, hC2⟩)
        go_ret2
        exact ⟨rfl, r.ao, r.cap, h2, (chg_of_below (S := r.has) (Below.refl _ w).drew).trans hC2 (fun _ _ e => e) (fun k _ e => .inl e), fun b off e => .inl ⟨off, e⟩⟩
      · have e0 : d.app xs = (d.lo.fin, 0, { d.burnt with lo := { d.lo with bytes := d.lo.bytes ++ xs } }) := by unfold Dk.app; rw [if_neg hoff, if_neg (by simpa using hroom), if_neg hl]
        rw [e0]
        have ed : decide (d.left ≠ 0) = true := by simp [hl]
        have CO2 : ∀ {W : World}, W = w.drew → Calls Try.prog 45 #[.pointer (some ⟨r.R, 0, none⟩)] W fun e w' => e = .returned (.bool true) ∧ RkW w' r no nf d.burnt ∧ Chg (fun k => k = r.R) W w' := by
          rintro W rfl
          have := rop_any r no nf d w.drew (h.kept (Nat.le_refl _) (fun _ _ => rfl)) hk.lf
          rw [ed] at this
          exact this
        have HR : Hid (Rd w ao m cap xs) := hr
        have HS : Hid (0 < m → ∀ b off, ao = some ⟨b, off, none⟩ → ¬ r.has b) := hS
        have HN : Hid (d.lo.bytes.length = k ∧ k ≤ 16777216 ∧ xs.length = m ∧ k + m ≤ 16777216) := ⟨hkk.symm, by omega, hxl, by omega⟩
        clear h hoff hoff' e0 hk hr hS hroom hl hml hmo hm1 hxl hkk CO ed
        go_enter Try.func16, Try.ntmps16
        go_wp2
        go_region
        go_upto_region 7 with (go_at_call 45; refine (CO2 rfl).mono ?_; rintro e w2 ⟨rfl, h2, hC2⟩)
        have CE := rend_any r no nf d.burnt w2 h2
        have HC2 : Hid (RkW w2 r no nf d.burnt ∧ Chg r.has w w2) := ⟨h2, (chg_of_below (S := r.has) (Below.refl _ w).drew).trans hC2 (fun _ _ e => e) (fun k _ e => .inl e)⟩
        clear h2 hC2 CO2
        go_upto_region 8 with (go_at_call 32; refine CE.mono ?_; rintro e w3 ⟨rfl, b3⟩)
        have h3 := HC2.out.1.later b3
        have HC3 : Hid (Chg r.has w w3) := HC2.out.2.trans (chg_of_below (S := r.has) b3) (fun _ _ e => e) (fun _ _ e => e)
        have d5 := h3.c5
        have hl3 : Rd w3 r.ao k r.cap d.lo.bytes := by have := h3.l; rw [show d.burnt.lo.bytes.length = k from HN.out.1] at this; exact this
        rw [show d.burnt.lo.bytes.length = k from HN.out.1] at d5
        have hr3 : Rd w3 ao m cap xs := HR.out.chg HC3.out HS.out
        obtain ⟨a4, c4, W4, g4, hrun4, ho4, -, b4, -, hg4⟩ := copied w3 r.ao k r.cap d.lo.bytes hl3 (by have := HN.out; omega)
        obtain ⟨i0, hi, hz0, hz1, hz2⟩ := info_parts (show (Try.prog.info? 5).map (fun i => (i.zero, i.size, i.bytes)) = some (some (.int .u8 0), 1, 1) by kernel_rfl)
        obtain ⟨v5, W5, g5, hrun5, ho5, hC5, hg5⟩ := run_append_ob (P := Try.prog) 32 32 32 i0 _ Try.underlying32 hi hz0 hz1 hz2 rfl _ g4 d.lo.bytes ho4 (.slice ao m cap) m xs (src_of_rd Try.underlying32 (hr3.later b4)) (by have := HN.out; omega)
        have b5 : Below w3.heap.size w3 W5 := b4.trans (hC5.below b4.size (fun k e => hg4 k e.symm))
        have gl5 : ∀ b, g5 = some b → w3.heap.size ≤ b := fun b e => by
          rcases hg5 with e1 | e1
          · rw [e1] at e; exact hg4 b e
          · rw [e1] at e; cases e; exact b4.size
        obtain ⟨a5, q5, rfl, hR5, -, -⟩ := ho5.form
        have hlen : (d.lo.bytes ++ xs).length = k + m := by rw [List.length_append, HN.out.1, HN.out.2.2.1]
        rw [hlen] at hrun5 hR5 ho5
        have h5 := h3.later b5
        have f5 := bl_open h5.b 5
        have e5 : W5.cell? ⟨r.R, 5, none⟩ = some (.slice r.ao k r.cap) := (b5.cell (p := ⟨r.R, 5, none⟩) (bl_lt h3.b)).trans d5
        have FIN : Hid (RkW (W5.setCell ⟨r.R, 5, none⟩ (.slice a5 (k + m) q5)) { r with ao := a5, cap := q5 } no nf { d.burnt with lo := { d.lo with bytes := d.lo.bytes ++ xs } } ∧ Chg r.has w (W5.setCell ⟨r.R, 5, none⟩ (.slice a5 (k + m) q5)) ∧ (∀ b off, a5 = some ⟨b, off, none⟩ → (∃ off', r.ao = some ⟨b, off', none⟩) ∨ w.heap.size ≤ b)) := by
          have hC6 := chg_set W5 r.R 5 (.slice a5 (k + m) q5)
          have hb6 := bl_set h5.b 5 (.slice a5 (k + m) q5)
          rw [rset5 r d.burnt { d.burnt with lo := { d.lo with bytes := d.lo.bytes ++ xs } } a5 (k + m) q5 hlen.symm rfl rfl rfl rfl rfl rfl] at hb6
          have nR : ∀ b off, a5 = some ⟨b, off, none⟩ → w3.heap.size ≤ b ∧ b < W5.heap.size := fun b off e => ⟨gl5 b (ho5.blk e), ho5.lt (ho5.blk e)⟩
          have hR6 : Rd (W5.setCell ⟨r.R, 5, none⟩ (.slice a5 (k + m) q5)) a5 (k + m) q5 (d.lo.bytes ++ xs) := hR5.chg hC6 (fun _ b off e => by have := (nR b off e).1; have := bl_lt h3.b; omega)
          refine ⟨?_, HC3.out.trans ((chg_of_below (S := fun k => k = r.R) b5).trans hC6 (fun _ _ e => e) (fun _ _ e => e)) (fun _ _ e => e) (fun k _ e => .inl e), fun b off e => .inr (Nat.le_trans HC3.out.size (nR b off e).1)⟩
          have := h3.turnL (d' := { d.burnt with lo := { d.lo with bytes := d.lo.bytes ++ xs } }) a5 q5 ((chg_of_below (S := fun k => k = r.R) b5).trans hC6 (fun _ _ e => e) (fun _ _ e => e)) hb6 (by show Rd _ a5 (d.lo.bytes ++ xs).length q5 _; rw [hlen]; exact hR6) (fun b off e => .inr ⟨(nR b off e).1, Nat.lt_of_lt_of_le (nR b off e).2 hC6.size⟩) rfl rfl
          exact this
        have d5a : (w3.alloc (.cells #[] 5)).cell? ⟨r.R, 5, none⟩ = some (.slice r.ao k r.cap) := (((Below.refl _ w3).alloc (Nat.le_refl _) (.cells #[] 5)).cell (p := ⟨r.R, 5, none⟩) (bl_lt h3.b)).trans d5
        clear h3 hl3 hr3 ho4 b4 hg4 hi hz0 hz1 hz2 ho5 hC5 hg5 b5 gl5 hR5 h5 hlen CE b3 c0 c5 c3 hw1 g1
        go_wp2_with (first | (at_builtin; refine wpList_append_run rfl (.tmp 30) (.tmp 34) _ _ rfl _ _ rfl rfl hrun4 ?_) | (at_builtin; refine wpList_append_run rfl (.tmp 35) (.tmp 36) _ _ rfl _ _ rfl rfl hrun5 ?_))
        go_ret2
        first | exact ⟨rfl, a5, q5, FIN.out⟩ | exact ⟨rfl, a5, ⟨q5, FIN.out.1⟩, FIN.out.2⟩
    · have e0 : d.app xs = (0, 7, d) := by unfold Dk.app; rw [if_neg hoff, if_pos hroom]
      rw [e0]
      have g1 : (m : Int) > d.lo.most - (k : Int) := by omega
      clear h hoff hoff' e0 hk hr hS hroom hml hmo hm1 hxl hkk
      go_enter Try.func16, Try.ntmps16
      go_wp2
      go_region
      go_wp2
      go_ret2
      exact ⟨rfl, r.ao, r.cap, HF.out.kept (Nat.le_refl _) (fun _ _ => rfl), chg_of_below (Below.refl _ w).drew, fun b off e => .inl ⟨off, e⟩⟩

set_option maxRecDepth 20000 in
set_option maxHeartbeats 2000000 in
theorem rcut_any (r : Rf) (no nf : Nat) (d : Dk) (a : Int) (w : World) (h : RkW w r no nf d) (hk : Dok d) :
    Calls Try.prog 20 #[.pointer (some ⟨r.R, 0, none⟩), .int .i64 a] w fun e w' => e = .returned (.int .i64 (d.cut a).1) ∧ RkW w' r no nf (d.cut a).2 ∧ Chg r.has w w' := by
  have c3 := h.c3
  by_cases hoff : d.off = true
  · have e0 : d.cut a = (9, d) := if_pos hoff
    rw [e0]
    rw [hoff] at c3
    have H : Hid (RkW w r no nf d) := h
    clear h hoff e0 hk
    go_enter Try.func20, Try.ntmps20
    go_wp2
    go_ret
    exact ⟨rfl, H.out, Chg.refl _ _⟩
  · have hoff' : d.off = false := by simpa using hoff
    rw [hoff'] at c3
    have c4 := h.c4
    have CE := rend_any r no nf d w h
    by_cases hhas : d.lo.has a = false
    · have e0 : d.cut a = (1, d) := by unfold Dk.cut; rw [if_neg hoff, if_pos hhas]
      rw [e0]
      have H : Hid (RkW w r no nf d) := h
      by_cases hlt : a < d.lo.base
      · clear h hoff hoff' e0 hk hhas CE
        go_enter Try.func20, Try.ntmps20
        go_wp2
        go_ret
        exact ⟨rfl, H.out, Chg.refl _ _⟩
      · have hgt := not_has hhas hlt
        clear h hoff hoff' e0 hk hhas
        go_enter Try.func20, Try.ntmps20
        go_wp2_with (go_at_call 32; refine CE.mono ?_; rintro e w2 ⟨rfl, b2⟩)
        go_ret
        exact ⟨rfl, H.out.later b2, chg_of_below b2⟩
    · have hhas' : d.lo.has a = true := by simpa using hhas
      obtain ⟨g1, g2⟩ := is_has hhas'
      by_cases hl : d.left = 0
      · have e0 : d.cut a = (9, d.burnt) := by unfold Dk.cut; rw [if_neg hoff, if_neg hhas, if_pos hl]
        rw [e0]
        have CO := fun W (hW : Below w.heap.size w W) => rop_any r no nf d W (h.later hW) hk.lf
        have ed : decide (d.left ≠ 0) = false := by simp [hl]
        rw [ed] at CO
        clear h hoff hoff' e0 hk hhas hhas' hl ed
        go_enter Try.func20, Try.ntmps20
        go_wp2_with (first | (go_at_call 32; refine CE.mono ?_; rintro e w2 ⟨rfl, b2⟩) | (go_at_call 45; refine (CO _ b2).mono ?_; rintro e w3 ⟨rfl, h3, hC3⟩))
        go_ret
        exact ⟨rfl, h3, (chg_of_below (S := r.has) b2).trans hC3 (fun _ _ e => e) (fun k _ e => .inl e)⟩
      · obtain ⟨n, hn⟩ : ∃ n, n = (a - d.lo.base).toNat := ⟨_, rfl⟩
        have e0 : d.cut a = (0, { d.burnt with lo := { d.lo with bytes := d.lo.bytes.take n, sure := min d.lo.sure n } }) := by unfold Dk.cut; rw [if_neg hoff, if_neg hhas, if_neg hl, hn]
        rw [e0]
        obtain ⟨q1, q2, q3, q4⟩ := Lo.has_inv hk.lo hhas'
        rw [← hn] at q2 q3 q4
        have CO := fun W (hW : Below w.heap.size w W) => rop_any r no nf d W (h.later hW) hk.lf
        have ed : decide (d.left ≠ 0) = true := by simp [hl]
        rw [ed] at CO
        obtain ⟨B, hB⟩ : ∃ B, B = d.lo.base := ⟨_, rfl⟩
        obtain ⟨m, hm⟩ : ∃ m, m = d.lo.bytes.length := ⟨_, rfl⟩
        obtain ⟨E, hE⟩ : ∃ E, E = d.lo.fin := ⟨_, rfl⟩
        have hml := hk.lo.len'
        have HM : Hid (d.lo.bytes.length = m ∧ m ≤ 16777216 ∧ n ≤ m ∧ d.burnt.lo.base = B ∧ d.burnt.lo.bytes.length = m) := ⟨hm.symm, by omega, by omega, hB.symm, hm.symm⟩
        rw [← hE] at CE g2
        rw [← hB] at c4 q3 g1
        clear h hoff hoff' e0 hk hhas hhas' hl ed hn q1 q2 q4 hB hm hml hE
        go_enter Try.func20, Try.ntmps20
        go_upto_region 7 with (first | (go_at_call 32; refine CE.mono ?_; rintro e w2 ⟨rfl, b2⟩) | (go_at_call 45; refine (CO _ b2).mono ?_; rintro e w3 ⟨rfl, h3, hC3⟩))
        have d4 := h3.c4
        have d5 := h3.c5
        rw [HM.out.2.2.2.1] at d4
        rw [HM.out.2.2.2.2] at d5
        have f5 := bl_open h3.b 5
        have hR3 : Rd w3 r.ao m r.cap d.lo.bytes := by have := h3.l; rw [HM.out.2.2.2.2] at this; exact this
        obtain ⟨hs1, hs2⟩ := slice_hi hR3 n HM.out.2.2.1
        have hb4 := bl_set h3.b 5 (.slice r.ao n r.cap)
        have hC4 := chg_set w3 r.R 5 (.slice r.ao n r.cap)
        have hlt : (d.lo.bytes.take n).length = n := by have := HM.out; rw [List.length_take]; omega
        rw [rset5 r d.burnt { d.burnt with lo := { d.lo with bytes := d.lo.bytes.take n } } r.ao n r.cap hlt.symm rfl rfl rfl rfl rfl rfl] at hb4
        have h4 : RkW (w3.setCell ⟨r.R, 5, none⟩ (.slice r.ao n r.cap)) r no nf { d.burnt with lo := { d.lo with bytes := d.lo.bytes.take n } } :=
          h3.turnL (d' := { d.burnt with lo := { d.lo with bytes := d.lo.bytes.take n } }) r.ao r.cap hC4 hb4 (by
            show Rd _ r.ao (d.lo.bytes.take n).length r.cap _
            rw [hlt]
            exact (hs2 _ hR3).chg hC4 (fun _ b off e => (h3.a b off e).1)) (fun b off e => .inl ⟨off, e⟩) rfl rfl
        obtain ⟨W4, hW4⟩ : ∃ W4, W4 = w3.setCell ⟨r.R, 5, none⟩ (.slice r.ao n r.cap) := ⟨_, rfl⟩
        have HW4 : Hid (RkW W4 r no nf { d.burnt with lo := { d.lo with bytes := d.lo.bytes.take n } } ∧ Chg r.has w W4) := by
          rw [hW4]
          exact ⟨h4, ((chg_of_below (S := r.has) b2).trans hC3 (fun _ _ e => e) (fun k _ e => .inl e)).trans hC4 (fun _ _ e => e) (fun k _ e => .inl e)⟩
        have HEQ : Hid (w3.setCell ⟨r.R, 5, none⟩ (.slice r.ao n r.cap) = W4) := hW4.symm
        clear h3 hC3 hR3 hs2 hb4 hC4 h4 hW4 CE CO b2 c4 c3
        go_region
        rw [HEQ.out]
        have d5' : W4.drew.cell? ⟨r.R, 5, none⟩ = some (.slice r.ao n r.cap) := by have := HW4.out.1.c5; rw [show (d.lo.bytes.take n).length = n from hlt] at this; exact this
        have d6' : W4.drew.cell? ⟨r.R, 6, none⟩ = some (.int .i64 (d.lo.sure : Int)) := HW4.out.1.c6
        have f6' : W4.drew.frozen? ⟨r.R, 6, none⟩ = false := bl_open (w := W4) HW4.out.1.b 6
        clear d5 d4 f5 hs1 HEQ
        go_wp2
        go_region
        go_wp2
        go_ret
        have hC5 := chg_set W4 r.R 6 (.int .i64 ((min d.lo.sure n : Nat) : Int))
        have hb5 := bl_set HW4.out.1.b 6 (.int .i64 ((min d.lo.sure n : Nat) : Int))
        have em : min (d.lo.sure : Int) (n : Int) = ((min d.lo.sure n : Nat) : Int) := by omega
        rw [em]
        exact ⟨rfl, (HW4.out.1.turn (d' := { d.burnt with lo := { d.lo with bytes := d.lo.bytes.take n, sure := min d.lo.sure n } }) hC5 hb5 rfl rfl rfl).kept (Nat.le_refl _) (fun _ _ => rfl), HW4.out.2.trans hC5.drw.drw (fun _ _ e => e) (fun k _ e => .inl e)⟩

set_option maxRecDepth 20000 in
set_option maxHeartbeats 2000000 in
theorem rretire_any (r : Rf) (no nf : Nat) (d : Dk) (a : Int) (w : World) (h : RkW w r no nf d) (hk : Dok d) :
    Calls Try.prog 22 #[.pointer (some ⟨r.R, 0, none⟩), .int .i64 a] w fun e w' => e = .returned (.int .i64 (d.retire a).1) ∧ ∃ a' c', RkW w' { r with ao := a', cap := c' } no nf (d.retire a).2 ∧ Chg r.has w w' ∧ (∀ b off, a' = some ⟨b, off, none⟩ → (∃ off', r.ao = some ⟨b, off', none⟩) ∨ w.heap.size ≤ b) := by
  have c3 := h.c3
  have HF : Hid (RkW w { r with ao := r.ao, cap := r.cap } no nf d) := h
  by_cases hoff : d.off = true
  · have e0 : d.retire a = (9, d) := if_pos hoff
    rw [e0]
    rw [hoff] at c3
    clear h hoff e0 hk
    go_enter Try.func22, Try.ntmps22
    go_wp2
    go_ret
    exact ⟨rfl, r.ao, r.cap, HF.out, Chg.refl _ _, fun b off e => .inl ⟨off, e⟩⟩
  · have hoff' : d.off = false := by simpa using hoff
    rw [hoff'] at c3
    have c4 := h.c4
    have CE := rend_any r no nf d w h
    by_cases hhas : d.lo.has a = false
    · have e0 : d.retire a = (1, d) := by unfold Dk.retire; rw [if_neg hoff, if_pos hhas]
      rw [e0]
      by_cases hlt : a < d.lo.base
      · clear h hoff hoff' e0 hk hhas CE
        go_enter Try.func22, Try.ntmps22
        go_wp2
        go_ret
        exact ⟨rfl, r.ao, r.cap, HF.out, Chg.refl _ _, fun b off e => .inl ⟨off, e⟩⟩
      · have hgt := not_has hhas hlt
        clear h hoff hoff' e0 hk hhas
        go_enter Try.func22, Try.ntmps22
        go_wp2_with (go_at_call 32; refine CE.mono ?_; rintro e w2 ⟨rfl, b2⟩)
        go_ret
        exact ⟨rfl, r.ao, r.cap, HF.out.later b2, chg_of_below b2, fun b off e => .inl ⟨off, e⟩⟩
    · have hhas' : d.lo.has a = true := by simpa using hhas
      obtain ⟨g1, g2⟩ := is_has hhas'
      by_cases hl : d.left = 0
      · have e0 : d.retire a = (9, d.burnt) := by unfold Dk.retire; rw [if_neg hoff, if_neg hhas, if_pos hl]
        rw [e0]
        have CO := fun W (hW : Below w.heap.size w W) => rop_any r no nf d W (h.later hW) hk.lf
        have ed : decide (d.left ≠ 0) = false := by simp [hl]
        rw [ed] at CO
        clear h hoff hoff' e0 hk hhas hhas' hl ed
        go_enter Try.func22, Try.ntmps22
        go_wp2_with (first | (go_at_call 32; refine CE.mono ?_; rintro e w2 ⟨rfl, b2⟩) | (go_at_call 45; refine (CO _ b2).mono ?_; rintro e w3 ⟨rfl, h3, hC3⟩))
        go_ret
        exact ⟨rfl, r.ao, r.cap, h3, (chg_of_below (S := r.has) b2).trans hC3 (fun _ _ e => e) (fun k _ e => .inl e), fun b off e => .inl ⟨off, e⟩⟩
      · obtain ⟨n, hn⟩ : ∃ n, n = (a - d.lo.base).toNat := ⟨_, rfl⟩
        have e0 : d.retire a = (0, { d.burnt with lo := { d.lo with base := a, bytes := d.lo.bytes.drop n, sure := d.lo.sure - n } }) := by unfold Dk.retire; rw [if_neg hoff, if_neg hhas, if_neg hl, hn]
        rw [e0]
        obtain ⟨q1, q2, q3, q4⟩ := Lo.has_inv hk.lo hhas'
        rw [← hn] at q2 q3 q4
        have CO := fun W (hW : Below w.heap.size w W) => rop_any r no nf d W (h.later hW) hk.lf
        have ed : decide (d.left ≠ 0) = true := by simp [hl]
        rw [ed] at CO
        obtain ⟨B, hB⟩ : ∃ B, B = d.lo.base := ⟨_, rfl⟩
        obtain ⟨m, hm⟩ : ∃ m, m = d.lo.bytes.length := ⟨_, rfl⟩
        obtain ⟨E, hE⟩ : ∃ E, E = d.lo.fin := ⟨_, rfl⟩
        have hml := hk.lo.len'
        have hsr := hk.lo.sure
        have hws : IntKind.i64.wrap ((d.lo.sure : Int) - (n : Int)) = (d.lo.sure : Int) - (n : Int) := by rw [IntKind.wrap_i64]; omega
        have HM : Hid (d.lo.bytes.length = m ∧ m ≤ 16777216 ∧ n ≤ m ∧ d.burnt.lo.base = B ∧ d.burnt.lo.bytes.length = m) := ⟨hm.symm, by omega, by omega, hB.symm, hm.symm⟩
        rw [← hE] at CE g2
        rw [← hB] at c4 q3 g1
        clear h hoff hoff' e0 hk hhas hhas' hl ed hn q1 q2 q4 hB hm hml hE hsr
        go_enter Try.func22, Try.ntmps22
        go_upto_region 7 with (first | (go_at_call 32; refine CE.mono ?_; rintro e w2 ⟨rfl, b2⟩) | (go_at_call 45; refine (CO _ b2).mono ?_; rintro e w3 ⟨rfl, h3, hC3⟩))
        have d4 := h3.c4
        have d5 := h3.c5
        rw [HM.out.2.2.2.1] at d4
        rw [HM.out.2.2.2.2] at d5
        have hR3 : Rd w3 r.ao m r.cap d.lo.bytes := by have := h3.l; rw [HM.out.2.2.2.2] at this; exact this
        obtain ⟨x, hs1, hs2⟩ := slice_lo hR3 n HM.out.2.2.1
        have d5a : (w3.alloc (.cells #[] 5)).cell? ⟨r.R, 5, none⟩ = some (.slice r.ao m r.cap) := (((Below.refl _ w3).alloc (Nat.le_refl _) (.cells #[] 5)).cell (p := ⟨r.R, 5, none⟩) (bl_lt h3.b)).trans d5
        obtain ⟨a5, q5, W5, g5, hrun, -, hR5, b5, nR, -⟩ := copied w3 x (m - n) (r.cap - n) (d.lo.bytes.drop n) (hs2 _ hR3) (by have := HM.out; omega)
        have h5 := h3.later b5
        have hlt : (d.lo.bytes.drop n).length = m - n := by have := HM.out; rw [List.length_drop]; omega
        have e5 : W5.cell? ⟨r.R, 5, none⟩ = some (.slice r.ao m r.cap) := (b5.cell (p := ⟨r.R, 5, none⟩) (bl_lt h3.b)).trans d5
        have f5 := bl_open h5.b 5
        have hb6 := bl_set h5.b 5 (.slice a5 (m - n) q5)
        have hC6 := chg_set W5 r.R 5 (.slice a5 (m - n) q5)
        rw [rset5 r d.burnt { d.burnt with lo := { d.lo with bytes := d.lo.bytes.drop n } } a5 (m - n) q5 hlt.symm rfl rfl rfl rfl rfl rfl] at hb6
        have h6 : RkW (W5.setCell ⟨r.R, 5, none⟩ (.slice a5 (m - n) q5)) { r with ao := a5, cap := q5 } no nf { d.burnt with lo := { d.lo with bytes := d.lo.bytes.drop n } } :=
          h3.turnL (d' := { d.burnt with lo := { d.lo with bytes := d.lo.bytes.drop n } }) a5 q5 ((chg_of_below (S := fun k => k = r.R) b5).trans hC6 (fun _ _ e => e) (fun _ _ e => e)) hb6 (by
            show Rd _ a5 (d.lo.bytes.drop n).length q5 _
            rw [hlt]
            exact hR5.chg hC6 (fun _ b off e => by have := (nR b off e).1; have := bl_lt h3.b; omega)) (fun b off e => .inr ⟨(nR b off e).1, Nat.lt_of_lt_of_le (nR b off e).2 hC6.size⟩) rfl rfl
        obtain ⟨W6, hW6⟩ : ∃ W6, W6 = W5.setCell ⟨r.R, 5, none⟩ (.slice a5 (m - n) q5) := ⟨_, rfl⟩
        rw [← hW6] at h6 hC6
        have s6 := h6.c6
        have s4 := h6.c4
        have t6 := bl_open h6.b 6
        have hb7 := bl_set h6.b 6 (.int .i64 ((d.lo.sure - n : Nat) : Int))
        have hC7 := chg_set W6 r.R 6 (.int .i64 ((d.lo.sure - n : Nat) : Int))
        have h7 : RkW (W6.setCell ⟨r.R, 6, none⟩ (.int .i64 ((d.lo.sure - n : Nat) : Int))) { r with ao := a5, cap := q5 } no nf { d.burnt with lo := { d.lo with bytes := d.lo.bytes.drop n, sure := d.lo.sure - n } } :=
          h6.turn (d' := { d.burnt with lo := { d.lo with bytes := d.lo.bytes.drop n, sure := d.lo.sure - n } }) hC7 hb7 rfl rfl rfl
        have hb8 := bl_set h7.b 4 (.int .i64 a)
        have hC8 := chg_set (W6.setCell ⟨r.R, 6, none⟩ (.int .i64 ((d.lo.sure - n : Nat) : Int))) r.R 4 (.int .i64 a)
        have h8 := h7.turn (d' := { d.burnt with lo := { d.lo with base := a, bytes := d.lo.bytes.drop n, sure := d.lo.sure - n } }) hC8 hb8 rfl rfl rfl
        have em : max (0 : Int) ((d.lo.sure : Int) - (n : Int)) = ((d.lo.sure - n : Nat) : Int) := by omega
        have s4' : (W6.setCell ⟨r.R, 6, none⟩ (.int .i64 ((d.lo.sure - n : Nat) : Int))).cell? ⟨r.R, 4, none⟩ = some (.int .i64 d.lo.base) := h7.c4
        have t4' := bl_open h7.b 4
        have FIN : Hid (RkW ((W6.setCell ⟨r.R, 6, none⟩ (.int .i64 ((d.lo.sure - n : Nat) : Int))).setCell ⟨r.R, 4, none⟩ (.int .i64 a)) { r with ao := a5, cap := q5 } no nf { d.burnt with lo := { d.lo with base := a, bytes := d.lo.bytes.drop n, sure := d.lo.sure - n } } ∧ Chg r.has w ((W6.setCell ⟨r.R, 6, none⟩ (.int .i64 ((d.lo.sure - n : Nat) : Int))).setCell ⟨r.R, 4, none⟩ (.int .i64 a)) ∧ (∀ b off, a5 = some ⟨b, off, none⟩ → (∃ off', r.ao = some ⟨b, off', none⟩) ∨ w.heap.size ≤ b)) := by
          have k1 := (chg_of_below (S := r.has) b2).trans hC3 (fun _ _ e => e) (fun k _ e => .inl e)
          have k2 := k1.trans (chg_of_below (S := r.has) b5) (fun _ _ e => e) (fun _ _ e => e)
          have k3 := k2.trans hC6 (fun _ _ e => e) (fun k _ e => .inl e)
          have k4 := k3.trans hC7 (fun _ _ e => e) (fun k _ e => .inl e)
          exact ⟨h8, k4.trans hC8 (fun _ _ e => e) (fun k _ e => .inl e), fun b off e => .inr (Nat.le_trans k1.size (nR b off e).1)⟩
        have HEM : Hid (max (0 : Int) ((d.lo.sure : Int) - (n : Int)) = ((d.lo.sure - n : Nat) : Int)) := em
        have HW6 : Hid (W5.setCell ⟨r.R, 5, none⟩ (.slice a5 (m - n) q5) = W6) := hW6.symm
        clear h3 hC3 hR3 hs2 h5 hR5 b5 nR hb6 hC6 h6 hW6 hb7 hC7 h7 hb8 hC8 h8 em CE CO b2 c4 c3 hlt
        go_upto_region 9 with (at_builtin; refine wpList_append_run rfl (.tmp 32) (.tmp 38) _ _ rfl _ _ rfl rfl hrun ?_)
        rw [HW6.out]
        clear d5 d5a e5 f5 hrun HW6 hs1
        go_upto_region 10 with fail
        rw [HEM.out]
        go_wp2
        go_ret
        first | exact ⟨rfl, a5, q5, FIN.out⟩ | exact ⟨rfl, a5, ⟨q5, FIN.out.1⟩, FIN.out.2⟩
end Go.Proofs.Ytecgjfghofpjcaa
