/-
  The contract of wal.openLog.
-/
import Derived.Test.YtonjjbmjholkjaaGreatDoorWlT
namespace Go.Proofs.YtonjjbmjholkjaaGreatDoor
open Go.RowKit Go.Shelf

theorem ob_form {w : World} {v : Value} {g : Option Nat} {bs : List UInt8} (h : Ob w v g bs) : ∃ a n c, v = .slice a n c := by
  obtain ⟨a, c, e, -⟩ := h.form
  exact ⟨_, _, _, e⟩

/-- Behind openLog. -/
def Opened (w : World) (h : Wh) (no nf : Nat) (lo : Lo) (c : Int) (old : Pf) (L : Nat) (w' : World) : Prop :=
  ∃ vb gb vs Ls s mf' no' nf', w.heap.size ≤ L ∧ Lb w' L h vb vs (endL 0 (rcs 0 lo.bytes)) s ∧ Imv w' w.heap.size vb gb (lo.bytes.take (endL 0 (rcs 0 lo.bytes))) vs Ls (endL 0 (rcs 0 lo.bytes)) ∧
    DkW w' { h with mf := mf' } no' nf' (dk { lo with bytes := lo.bytes.take (endL 0 (rcs 0 lo.bytes)), sure := endL 0 (rcs 0 lo.bytes) } c (over none' old)) ∧ Chg h.has w w' ∧ (mf' = h.mf ∨ w.heap.size ≤ mf') ∧ no' + nf' ≤ no + nf

set_option maxRecDepth 20000 in
set_option maxHeartbeats 4000000 in
theorem openLog_any (h : Wh) (no nf : Nat) (lo : Lo) (c : Int) (old : Pf) (w : World) (hT : Tab w) (hd : DkW w h no nf (dk lo c old)) (hb : lo.base = 0) (hroom : no + nf ≤ 9223372036854775807) :
    Calls Tryz.prog 23 #[.pointer (some ⟨h.B, 0, none⟩)] w fun e w' => ∃ L, e = .returned (.tuple #[.pointer (some ⟨L, 0, none⟩), .int .i64 0]) ∧ Opened w h no nf lo c old L w' := by
  have hlen : lo.bytes.length ≤ 16777216 := by obtain ⟨ok, _⟩ := hd.l; exact ok.len'
  have hhas : lo.has 0 = true := by rw [lo_has lo (by omega) (by omega) hlen]; simp; omega
  have CB := base_any h no nf _ w hd
  have CR := dread_any h no nf (dk lo c old) 0 w hd
  rw [dk_read _ _ _ _ hhas] at CR
  have e0 : (0 - lo.base).toNat = 0 := by omega
  rw [e0, List.drop_zero] at CR
  have eb : (dk lo c old).lo.base = 0 := hb
  rw [eb] at CB
  obtain ⟨t, ht⟩ : ∃ t, t = endL 0 (rcs 0 lo.bytes) := ⟨_, rfl⟩
  have htl : t ≤ lo.bytes.length := by rw [ht]; have := (rcs_end lo.bytes.length 0 lo.bytes (Nat.le_refl _)).2; omega
  have HD : Hid (DkW w h no nf (dk lo c old) ∧ Tab w ∧ lo.base = 0 ∧ lo.bytes.length ≤ 16777216 ∧ no + nf ≤ 9223372036854775807) := ⟨hd, hT, hb, hlen, hroom⟩
  unfold Opened
  rw [← ht]
  have HT : Hid (t = endL 0 (rcs 0 lo.bytes) ∧ t ≤ lo.bytes.length) := ⟨ht, htl⟩
  clear hd hT hb hlen hhas e0 eb ht htl hroom
  obtain ⟨m, hm⟩ : ∃ m, lo.bytes.length = m := ⟨_, rfl⟩
  have HM : Hid (lo.bytes.length = m) := hm
  rw [hm] at CR
  clear hm
  go_enter Tryz.func23, Tryz.ntmps23
  go_wp2_with (first | (go_at_call 44; refine CB.mono ?_; rintro e w' ⟨rfl, hw⟩; obtain rfl : w = w' := hw.symm) | (go_at_call 43; refine CR.mono ?_; rintro e w1 ⟨ao, cap, rfl, hr1, b1, -⟩; have CB1 := base_any h no nf _ w1 (HD.out.1.later b1); rw [show (dk lo c old).lo.base = 0 from HD.out.2.2.1] at CB1; have CI := imageOf_any ao m cap lo.bytes w1 (HD.out.2.1.later b1 HD.out.2.1.pos) hr1 (HM.out ▸ HD.out.2.2.2.1); rw [← HT.out.1] at CI) | (go_at_call 44; refine CB1.mono ?_; rintro e w' ⟨rfl, hw⟩; obtain rfl : w1 = w' := hw.symm) | (go_at_call 45; refine CI.mono ?_; rintro e w2 ⟨vb, gb, vs, Ls, rfl, hI2, b2⟩; obtain ⟨av, nv, cv, rfl⟩ := ob_form hI2.ob; obtain ⟨aw, nw, cw, rfl⟩ := row_form hI2.st))
  obtain ⟨W3, hW3⟩ : ∃ W3, W3 = w2.alloc (.cells #[.pointer (some ⟨h.B, 0, none⟩), .int .i64 0, .slice av nv cv, .slice aw nw cw, .int .i64 (t : Int), .int .i64 0] 72) := ⟨_, rfl⟩
  obtain ⟨L, hLe⟩ : ∃ L, L = w2.heap.size := ⟨_, rfl⟩
  have b3 : Below w2.heap.size w2 W3 := by rw [hW3]; exact (Below.refl _ _).alloc (Nat.le_refl _) _
  have hL3 : Lb W3 L h (.slice av nv cv) (.slice aw nw cw) t 0 := by rw [hW3, hLe]; exact heap_alloc_new w2 _
  rw [← hW3, ← hLe]
  have hB3 : Below w.heap.size w W3 := (b1.trans (b2.mono b1.size)).trans (b3.mono (Nat.le_trans b1.size b2.size))
  have hn3 : w.heap.size ≤ L := by rw [hLe]; exact Nat.le_trans b1.size b2.size
  have hI3 := (hI2.later b3).more (n₀ := w.heap.size) b1.size
  have hd3 := HD.out.1.later hB3
  clear hW3 b3 b1 b2 hI2 hLe hr1 CB CR CB1 CI
  have hLl := bl_lt hL3
  have l0 : W3.cell? ⟨L, 0, none⟩ = some (.pointer (some ⟨h.B, 0, none⟩)) := bl_cell hL3 0 _ rfl
  have l4 : W3.cell? ⟨L, 4, none⟩ = some (.int .i64 (t : Int)) := bl_cell hL3 4 _ rfl
  have CE := dend_any h no nf _ W3.drew (hd3.later (Below.refl _ _).drew)
  have hfin : (dk lo c old).lo.fin = (m : Int) := by
    rw [show (dk lo c old).lo = lo from rfl, lo_fin lo (by have := HD.out.2.2.1; omega) (by have := HD.out.2.2.1; omega) HD.out.2.2.2.1, HD.out.2.2.1, HM.out]
    omega
  rw [hfin] at CE
  have HL : Hid (Lb W3 L h (.slice av nv cv) (.slice aw nw cw) t 0 ∧ Imv W3 w.heap.size (.slice av nv cv) gb lo.bytes (.slice aw nw cw) Ls t ∧ DkW W3 h no nf (dk lo c old) ∧ Below w.heap.size w W3 ∧ w.heap.size ≤ L) := ⟨hL3, hI3, hd3, hB3, hn3⟩
  clear hL3 hI3 hd3 hfin hB3 hn3
  go_region_held3 (fun V => V.cell? ⟨L, 0, none⟩ = some (.pointer (some ⟨h.B, 0, none⟩)) ∧ V.cell? ⟨L, 4, none⟩ = some (.int .i64 (t : Int))) (first | exact ⟨l0, l4⟩ | exact ⟨(b4.cell (p := ⟨L, 0, none⟩) hLl).trans l0, (b4.cell (p := ⟨L, 4, none⟩) hLl).trans l4⟩)
    ((first | (go_at_call 46; refine CE.mono ?_; rintro e w4 ⟨rfl, b4⟩)))
  have b4' : Below W3.heap.size W3 w4 := ⟨b4.os, b4.tape, b4.output, b4.size, b4.block⟩
  have HB4 : Hid (Below W3.heap.size W3 w4) := b4'
  have hL4 := HL.out.1.later b4'
  have hI4 := HL.out.2.1.later b4'
  have hd4 := HL.out.2.2.1.later b4'
  have hB4 := HL.out.2.2.2.1.trans (b4'.mono HL.out.2.2.2.1.size)
  have HL4 : Hid (_ ∧ _ ∧ _ ∧ _) := And.intro hL4 (And.intro hI4 (And.intro hd4 hB4))
  clear CE b4 b4' l0 l4
  by_cases hlt : t < m
  · have hc : decide ((t : Int) < (m : Int)) = true := by simpa using hlt
    have l1 := bl_cell hL4 1 _ rfl
    have l2 := bl_cell hL4 2 _ rfl
    have l3 := bl_cell hL4 3 _ rfl
    have l4 := bl_cell hL4 4 _ rfl
    have ngh : ∀ b, gb = some b → ¬ h.has b := fun b e hk => by have := hI4.hg b e; have := HD.out.1.lt hk; omega
    have nsh : ∀ b, (Value.slice aw nw cw).ownBlock = some b → ¬ h.has b := fun b e hk => by have := (row_own hI4.st e).1; have := HD.out.1.lt hk; omega
    have CC := lcut_any w.heap.size L h no nf lo c old _ gb _ Ls t 0 w4.drew hB4.size (hL4.later (Below.refl _ _).drew) (hI4.later (Below.refl _ _).drew) (hd4.later (Below.refl _ _).drew) HD.out.2.2.1 ngh nsh
    have mixed : Tryz.prog.follows .mixedOrders = true := by kernel_rfl
    clear hL4 hI4 hd4 hB4 ngh nsh
    go_wp2_with fail
    refine some_way (fun a W => ∃ w5 vb5 vs5 Ls5, (Lb w5 L h vb5 vs5 t (t : Int) ∧ Imv w5 w.heap.size vb5 gb (lo.bytes.take t) vs5 Ls5 t ∧ vs5.ownBlock = (Value.slice aw nw cw).ownBlock ∧ DkW w5 h no nf (dk { lo with bytes := lo.bytes.take t, sure := min lo.sure t } c old) ∧ Chg (fun k => k = L ∨ h.has k) w4.drew w5) ∧
      a = { tmps := #[.pointer (some ⟨h.B, 0, none⟩), undef, .pointer none, .int .i64 0, .slice ao m cap, .int .i64 0, .pointer (some ⟨L, 0, none⟩), .int .i64 0, .tuple #[.slice ao m cap, .int .i64 0], .pointer (some ⟨h.B, 0, none⟩), .pointer (some ⟨h.B, 0, none⟩), .int .i64 0, .tuple #[.slice ao m cap, .int .i64 0], .slice ao m cap, .int .i64 0, .int .i64 0, .bool false, undef, .pointer (some ⟨h.B, 0, none⟩), .pointer (some ⟨h.B, 0, none⟩), .int .i64 0, .slice ao m cap, .agg #[.int .i64 0, .slice av nv cv, .slice aw nw cw, .int .i64 (t : Int)], .agg #[.pointer (some ⟨h.B, 0, none⟩), .int .i64 0, .slice av nv cv, .slice aw nw cw, .int .i64 (t : Int), .int .i64 0], .pointer (some ⟨L, 0, none⟩), .pointer (some ⟨L, 0, none⟩), .pointer (some ⟨L, 0, none⟩), .pointer (some ⟨L, 1, none⟩), .pointer (some ⟨L, 4, none⟩), .int .i64 (t : Int), .pointer (some ⟨L, 0, none⟩), .pointer (some ⟨L, 0, none⟩), .pointer (some ⟨L, 0, none⟩), .pointer (some ⟨h.B, 0, none⟩), .int .i64 (m : Int), .bool true, .pointer (some ⟨L, 0, none⟩), .pointer (some ⟨L, 0, none⟩), .pointer (some ⟨L, 0, none⟩), .pointer (some ⟨L, 1, none⟩), .agg #[.int .i64 0, .slice av nv cv, .slice aw nw cw, .int .i64 (t : Int)], .pointer (some ⟨L, 0, none⟩), .pointer (some ⟨L, 0, none⟩), .pointer (some ⟨L, 1, none⟩), .pointer (some ⟨L, 4, none⟩), .int .i64 (t : Int), .int .i64 0, undef, undef, undef, undef, undef, undef], defers := [] } ∧ w5 = W) ?reg ?_
    case reg =>
      refine wp_region_Z (S := fun V : World => V.cell? ⟨L, 1, none⟩ = some (.int .i64 0) ∧ V.cell? ⟨L, 2, none⟩ = some (.slice av nv cv) ∧ V.cell? ⟨L, 3, none⟩ = some (.slice aw nw cw) ∧ V.cell? ⟨L, 4, none⟩ = some (.int .i64 (t : Int))) (z := (zOf [10, 11] [1, 2, 3, 5, 6, 7, 8])) mixed ?_
      have hHeld : (fun V : World => V.cell? ⟨L, 1, none⟩ = some (.int .i64 0) ∧ V.cell? ⟨L, 2, none⟩ = some (.slice av nv cv) ∧ V.cell? ⟨L, 3, none⟩ = some (.slice aw nw cw) ∧ V.cell? ⟨L, 4, none⟩ = some (.int .i64 (t : Int))) _ := ⟨l1, l2, l3, l4⟩
      refine wpAnyZ_pure (i := 1) (oi := { dst := some 37, op := Op.move (Operand.tmp 6), type := 52, pos := "log.go:24", after := #[], guard := none }) (v := ?_) rfl (by kernel_rfl) (by kernel_rfl) (by kernel_rfl) (by decide) (fun _ _ _ h => h) (Or.inl ⟨by rfl, ?_⟩) ?_
      rotate_left
      · (intro W; first | (go_simp; done) | (go_simp; with_reducible rfl))
      try simp only [Act.put, List.setIfInBounds_toArray, List.set_cons_zero, List.set_cons_succ]
      refine wpAnyZ_pure (i := 2) (oi := { dst := some 38, op := Op.nilCheck (Operand.tmp 37), type := 0, pos := "log.go:24", after := #[{ on := 1, ground := Ground.data }], guard := none }) (v := ?_) rfl (by kernel_rfl) (by kernel_rfl) (by kernel_rfl) (by decide) (fun _ _ _ h => h) (Or.inl ⟨by rfl, ?_⟩) ?_
      rotate_left
      · (intro W; first | (go_simp; done) | (go_simp; with_reducible rfl))
      try simp only [Act.put, List.setIfInBounds_toArray, List.set_cons_zero, List.set_cons_succ]
      refine wpAnyZ_pure (i := 3) (oi := { dst := some 39, op := Op.fieldAddr 72 (Operand.tmp 38) 1, type := 0, pos := "log.go:24", after := #[{ on := 2, ground := Ground.data }], guard := none }) (v := ?_) rfl (by kernel_rfl) (by kernel_rfl) (by kernel_rfl) (by decide) (fun _ _ _ h => h) (Or.inl ⟨by rfl, ?_⟩) ?_
      rotate_left
      · (intro W; first | (go_simp; done) | (go_simp; with_reducible rfl))
      try simp only [Act.put, List.setIfInBounds_toArray, List.set_cons_zero, List.set_cons_succ]
      refine wpAnyZ_pure (i := 5) (oi := { dst := some 41, op := Op.move (Operand.tmp 6), type := 52, pos := "log.go:24", after := #[], guard := none }) (v := ?_) rfl (by kernel_rfl) (by kernel_rfl) (by kernel_rfl) (by decide) (fun _ _ _ h => h) (Or.inl ⟨by rfl, ?_⟩) ?_
      rotate_left
      · (intro W; first | (go_simp; done) | (go_simp; with_reducible rfl))
      try simp only [Act.put, List.setIfInBounds_toArray, List.set_cons_zero, List.set_cons_succ]
      refine wpAnyZ_pure (i := 6) (oi := { dst := some 42, op := Op.nilCheck (Operand.tmp 41), type := 0, pos := "log.go:24", after := #[{ on := 5, ground := Ground.data }], guard := none }) (v := ?_) rfl (by kernel_rfl) (by kernel_rfl) (by kernel_rfl) (by decide) (fun _ _ _ h => h) (Or.inl ⟨by rfl, ?_⟩) ?_
      rotate_left
      · (intro W; first | (go_simp; done) | (go_simp; with_reducible rfl))
      try simp only [Act.put, List.setIfInBounds_toArray, List.set_cons_zero, List.set_cons_succ]
      refine wpAnyZ_pure (i := 7) (oi := { dst := some 43, op := Op.fieldAddr 72 (Operand.tmp 42) 1, type := 0, pos := "log.go:24", after := #[{ on := 6, ground := Ground.data }], guard := none }) (v := ?_) rfl (by kernel_rfl) (by kernel_rfl) (by kernel_rfl) (by decide) (fun _ _ _ h => h) (Or.inl ⟨by rfl, ?_⟩) ?_
      rotate_left
      · (intro W; first | (go_simp; done) | (go_simp; with_reducible rfl))
      try simp only [Act.put, List.setIfInBounds_toArray, List.set_cons_zero, List.set_cons_succ]
      refine wpAnyZ_pure (i := 8) (oi := { dst := some 44, op := Op.fieldAddr 70 (Operand.tmp 43) 3, type := 0, pos := "log.go:24", after := #[{ on := 7, ground := Ground.data }], guard := none }) (v := ?_) rfl (by kernel_rfl) (by kernel_rfl) (by kernel_rfl) (by decide) (fun _ _ _ h => h) (Or.inl ⟨by rfl, ?_⟩) ?_
      rotate_left
      · (intro W; first | (go_simp; done) | (go_simp; with_reducible rfl))
      try simp only [Act.put, List.setIfInBounds_toArray, List.set_cons_zero, List.set_cons_succ]
      refine wpAnyZ_take (zOf_all _ _) (i := 0) (oi := { dst := some 36, op := Op.move (Operand.tmp 6), type := 52, pos := "log.go:24", after := #[], guard := none }) (v := ?_) rfl (by kernel_rfl) (by kernel_rfl) (by kernel_rfl) (by kernel_rfl) (fun _ _ _ h => h) (Or.inl ⟨by rfl, ?_⟩) hHeld ?_
      rotate_left
      · (intro W hSw; (try dsimp only at hSw); first | (go_simp; done) | (go_simp; with_reducible rfl))
      try simp only [Act.put, List.setIfInBounds_toArray, List.set_cons_zero, List.set_cons_succ]
      refine wpAnyZ_take (zOf_all _ _) (i := 4) (oi := { dst := some 40, op := Op.load 70 (Operand.tmp 39), type := 70, pos := "log.go:24", after := #[{ on := 3, ground := Ground.data }], guard := none }) (v := ?_) rfl (by kernel_rfl) (by kernel_rfl) (by kernel_rfl) (by kernel_rfl) (fun _ _ _ h => h) (Or.inl ⟨by rfl, ?_⟩) hHeld ?_
      rotate_left
      · (intro W hSw; (try dsimp only at hSw); first | (go_simp; done) | (go_simp; with_reducible rfl))
      try simp only [Act.put, List.setIfInBounds_toArray, List.set_cons_zero, List.set_cons_succ]
      refine wpAnyZ_take (zOf_all _ _) (i := 9) (oi := { dst := some 45, op := Op.load 3 (Operand.tmp 44), type := 3, pos := "log.go:24", after := #[{ on := 8, ground := Ground.data }], guard := none }) (v := ?_) rfl (by kernel_rfl) (by kernel_rfl) (by kernel_rfl) (by kernel_rfl) (fun _ _ _ h => h) (Or.inl ⟨by rfl, ?_⟩) hHeld ?_
      rotate_left
      · (intro W hSw; (try dsimp only at hSw); first | (go_simp; done) | (go_simp; with_reducible rfl))
      try simp only [Act.put, List.setIfInBounds_toArray, List.set_cons_zero, List.set_cons_succ]
      refine wpAnyZ_tail (by kernel_rfl) ?_
      clear hHeld
      refine wpAny_ready (rs := [10]) (by kernel_rfl) (by simp) ?_
      refine AllReady.cons (o := { dst := some 46, op := Op.call { callee := Callee.value (Operand.func 47), args := #[Operand.tmp 36, Operand.tmp 40, Operand.tmp 45], argTypes := #[52, 70, 3] }, type := 36, pos := "log.go:24", after := #[{ on := 0, ground := Ground.data }, { on := 4, ground := Ground.data }, { on := 9, ground := Ground.data }], guard := none }) rfl (fun K hK => ?_) AllReady.nil
      go_simp
      go_wp2_with (go_at_call 47; refine CC.mono ?_; rintro e w5 ⟨rfl, vb5, vs5, Ls5, hL5, hI5, ho5, hd5, hC5⟩)
      try simp only [Act.put, List.setIfInBounds_toArray, List.set_cons_zero, List.set_cons_succ]
      refine wpAny_ready (rs := [11]) (by kernel_rfl) (by simp) ?_
      refine AllReady.cons (o := { dst := some 7, op := Op.assign (Operand.tmp 46), type := 36, pos := "log.go:24", after := #[{ on := 10, ground := Ground.data }, { on := 10, ground := Ground.chain }, { on := 0, ground := Ground.phase }, { on := 1, ground := Ground.phase }, { on := 2, ground := Ground.phase }, { on := 3, ground := Ground.phase }, { on := 4, ground := Ground.phase }, { on := 5, ground := Ground.phase }, { on := 6, ground := Ground.phase }, { on := 7, ground := Ground.phase }, { on := 8, ground := Ground.phase }, { on := 9, ground := Ground.phase }, { on := 10, ground := Ground.phase }], guard := none }) rfl (fun K hK => ?_) AllReady.nil
      go_simp
      refine hK _ _ ?_
      clear hK K
      try simp only [Act.put, List.setIfInBounds_toArray, List.set_cons_zero, List.set_cons_succ]
      refine wpAny_done (by kernel_rfl) ?_ _
      exact ⟨rfl, w5, vb5, vs5, Ls5, ⟨hL5, hI5, ho5, hd5, hC5⟩, rfl, rfl⟩
    rintro a W ⟨w5, vb5, vs5, Ls5, ⟨hL5, hI5, ho5, hd5, hC5⟩, rfl, rfl⟩
    have CS := settle_any L h no nf _ _ _ t (t : Int) w5 hL5 hd5 HD.out.2.2.2.2
    rw [dk_sync] at CS
    have H5 : Hid (_ ∧ _ ∧ _ ∧ _) := And.intro hI5 (And.intro ho5 (And.intro hd5 hC5))
    clear hL5 hI5 ho5 hd5 hC5 CC l1 l2 l3 l4
    go_wp2_with (go_at_call 30; refine CS.mono ?_; rintro e w6 ⟨rfl, mf', no', nf', s', hd6, hL6, hC6, hmf, hnn⟩)
    go_ret2
    have hC5 : Chg (fun k => k = L ∨ h.has k) W3 w5 := (chg_of_below (S := fun k => k = L ∨ h.has k) HB4.out).trans ⟨H5.out.2.2.2.os, H5.out.2.2.2.tape, H5.out.2.2.2.output, H5.out.2.2.2.size, H5.out.2.2.2.block⟩ (fun _ _ e => e) (fun _ _ e => e)
    have hC : Chg (fun k => k = L ∨ h.has k) W3 w6 := hC5.trans hC6 (fun _ _ e => e) (fun _ _ e => e)
    have hCw : Chg h.has w w6 := (chg_of_below (S := h.has) HL.out.2.2.2.1).trans hC (fun _ _ e => e) (fun k hk e => e.elim (fun e => by have := HL.out.2.2.2.2; omega) id)
    have ngL : ∀ b, gb = some b → ¬ (b = L ∨ h.has b) := fun b e hk => hk.elim (fun e2 => by
      subst e2
      rcases HL.out.2.1.ob with ⟨_, _, q⟩ | ⟨b', _, _, _, _, q2, q3, _⟩
      · rw [q] at e; cases e
      · rw [q2] at e; cases e; exact cne q3 HL.out.1 (by decide) rfl) (fun hk => by have := HL.out.2.1.hg b e; have := HD.out.1.lt hk; omega)
    have nsL : ∀ b, vs5.ownBlock = some b → ¬ (b = L ∨ h.has b) := fun b e hk => by
      have e2 := H5.out.2.1.symm.trans e
      have hr := row_own HL.out.2.1.st e2
      refine hk.elim (fun e3 => ?_) (fun hk => by have := hr.1; have := HD.out.1.lt hk; omega)
      subst e3
      obtain ⟨_, _, q, hq⟩ := hr
      exact cne hq HL.out.1 (by decide) rfl
    have et : (lo.bytes.take t).length = t := by have := HT.out.2; simp; omega
    refine ⟨L, rfl, vb5, gb, vs5, Ls5, s', mf', no', nf', HL.out.2.2.2.2, hL6, H5.out.1.chg hC6 ngL nsL, ?_, hCw, hmf.imp id (fun q => Nat.le_trans (Nat.le_trans HL.out.2.2.2.1.size hC5.size) q), hnn⟩
    have hd6' := hd6
    simp only [dk] at hd6' ⊢
    rw [et] at hd6'
    exact hd6'
  · have htm : t = m := by have := HT.out.2; rw [HM.out] at this; omega
    have hc : decide ((t : Int) < (m : Int)) = false := by simp; omega
    have CS := settle_any L h no nf _ _ _ t 0 w4 hL4 hd4 HD.out.2.2.2.2
    rw [dk_sync] at CS
    have ht2 : Hid (t = m) := htm
    clear hL4 hI4 hd4 hB4 htm
    go_wp2_with (go_at_call 30; refine CS.mono ?_; rintro e w6 ⟨rfl, mf', no', nf', s', hd6, hL6, hC6, hmf, hnn⟩)
    go_ret2
    have hCw : Chg h.has w w6 := (chg_of_below (S := h.has) HL4.out.2.2.2).trans hC6 (fun _ _ e => e) (fun k hk e => e.elim (fun e => by have := HL.out.2.2.2.2; omega) id)
    have ngL : ∀ b, gb = some b → ¬ (b = L ∨ h.has b) := fun b e hk => hk.elim (fun e2 => by
      subst e2
      rcases HL.out.2.1.ob with ⟨_, _, q⟩ | ⟨b', _, _, _, _, q2, q3, _⟩
      · rw [q] at e; cases e
      · rw [q2] at e; cases e; exact cne q3 HL.out.1 (by decide) rfl) (fun hk => by have := HL.out.2.1.hg b e; have := HD.out.1.lt hk; omega)
    have nsL : ∀ b, (Value.slice aw nw cw).ownBlock = some b → ¬ (b = L ∨ h.has b) := fun b e hk => by
      have hr := row_own HL.out.2.1.st e
      refine hk.elim (fun e3 => ?_) (fun hk => by have := hr.1; have := HD.out.1.lt hk; omega)
      subst e3
      obtain ⟨_, _, q, hq⟩ := hr
      exact cne hq HL.out.1 (by decide) rfl
    have et : lo.bytes.take t = lo.bytes := List.take_of_length_le (by rw [HM.out, ht2.out]; exact Nat.le_refl _)
    have el : lo.bytes.length = t := by rw [HM.out, ht2.out]
    rw [et]
    refine ⟨L, rfl, _, gb, _, Ls, s', mf', no', nf', HL.out.2.2.2.2, hL6, HL4.out.2.1.chg hC6 ngL nsL, ?_, hCw, hmf.imp id (fun q => Nat.le_trans HL4.out.2.2.2.size q), hnn⟩
    have hd6' := hd6
    simp only [dk] at hd6' ⊢
    rw [el] at hd6'
    exact hd6'
end Go.Proofs.YtonjjbmjholkjaaGreatDoor
