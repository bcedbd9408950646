/-
  The contract of wal.log.cut where the records end.
-/
import Derived.Test.YtonjjbmjholkjaaGreatDoorWlP
import Derived.Test.YtonjjbmjholkjaaGreatDoorDkRt
namespace Go.Proofs.YtonjjbmjholkjaaGreatDoor
open Go.RowKit Go.Shelf

/-- A log's block: its disk, its image, what is sure. -/
def Lb (W : World) (L : Nat) (h : Wh) (vb vs : Value) (t : Nat) (s : Int) : Prop := W.heap[L]? = some (.cells #[.pointer (some ⟨h.B, 0, none⟩), .int .i64 0, vb, vs, .int .i64 (t : Int), .int .i64 s] 72 (0, 0))

theorem Imv.chg {W W' : World} {n₀ : Nat} {vb : Value} {gb : Option Nat} {bs : List UInt8} {vs : Value} {L : List Int} {t : Nat} (h : Imv W n₀ vb gb bs vs L t) {S : Nat → Prop} (hC : Chg S W W') (hg : ∀ b, gb = some b → ¬ S b) (hs : ∀ b, vs.ownBlock = some b → ¬ S b) : Imv W' n₀ vb gb bs vs L t :=
  ⟨h.ob.kept (fun b e => hC.block b (h.ob.lt e) (hg b e)), row_kept h.st (fun b e => hC.block b (row_own h.st e).2.1 (hs b e)), h.hg, h.lt, h.ll, h.len⟩

theorem img_box {W : World} {b n₀ : Nat} {vb : Value} {gb : Option Nat} {bs : List UInt8} {vs : Value} {L : List Int} {t : Nat} (h : Imv W n₀ vb gb bs vs L t) (hb : W.heap[b]? = some (.cells #[.int .i64 0, vb, vs, .int .i64 (t : Int)] 70 (0, 0))) (hn : n₀ ≤ b) : Img W n₀ b 0 70 #[.int .i64 0, vb, vs, .int .i64 (t : Int)] vb gb bs vs L t :=
  h.at hb rfl rfl rfl rfl hn (by decide) (by decide)

set_option maxRecDepth 20000 in
set_option maxHeartbeats 4000000 in
theorem lcut_any (n₀ L : Nat) (h : Wh) (no nf : Nat) (lo : Lo) (c : Int) (old : Pf) (vb : Value) (gb : Option Nat) (vs : Value) (Ls : List Int) (t : Nat) (s : Int) (w : World)
    (hn : n₀ ≤ w.heap.size) (hL : Lb w L h vb vs t s) (hI : Imv w n₀ vb gb lo.bytes vs Ls t) (hd : DkW w h no nf (dk lo c old)) (hb : lo.base = 0)
    (hg : ∀ b, gb = some b → ¬ h.has b) (hs : ∀ b, vs.ownBlock = some b → ¬ h.has b) :
    Calls Tryz.prog 47 #[.pointer (some ⟨L, 0, none⟩), .agg #[.int .i64 0, vb, vs, .int .i64 (t : Int)], .int .i64 (t : Int)] w fun e w' => e = .returned (.int .i64 0) ∧ ∃ vb' vs' Ls', Lb w' L h vb' vs' t (t : Int) ∧ Imv w' n₀ vb' gb (lo.bytes.take t) vs' Ls' t ∧ vs'.ownBlock = vs.ownBlock ∧
      DkW w' h no nf (dk { lo with bytes := lo.bytes.take t, sure := min lo.sure t } c old) ∧ Chg (fun k => k = L ∨ h.has k) w w' := by
  have hlen := hI.len
  have hlt := hI.lt
  have hhas : lo.has (t : Int) = true := by rw [lo_has lo (by omega) (by omega) hlen]; simp; omega
  have hLt := bl_lt hL
  have hLD : ¬ h.has L := fun hk => by
    rcases hk with e | e | e | e | e | e | e
    · exact cne hL hd.b (by decide) e
    · exact cne hL hd.z (by decide) e
    · obtain ⟨cL, hcL⟩ := hd.lcells; exact cne hL hcL (by decide) e
    · exact cne hL hd.p.b (by decide) e
    · exact hd.p.o.ne hL e.symm
    · exact hd.p.f.ne hL e.symm
    · obtain ⟨cg, hcg⟩ := hd.gcells e; exact cne hL hcg (by decide) rfl
  -- the box
  obtain ⟨w1, hw1⟩ : ∃ w1, w1 = w.alloc (.cells #[.int .i64 0, vb, vs, .int .i64 (t : Int)] 70) := ⟨_, rfl⟩
  have b1 : Below w.heap.size w w1 := by rw [hw1]; exact (Below.refl _ _).alloc (Nat.le_refl _) _
  have hx1 : w1.heap[w.heap.size]? = some (.cells #[.int .i64 0, vb, vs, .int .i64 (t : Int)] 70 (0, 0)) := by rw [hw1]; exact heap_alloc_new w _
  have hd1 := hd.later b1
  have CC := dcut_any h no nf (dk lo c old) (t : Int) w1 hd1
  have et : ((t : Int) - lo.base).toNat = t := by omega
  rw [dk_cut _ _ _ _ hhas, et] at CC
  have c0 : w1.cell? ⟨L, 0, none⟩ = some (.pointer (some ⟨h.B, 0, none⟩)) := (b1.cell (p := ⟨L, 0, none⟩) hLt).trans (bl_cell hL 0 _ rfl)
  have HI : Hid (Imv w n₀ vb gb lo.bytes vs Ls t ∧ Lb w L h vb vs t s ∧ ¬ h.has L) := ⟨hI, hL, hLD⟩
  have HX : Hid (Below w.heap.size w w1 ∧ w1.heap[w.heap.size]? = some (.cells #[.int .i64 0, vb, vs, .int .i64 (t : Int)] 70 (0, 0)) ∧ DkW w1 h no nf (dk lo c old)) := ⟨b1, hx1, hd1⟩
  have HG : Hid ((∀ b, gb = some b → ¬ h.has b) ∧ (∀ b, vs.ownBlock = some b → ¬ h.has b) ∧ (∀ k, h.has k → k < w.heap.size) ∧ ∀ b, vs.ownBlock = some b → b < w.heap.size) := ⟨hg, hs, fun k hk => hd.lt hk, fun b e => (row_own hI.st e).2.1⟩
  obtain ⟨av, nv, cv, hvb⟩ : ∃ a n c, vb = .slice a n c := by obtain ⟨a, c, e, -⟩ := hI.ob.form; exact ⟨_, _, _, e⟩
  obtain ⟨aw, nw, cw, hvs⟩ := row_form hI.st
  clear hI hL hd hd1 b1 hx1 hg hs
  have ew : w.alloc (.cells #[.int .i64 0, vb, vs, .int .i64 (t : Int)] 70) = w1 := hw1.symm
  subst hvb hvs
  clear hw1
  go_enter Tryz.func47, Tryz.ntmps47
  go_wp2_with (go_at_call 75; refine CC.mono ?_; rintro e w2 ⟨rfl, hd2, hC2⟩)
  have hLs : L < w.heap.size := hLt
  have nbx : ¬ h.has w.heap.size := fun hk => by have := HG.out.2.2.1 _ hk; omega
  have hx2 : w2.heap[w.heap.size]? = _ := (hC2.block _ (bl_lt HX.out.2.1) nbx).trans HX.out.2.1
  have hI2 := (HI.out.1.later HX.out.1).chg hC2 (fun b e => HG.out.1 b e) (fun b e => HG.out.2.1 b e)
  have hL2 : w2.heap[L]? = _ := (hC2.block L (by have := HX.out.1.size; omega) HI.out.2.2).trans ((HX.out.1.block L hLs).trans HI.out.2.1)
  have CI := icut_any n₀ w.heap.size 0 _ _ _ gb lo.bytes _ Ls t w2 (img_box hI2 hx2 hn)
  have H2 : Hid (_ ∧ _ ∧ _ ∧ _) := And.intro hd2 (And.intro hC2 (And.intro hL2 hx2))
  clear hx2 hI2 hL2 hd2 hC2 CC c0
  refine CI.mono ?_
  rintro e w3 ⟨⟨v9, rfl⟩, cs3, vb3, vs3, L3, hI3, -, hown, hC3⟩
  obtain ⟨a1, n1, c1, rfl⟩ : ∃ a n c, vb3 = .slice a n c := by obtain ⟨a, c, e, -⟩ := hI3.ob.form; exact ⟨_, _, _, e⟩
  obtain ⟨a2, n2, c2, rfl⟩ := row_form hI3.st
  have x0 := bl_cell hI3.blk _ _ hI3.c0
  have x1 := bl_cell hI3.blk _ _ hI3.c1
  have x2 := bl_cell hI3.blk _ _ hI3.c2
  have x3 := bl_cell hI3.blk _ _ hI3.c3
  simp only [Nat.zero_add] at x0 x1 x2 x3
  have lx := bl_lt hI3.blk
  have hd3 : DkW w3 h no nf (dk { lo with bytes := lo.bytes.take t, sure := min lo.sure t } c old) := H2.out.1.kept (fun k hk => hC3.block k (H2.out.1.lt hk) (fun e => nbx (by rw [← e]; exact hk)))
  have hL3 : Lb w3 L h (.slice av nv cv) (.slice aw nw cw) t s := (hC3.block L (bl_lt H2.out.2.2.1) (by omega)).trans H2.out.2.2.1
  have lL := bl_lt hL3
  have k0 : w3.cell? ⟨L, 0, none⟩ = some (.pointer (some ⟨h.B, 0, none⟩)) := bl_cell hL3 0 _ rfl
  have CE := dend_any h no nf _ w3.drew (hd3.later (Below.refl _ _).drew)
  have hfin : (dk { lo with bytes := lo.bytes.take t, sure := min lo.sure t } c old).lo.fin = (t : Int) := by
    show Lo.fin _ = _
    unfold Lo.fin
    rw [IntKind.wrap_i64]
    simp only [dk, List.length_take, hb]
    omega
  rw [hfin] at CE
  have HB : Hid (∀ W, Below w3.heap.size w3 W → Lb W L h (.slice av nv cv) (.slice aw nw cw) t s ∧ W.cell? ⟨L, 1, none⟩ = some (.int .i64 0) ∧ W.cell? ⟨L, 2, none⟩ = some (.slice av nv cv) ∧ W.cell? ⟨L, 3, none⟩ = some (.slice aw nw cw) ∧ W.cell? ⟨L, 4, none⟩ = some (.int .i64 (t : Int)) ∧ W.cell? ⟨L, 5, none⟩ = some (.int .i64 s)) := fun W hW => by
    have hb : Lb W L h (.slice av nv cv) (.slice aw nw cw) t s := (hW.block L lL).trans hL3
    exact ⟨hb, bl_cell hb 1 _ rfl, bl_cell hb 2 _ rfl, bl_cell hb 3 _ rfl, bl_cell hb 4 _ rfl, bl_cell hb 5 _ rfl⟩
  have HI3 : Hid (_ ∧ _) := And.intro hI3.imv hd3
  have HC3 : Hid (Chg (fun k => k = L ∨ h.has k) w w3 ∧ (Value.slice a2 n2 c2).ownBlock = (Value.slice aw nw cw).ownBlock) :=
    ⟨((chg_of_below (S := fun k => k = L ∨ h.has k) HX.out.1).trans H2.out.2.1 (fun _ _ e => e) (fun _ _ e => .inr e)).trans hC3 (fun _ _ e => e) (fun k hk e => by omega), hown⟩
  have mixed : Tryz.prog.follows .mixedOrders = true := by kernel_rfl
  clear CI hI3 hd3 hL3 hC3 hown hfin
  go_wp2_with fail
  refine some_way (fun a W => ∃ w5, Below w3.heap.size w3 w5 ∧ a = { tmps := #[.pointer (some ⟨L, 0, none⟩), .agg #[.int .i64 0, .slice av nv cv, .slice aw nw cw, .int .i64 (t : Int)], .int .i64 (t : Int), undef, .pointer (some ⟨w.heap.size, 0, none⟩), undef, .int .i64 0, .int .i64 0, .pointer (some ⟨L, 0, none⟩), .pointer (some ⟨L, 0, none⟩), .pointer (some ⟨L, 0, none⟩), .pointer (some ⟨h.B, 0, none⟩), .int .i64 (t : Int), .int .i64 0, .int .i64 0, .bool false, undef, .int .i64 (t : Int), v9, .pointer (some ⟨L, 0, none⟩), .pointer (some ⟨L, 0, none⟩), .agg #[.int .i64 0, .slice a1 n1 c1, .slice a2 n2 c2, .int .i64 (t : Int)], .pointer (some ⟨L, 0, none⟩), .pointer (some ⟨L, 0, none⟩), .pointer (some ⟨L, 0, none⟩), .pointer (some ⟨h.B, 0, none⟩), .int .i64 (t : Int), .pointer (some ⟨L, 0, none⟩), .pointer (some ⟨L, 1, none⟩), .pointer (some ⟨L, 0, none⟩), .pointer (some ⟨L, 5, none⟩)], defers := [] } ∧
    W = ((((w5.setCell ⟨L, 1, none⟩ (.int .i64 0)).setCell ⟨L, 2, none⟩ (.slice a1 n1 c1)).setCell ⟨L, 3, none⟩ (.slice a2 n2 c2)).setCell ⟨L, 4, none⟩ (.int .i64 (t : Int))).setCell ⟨L, 5, none⟩ (.int .i64 (t : Int))) ?reg ?_
  case reg =>
    refine wp_region_Z (S := fun V : World => Below w3.heap.size w3 V ∧ V.cell? ⟨w.heap.size, 0, none⟩ = some (.int .i64 0) ∧ V.cell? ⟨w.heap.size, 1, none⟩ = some (.slice a1 n1 c1) ∧ V.cell? ⟨w.heap.size, 2, none⟩ = some (.slice a2 n2 c2) ∧ V.cell? ⟨w.heap.size, 3, none⟩ = some (.int .i64 (t : Int)) ∧ V.cell? ⟨L, 0, none⟩ = some (.pointer (some ⟨h.B, 0, none⟩))) (z := (zOf [8, 9, 10, 11, 12, 13] [1, 3, 4, 5])) mixed ?_
    have hHeld : (fun V : World => Below w3.heap.size w3 V ∧ V.cell? ⟨w.heap.size, 0, none⟩ = some (.int .i64 0) ∧ V.cell? ⟨w.heap.size, 1, none⟩ = some (.slice a1 n1 c1) ∧ V.cell? ⟨w.heap.size, 2, none⟩ = some (.slice a2 n2 c2) ∧ V.cell? ⟨w.heap.size, 3, none⟩ = some (.int .i64 (t : Int)) ∧ V.cell? ⟨L, 0, none⟩ = some (.pointer (some ⟨h.B, 0, none⟩))) _ := ⟨(Below.refl _ _).drew, x0, x1, x2, x3, k0⟩
    refine wpAnyZ_pure (i := 1) (oi := { dst := some 20, op := Op.move (Operand.tmp 0), type := 52, pos := "log.go:80", after := #[{ on := 10, ground := Ground.gcOnly Departure.lateStores }], guard := none }) (v := ?_) rfl (by kernel_rfl) (by kernel_rfl) (by kernel_rfl) (by decide) (fun _ _ _ h => h) (Or.inl ⟨by rfl, ?_⟩) ?_
    rotate_left
    · (intro W; first | (go_simp; done) | (go_simp; with_reducible rfl))
    try simp only [Act.put, List.setIfInBounds_toArray, List.set_cons_zero, List.set_cons_succ]
    refine wpAnyZ_pure (i := 3) (oi := { dst := some 22, op := Op.move (Operand.tmp 0), type := 52, pos := "log.go:80", after := #[], guard := none }) (v := ?_) rfl (by kernel_rfl) (by kernel_rfl) (by kernel_rfl) (by decide) (fun _ _ _ h => h) (Or.inl ⟨by rfl, ?_⟩) ?_
    rotate_left
    · (intro W; first | (go_simp; done) | (go_simp; with_reducible rfl))
    try simp only [Act.put, List.setIfInBounds_toArray, List.set_cons_zero, List.set_cons_succ]
    refine wpAnyZ_pure (i := 4) (oi := { dst := some 23, op := Op.nilCheck (Operand.tmp 22), type := 0, pos := "log.go:80", after := #[{ on := 3, ground := Ground.data }], guard := none }) (v := ?_) rfl (by kernel_rfl) (by kernel_rfl) (by kernel_rfl) (by decide) (fun _ _ _ h => h) (Or.inl ⟨by rfl, ?_⟩) ?_
    rotate_left
    · (intro W; first | (go_simp; done) | (go_simp; with_reducible rfl))
    try simp only [Act.put, List.setIfInBounds_toArray, List.set_cons_zero, List.set_cons_succ]
    refine wpAnyZ_pure (i := 5) (oi := { dst := some 24, op := Op.fieldAddr 72 (Operand.tmp 23) 0, type := 0, pos := "log.go:80", after := #[{ on := 4, ground := Ground.data }], guard := none }) (v := ?_) rfl (by kernel_rfl) (by kernel_rfl) (by kernel_rfl) (by decide) (fun _ _ _ h => h) (Or.inl ⟨by rfl, ?_⟩) ?_
    rotate_left
    · (intro W; first | (go_simp; done) | (go_simp; with_reducible rfl))
    try simp only [Act.put, List.setIfInBounds_toArray, List.set_cons_zero, List.set_cons_succ]
    refine wpAnyZ_take (zOf_all _ _) (i := 0) (oi := { dst := some 19, op := Op.move (Operand.tmp 0), type := 52, pos := "log.go:80", after := #[], guard := none }) (v := ?_) rfl (by kernel_rfl) (by kernel_rfl) (by kernel_rfl) (by kernel_rfl) (fun _ _ _ h => h) (Or.inl ⟨by rfl, ?_⟩) hHeld ?_
    rotate_left
    · (intro W hSw; (try dsimp only at hSw); first | (go_simp; done) | (go_simp; with_reducible rfl))
    try simp only [Act.put, List.setIfInBounds_toArray, List.set_cons_zero, List.set_cons_succ]
    refine wpAnyZ_take (zOf_all _ _) (i := 2) (oi := { dst := some 21, op := Op.load 70 (Operand.tmp 4), type := 70, pos := "log.go:80", after := #[], guard := none }) (v := ?_) rfl (by kernel_rfl) (by kernel_rfl) (by kernel_rfl) (by kernel_rfl) (fun _ _ _ h => h) (Or.inl ⟨by rfl, ?_⟩) hHeld ?_
    rotate_left
    · (intro W hSw; (try dsimp only at hSw); first | (go_simp; done) | (go_simp; with_reducible rfl))
    try simp only [Act.put, List.setIfInBounds_toArray, List.set_cons_zero, List.set_cons_succ]
    refine wpAnyZ_take (zOf_all _ _) (i := 6) (oi := { dst := some 25, op := Op.load 34 (Operand.tmp 24), type := 34, pos := "log.go:80", after := #[{ on := 5, ground := Ground.data }], guard := none }) (v := ?_) rfl (by kernel_rfl) (by kernel_rfl) (by kernel_rfl) (by kernel_rfl) (fun _ _ _ h => h) (Or.inl ⟨by rfl, ?_⟩) hHeld ?_
    rotate_left
    · (intro W hSw; (try dsimp only at hSw); first | (go_simp; done) | (go_simp; with_reducible rfl))
    try simp only [Act.put, List.setIfInBounds_toArray, List.set_cons_zero, List.set_cons_succ]
    refine wpAnyZ_one (i := 7) (o := { dst := some 26, op := Op.call { callee := Callee.value (Operand.func 46), args := #[Operand.tmp 25], argTypes := #[34] }, type := 3, pos := "log.go:80", after := #[{ on := 6, ground := Ground.data }], guard := none }) (by kernel_rfl) rfl (fun K hK => ?_)
    clear hHeld
    go_simp
    go_wp2_with (go_at_call 46; refine CE.mono ?_; rintro e w5 ⟨rfl, b5⟩)
    have b5' : Below w3.heap.size w3 w5 := ⟨b5.os, b5.tape, b5.output, b5.size, b5.block⟩
    have hb5 := HB.out w5 b5'
    have f1 := bl_open hb5.1 1
    have f2 := bl_open hb5.1 2
    have f3 := bl_open hb5.1 3
    have f4 := bl_open hb5.1 4
    have y1 := hb5.2.1
    have y2 := hb5.2.2.1
    have y3 := hb5.2.2.2.1
    have y4 := hb5.2.2.2.2.1
    have y5 := hb5.2.2.2.2.2
    have f5 := bl_open hb5.1 5
    refine hK.out _ _ ⟨fun _ => ?_, fun h => absurd h (by decide)⟩ (fun hH => ?_)
    · (exact ⟨b5', (b5'.cell (p := ⟨w.heap.size, 0, none⟩) lx).trans x0, (b5'.cell (p := ⟨w.heap.size, 1, none⟩) lx).trans x1, (b5'.cell (p := ⟨w.heap.size, 2, none⟩) lx).trans x2, (b5'.cell (p := ⟨w.heap.size, 3, none⟩) lx).trans x3, (b5'.cell (p := ⟨L, 0, none⟩) lL).trans k0⟩)
    clear hK K
    have hHeld := hH.1 (by decide)
    clear hH
    try simp only [Act.put, List.setIfInBounds_toArray, List.set_cons_zero, List.set_cons_succ]
    refine wpAnyZ_tail (by kernel_rfl) ?_
    clear hHeld
    refine wpAny_take (i := 8) (oi := { dst := some 27, op := Op.nilCheck (Operand.tmp 19), type := 0, pos := "log.go:80", after := #[{ on := 0, ground := Ground.data }, { on := 0, ground := Ground.phase }, { on := 1, ground := Ground.textOnly Departure.lateStores }, { on := 2, ground := Ground.phase }, { on := 3, ground := Ground.textOnly Departure.lateStores }, { on := 4, ground := Ground.textOnly Departure.lateStoresUnsure }, { on := 5, ground := Ground.textOnly Departure.lateStoresUnsure }, { on := 6, ground := Ground.phase }, { on := 7, ground := Ground.phase }], guard := none }) (v := ?_) rfl (by kernel_rfl) (by kernel_rfl) (by kernel_rfl) (fun _ _ _ h => h) (Or.inl ⟨by rfl, ?_⟩) ?_
    rotate_left
    · (intro W; first | (go_simp; done) | (go_simp; with_reducible rfl))
    try simp only [Act.put, List.setIfInBounds_toArray, List.set_cons_zero, List.set_cons_succ]
    refine wpAny_take (i := 9) (oi := { dst := some 28, op := Op.fieldAddr 72 (Operand.tmp 27) 1, type := 0, pos := "log.go:80", after := #[{ on := 8, ground := Ground.data }, { on := 0, ground := Ground.phase }, { on := 1, ground := Ground.textOnly Departure.lateStores }, { on := 2, ground := Ground.phase }, { on := 3, ground := Ground.textOnly Departure.lateStores }, { on := 4, ground := Ground.textOnly Departure.lateStoresUnsure }, { on := 5, ground := Ground.textOnly Departure.lateStoresUnsure }, { on := 6, ground := Ground.phase }, { on := 7, ground := Ground.phase }], guard := none }) (v := ?_) rfl (by kernel_rfl) (by kernel_rfl) (by kernel_rfl) (fun _ _ _ h => h) (Or.inl ⟨by rfl, ?_⟩) ?_
    rotate_left
    · (intro W; first | (go_simp; done) | (go_simp; with_reducible rfl))
    try simp only [Act.put, List.setIfInBounds_toArray, List.set_cons_zero, List.set_cons_succ]
    refine wpAny_ready (rs := [10]) (by kernel_rfl) (by simp) ?_
    refine AllReady.cons (o := { dst := none, op := Op.store 70 (Operand.tmp 28) (Operand.tmp 21), type := 0, pos := "log.go:80", after := #[{ on := 9, ground := Ground.data }, { on := 2, ground := Ground.data }, { on := 7, ground := Ground.chain }, { on := 0, ground := Ground.phase }, { on := 1, ground := Ground.textOnly Departure.lateStores }, { on := 2, ground := Ground.phase }, { on := 3, ground := Ground.textOnly Departure.lateStores }, { on := 4, ground := Ground.textOnly Departure.lateStoresUnsure }, { on := 5, ground := Ground.textOnly Departure.lateStoresUnsure }, { on := 6, ground := Ground.phase }, { on := 7, ground := Ground.phase }], guard := none }) rfl (fun K hK => ?_) AllReady.nil
    go_simp
    refine hK _ _ ?_
    clear hK K
    try simp only [Act.put, List.setIfInBounds_toArray, List.set_cons_zero, List.set_cons_succ]
    refine wpAny_take (i := 11) (oi := { dst := some 29, op := Op.nilCheck (Operand.tmp 20), type := 0, pos := "log.go:80", after := #[{ on := 1, ground := Ground.data }, { on := 0, ground := Ground.phase }, { on := 1, ground := Ground.phase }, { on := 2, ground := Ground.phase }, { on := 3, ground := Ground.phase }, { on := 4, ground := Ground.phase }, { on := 5, ground := Ground.phase }, { on := 6, ground := Ground.phase }, { on := 7, ground := Ground.phase }, { on := 8, ground := Ground.phase }, { on := 9, ground := Ground.phase }, { on := 10, ground := Ground.phase }], guard := none }) (v := ?_) rfl (by kernel_rfl) (by kernel_rfl) (by kernel_rfl) (fun _ _ _ h => h) (Or.inl ⟨by rfl, ?_⟩) ?_
    rotate_left
    · (intro W; first | (go_simp; done) | (go_simp; with_reducible rfl))
    try simp only [Act.put, List.setIfInBounds_toArray, List.set_cons_zero, List.set_cons_succ]
    refine wpAny_take (i := 12) (oi := { dst := some 30, op := Op.fieldAddr 72 (Operand.tmp 29) 2, type := 0, pos := "log.go:80", after := #[{ on := 11, ground := Ground.data }, { on := 0, ground := Ground.phase }, { on := 1, ground := Ground.phase }, { on := 2, ground := Ground.phase }, { on := 3, ground := Ground.phase }, { on := 4, ground := Ground.phase }, { on := 5, ground := Ground.phase }, { on := 6, ground := Ground.phase }, { on := 7, ground := Ground.phase }, { on := 8, ground := Ground.phase }, { on := 9, ground := Ground.phase }, { on := 10, ground := Ground.phase }], guard := none }) (v := ?_) rfl (by kernel_rfl) (by kernel_rfl) (by kernel_rfl) (fun _ _ _ h => h) (Or.inl ⟨by rfl, ?_⟩) ?_
    rotate_left
    · (intro W; first | (go_simp; done) | (go_simp; with_reducible rfl))
    try simp only [Act.put, List.setIfInBounds_toArray, List.set_cons_zero, List.set_cons_succ]
    refine wpAny_ready (rs := [13]) (by kernel_rfl) (by simp) ?_
    refine AllReady.cons (o := { dst := none, op := Op.store 3 (Operand.tmp 30) (Operand.tmp 26), type := 0, pos := "log.go:80", after := #[{ on := 12, ground := Ground.data }, { on := 7, ground := Ground.data }, { on := 10, ground := Ground.chain }, { on := 0, ground := Ground.phase }, { on := 1, ground := Ground.phase }, { on := 2, ground := Ground.phase }, { on := 3, ground := Ground.phase }, { on := 4, ground := Ground.phase }, { on := 5, ground := Ground.phase }, { on := 6, ground := Ground.phase }, { on := 7, ground := Ground.phase }, { on := 8, ground := Ground.phase }, { on := 9, ground := Ground.phase }, { on := 10, ground := Ground.phase }], guard := none }) rfl (fun K hK => ?_) AllReady.nil
    go_simp
    refine hK _ _ ?_
    clear hK K
    try simp only [Act.put, List.setIfInBounds_toArray, List.set_cons_zero, List.set_cons_succ]
    refine wpAny_done (by kernel_rfl) ?_ _
    exact ⟨rfl, w5, b5', rfl, rfl⟩
  rintro a W ⟨w5, b5, rfl, rfl⟩
  have hb5 := (HB.out w5 b5).1
  have q1 := bl_set hb5 1 (.int .i64 0)
  have q2 := bl_set q1 2 (.slice a1 n1 c1)
  have q3 := bl_set q2 3 (.slice a2 n2 c2)
  have q4 := bl_set q3 4 (.int .i64 (t : Int))
  have q5 := bl_set q4 5 (.int .i64 (t : Int))
  have im := ((((((HI3.out.1.later b5).set hb5 (by decide) (by decide) 1 (.int .i64 0)).set q1 (by decide) (by decide) 2 (.slice a1 n1 c1)).set q2 (by decide) (by decide) 3 (.slice a2 n2 c2)).set q3 (by decide) (by decide) 4 (.int .i64 (t : Int))).set q4 (by decide) (by decide) 5 (.int .i64 (t : Int)))
  have hC : Chg (fun k => k = L ∨ h.has k) w (((((w5.setCell ⟨L, 1, none⟩ (.int .i64 0)).setCell ⟨L, 2, none⟩ (.slice a1 n1 c1)).setCell ⟨L, 3, none⟩ (.slice a2 n2 c2)).setCell ⟨L, 4, none⟩ (.int .i64 (t : Int))).setCell ⟨L, 5, none⟩ (.int .i64 (t : Int))) :=
    (((((HC3.out.1.trans (chg_of_below (S := fun k => k = L ∨ h.has k) b5) (fun _ _ e => e) (fun _ _ e => e)).trans (chg_set _ L 1 _) (fun _ _ e => e) (fun _ _ e => .inl e)).trans (chg_set _ L 2 _) (fun _ _ e => e) (fun _ _ e => .inl e)).trans (chg_set _ L 3 _) (fun _ _ e => e) (fun _ _ e => .inl e)).trans (chg_set _ L 4 _) (fun _ _ e => e) (fun _ _ e => .inl e)).trans (chg_set _ L 5 _) (fun _ _ e => e) (fun _ _ e => .inl e)
  have hkk : ∀ k, k ≠ L → (((((w5.setCell ⟨L, 1, none⟩ (.int .i64 0)).setCell ⟨L, 2, none⟩ (.slice a1 n1 c1)).setCell ⟨L, 3, none⟩ (.slice a2 n2 c2)).setCell ⟨L, 4, none⟩ (.int .i64 (t : Int))).setCell ⟨L, 5, none⟩ (.int .i64 (t : Int))).heap[k]? = w5.heap[k]? := fun k hk => by
    rw [Below.heap_setCell _ _ _ k hk, Below.heap_setCell _ _ _ k hk, Below.heap_setCell _ _ _ k hk, Below.heap_setCell _ _ _ k hk, Below.heap_setCell _ _ _ k hk]
  have hdk := (HI3.out.2.later b5)
  have hdk5 := hdk.kept (w' := (((((w5.setCell ⟨L, 1, none⟩ (.int .i64 0)).setCell ⟨L, 2, none⟩ (.slice a1 n1 c1)).setCell ⟨L, 3, none⟩ (.slice a2 n2 c2)).setCell ⟨L, 4, none⟩ (.int .i64 (t : Int))).setCell ⟨L, 5, none⟩ (.int .i64 (t : Int)))) (fun k hk => hkk k (fun e => HI.out.2.2 (by rw [← e]; exact hk)))
  have HF : Hid (_ ∧ _ ∧ _ ∧ _) := And.intro q5 (And.intro im (And.intro hdk5 hC))
  clear q1 q2 q3 q4 q5 im hC hkk hdk hdk5 hb5
  go_wp2
  go_ret
  exact ⟨rfl, _, _, _, HF.out.1, HF.out.2.1, HC3.out.2, HF.out.2.2.1, HF.out.2.2.2⟩
end Go.Proofs.YtonjjbmjholkjaaGreatDoor
