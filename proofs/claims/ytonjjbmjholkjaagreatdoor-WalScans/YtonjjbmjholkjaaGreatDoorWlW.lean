/-
  A wal where it lies; the contract of wal.Open.
-/
import Derived.Test.YtonjjbmjholkjaaGreatDoorWlV
namespace Go.Proofs.YtonjjbmjholkjaaGreatDoor
open Go.RowKit Go.Shelf

structure Wl where
  Wb : Nat
  L : Nat
  vb : Value
  gb : Option Nat
  vs : Value
  Ls : List Int
  s : Int

structure WalW (w : World) (n₀ : Nat) (x : Wl) (h : Wh) (no nf : Nat) (d : Dk) : Prop where
  wb : w.heap[x.Wb]? = some (.cells #[.pointer (some ⟨x.L, 0, none⟩)] 54 (0, 0))
  lb : Lb w x.L h x.vb x.vs d.lo.bytes.length x.s
  im : Imv w n₀ x.vb x.gb d.lo.bytes x.vs x.Ls d.lo.bytes.length
  dk : DkW w h no nf d
  hW : n₀ ≤ x.Wb
  hL : n₀ ≤ x.L
  hg : ∀ b, x.gb = some b → ¬ h.has b
  hs : ∀ b, x.vs.ownBlock = some b → ¬ h.has b

theorem log_img {W : World} {n₀ L : Nat} {h : Wh} {vb : Value} {gb : Option Nat} {bs : List UInt8} {vs : Value} {Ls : List Int} {t : Nat} {s : Int} (hI : Imv W n₀ vb gb bs vs Ls t) (hL : Lb W L h vb vs t s) (hn : n₀ ≤ L) :
    Img W n₀ L 1 72 #[.pointer (some ⟨h.B, 0, none⟩), .int .i64 0, vb, vs, .int .i64 (t : Int), .int .i64 s] vb gb bs vs Ls t :=
  hI.at hL rfl rfl rfl rfl hn (by decide) (by decide)

theorem World.ownsRow.more' {w : World} {n₀ n₁ : Nat} {e : TypeId} {size k : Nat} {v : Value} {xs : List Value} (h : w.ownsRow n₁ e size v k xs) (hn : n₀ ≤ n₁) : w.ownsRow n₀ e size v k xs := by
  obtain ⟨h1, h2⟩ := h
  refine ⟨h1, ?_⟩
  rcases h2 with hh | ⟨g, cap, cur, hv, hb, rest⟩
  · exact .inl hh
  · exact .inr ⟨g, cap, cur, hv, Nat.le_trans hn hb, rest⟩

theorem own_later {w w' : World} {n₀ : Nat} {e : TypeId} {size k : Nat} {v : Value} {xs : List Value} (h : w.ownsRow n₀ e size v k xs) (hb : Below w.heap.size w w') : w'.ownsRow n₀ e size v k xs := row_kept h (fun b e => hb.block b (row_own h e).2.1)

set_option maxRecDepth 20000 in
set_option maxHeartbeats 4000000 in
theorem Open_any (h : Wh) (no nf : Nat) (lo : Lo) (c : Int) (old : Pf) (w : World) (hT : Tab w) (hd : DkW w h no nf (dk lo c old)) (hb : lo.base = 0) (hroom : no + nf ≤ 9223372036854775807) (h0 : ¬ h.has 0) :
    Calls Tryz.prog 11 #[.pointer (some ⟨h.B, 0, none⟩)] w fun e w' => ∃ x mf' no' nf' xs v, e = .returned (.tuple #[.pointer (some ⟨x.Wb, 0, none⟩), v, .int .i64 0]) ∧
      WalW w' w.heap.size x { h with mf := mf' } no' nf' (dk { lo with bytes := lo.bytes.take (endL 0 (rcs 0 lo.bytes)), sure := endL 0 (rcs 0 lo.bytes) } c (over none' old)) ∧ Chg h.has w w' ∧ (mf' = h.mf ∨ w.heap.size ≤ mf') ∧ no' + nf' ≤ no + nf ∧
      xs.map Itv.it = rcs 0 (lo.bytes.take (endL 0 (rcs 0 lo.bytes))) ∧ w'.ownsRow w.heap.size 59 2 v xs.length (ecs 0 xs) ∧ Inn w' w.heap.size xs := by
  have CO := openLog_any h no nf lo c old w hT hd hb hroom
  have HD : Hid (Tab w ∧ (∀ k, h.has k → k < w.heap.size) ∧ endL 0 (rcs 0 lo.bytes) ≤ lo.bytes.length ∧ ¬ h.has 0) :=
    ⟨hT, fun k hk => hd.lt hk, by have := (rcs_end lo.bytes.length 0 lo.bytes (Nat.le_refl _)).2; omega, h0⟩
  clear hT hd hb hroom h0
  go_enter Tryz.func11, Tryz.ntmps11
  go_wp2_with fail
  refine CO.mono ?_
  rintro e w2 ⟨L, rfl, vb, gb, vs, Ls, s, mf', no', nf', hwL, hL2, hI2, hd2, hC2, hmf, hnn⟩
  obtain ⟨t, ht⟩ : ∃ t, t = endL 0 (rcs 0 lo.bytes) := ⟨_, rfl⟩
  obtain ⟨bs, hbs⟩ : ∃ bs, bs = lo.bytes.take (endL 0 (rcs 0 lo.bytes)) := ⟨_, rfl⟩
  have htl : bs.length = t := by rw [hbs, ht]; have := HD.out.2.2.1; simp; omega
  rw [← hbs] at hd2 hI2
  rw [← ht] at hL2 hI2 hd2
  have hT2 : Tab w2 := fun k hk => hC2.cell HD.out.2.2.2 (HD.out.1 k hk)
  have hle : w.heap.size ≤ w2.heap.size := hC2.size
  have HS : Hid (∀ W, Below w2.heap.size w2 W → Calls Tryz.prog 24 #[.pointer (some ⟨L, 1, none⟩), .int .i64 0] W fun e w' => ∃ (xs : List Itv) (v : Value), e = .returned v ∧ xs.map Itv.it = rcs 0 bs ∧ w'.ownsRow W.heap.size 59 2 v xs.length (ecs 0 xs) ∧ Inn w' W.heap.size xs ∧ Below W.heap.size W w') :=
    fun W hW => since_any w.heap.size L 1 _ _ _ gb bs _ Ls t W (hT2.later hW hT2.pos) (log_img (hI2.later hW) (hL2.later hW) hwL)
  have l1 : w2.drew.cell? ⟨L, 1, none⟩ = some (.int .i64 0) := bl_cell hL2 1 _ rfl
  have lL := bl_lt hL2
  have H2 : Hid (_ ∧ _ ∧ _ ∧ _ ∧ _ ∧ _) := And.intro hL2 (And.intro hI2 (And.intro hd2 (And.intro hC2 (And.intro hmf hnn))))
  have HE : Hid (t = endL 0 (rcs 0 lo.bytes) ∧ bs = lo.bytes.take (endL 0 (rcs 0 lo.bytes)) ∧ bs.length = t ∧ w.heap.size ≤ L) := ⟨ht, hbs, htl, hwL⟩
  have mixed : Tryz.prog.follows .mixedOrders = true := by kernel_rfl
  have bD : Below w2.heap.size w2 w2.drew := (Below.refl _ _).drew
  have bA : Below w2.heap.size w2 (w2.drew.alloc (.cells #[.pointer (some ⟨L, 0, none⟩)] 54)) := bD.alloc (Nat.le_refl _) _
  have hbl : w2.heap.size < (w2.drew.alloc (.cells #[.pointer (some ⟨L, 0, none⟩)] 54)).heap.size := by simp
  have hWb : (w2.drew.alloc (.cells #[.pointer (some ⟨L, 0, none⟩)] 54)).heap[w2.heap.size]? = some (.cells #[.pointer (some ⟨L, 0, none⟩)] 54 (0, 0)) := heap_alloc_new w2.drew _
  have hle2 : w2.heap.size ≤ (w2.drew.alloc (.cells #[.pointer (some ⟨L, 0, none⟩)] 54)).heap.size := Nat.le_of_lt hbl
  have al9 : ∀ w9 : World, Below w9.heap.size w9 (w9.alloc (.cells #[.pointer (some ⟨L, 0, none⟩)] 54)) := fun w9 => (Below.refl _ _).alloc (Nat.le_refl _) _
  have lA : (w2.drew.alloc (.cells #[.pointer (some ⟨L, 0, none⟩)] 54)).cell? ⟨L, 1, none⟩ = some (.int .i64 0) := (bA.cell (p := ⟨L, 1, none⟩) lL).trans l1
  clear CO hL2 hI2 hd2 hC2 hmf hnn hT2 hbs ht htl hwL
  go_wp2_with fail
  refine some_way (fun a W => ∃ Wb xs v, W.heap[Wb]? = some (.cells #[.pointer (some ⟨L, 0, none⟩)] 54 (0, 0)) ∧ w2.heap.size ≤ Wb ∧ xs.map Itv.it = rcs 0 bs ∧ W.ownsRow w2.heap.size 59 2 v xs.length (ecs 0 xs) ∧ Inn W w2.heap.size xs ∧ Below w2.heap.size w2 W ∧ a = { tmps := #[.pointer (some ⟨h.B, 0, none⟩), undef, .pointer (some ⟨Wb, 0, none⟩), v, .int .i64 0, .pointer (some ⟨L, 0, none⟩), .int .i64 0, .tuple #[.pointer (some ⟨L, 0, none⟩), .int .i64 0], .pointer (some ⟨h.B, 0, none⟩), .tuple #[.pointer (some ⟨L, 0, none⟩), .int .i64 0], .pointer (some ⟨L, 0, none⟩), .int .i64 0, .int .i64 0, .bool false, undef, .pointer (some ⟨L, 0, none⟩), .agg #[.pointer (some ⟨L, 0, none⟩)], .pointer (some ⟨Wb, 0, none⟩), .pointer (some ⟨L, 0, none⟩), .pointer (some ⟨L, 0, none⟩), .pointer (some ⟨L, 1, none⟩), .pointer (some ⟨L, 0, none⟩), .pointer (some ⟨L, 0, none⟩), .pointer (some ⟨L, 1, none⟩), .pointer (some ⟨L, 1, none⟩), .int .i64 0, v], defers := [] }) ?reg ?_
  case reg =>
    refine wp_region_Z (S := fun V : World => V.cell? ⟨L, 1, none⟩ = some (.int .i64 0)) (z := (zOf [13, 14] [0, 1, 3, 4, 5, 6, 7, 8, 9, 12])) mixed ?_
    have hHeld : (fun V : World => V.cell? ⟨L, 1, none⟩ = some (.int .i64 0)) _ := l1
    refine wpAnyZ_pure (i := 0) (oi := { dst := some 15, op := Op.move (Operand.tmp 5), type := 52, pos := "wal.go:42", after := #[], guard := none }) (v := ?_) rfl (by kernel_rfl) (by kernel_rfl) (by kernel_rfl) (by decide) (fun _ _ _ h => h) (Or.inl ⟨by rfl, ?_⟩) ?_
    rotate_left
    · (intro W; first | (go_simp; done) | (go_simp; with_reducible rfl))
    try simp only [Act.put, List.setIfInBounds_toArray, List.set_cons_zero, List.set_cons_succ]
    refine wpAnyZ_pure (i := 1) (oi := { dst := some 16, op := Op.build 54 #[(0, Operand.tmp 15)], type := 54, pos := "wal.go:42", after := #[{ on := 0, ground := Ground.data }], guard := none }) (v := ?_) rfl (by kernel_rfl) (by kernel_rfl) (by kernel_rfl) (by decide) (fun _ _ _ h => h) (Or.inl ⟨by rfl, ?_⟩) ?_
    rotate_left
    · (intro W; first | (go_simp; done) | (go_simp; with_reducible rfl))
    try simp only [Act.put, List.setIfInBounds_toArray, List.set_cons_zero, List.set_cons_succ]
    refine wpAnyZ_pure (i := 3) (oi := { dst := some 18, op := Op.move (Operand.tmp 5), type := 52, pos := "wal.go:42", after := #[], guard := none }) (v := ?_) rfl (by kernel_rfl) (by kernel_rfl) (by kernel_rfl) (by decide) (fun _ _ _ h => h) (Or.inl ⟨by rfl, ?_⟩) ?_
    rotate_left
    · (intro W; first | (go_simp; done) | (go_simp; with_reducible rfl))
    try simp only [Act.put, List.setIfInBounds_toArray, List.set_cons_zero, List.set_cons_succ]
    refine wpAnyZ_pure (i := 4) (oi := { dst := some 19, op := Op.nilCheck (Operand.tmp 18), type := 0, pos := "wal.go:42", after := #[{ on := 3, ground := Ground.data }], guard := none }) (v := ?_) rfl (by kernel_rfl) (by kernel_rfl) (by kernel_rfl) (by decide) (fun _ _ _ h => h) (Or.inl ⟨by rfl, ?_⟩) ?_
    rotate_left
    · (intro W; first | (go_simp; done) | (go_simp; with_reducible rfl))
    try simp only [Act.put, List.setIfInBounds_toArray, List.set_cons_zero, List.set_cons_succ]
    refine wpAnyZ_pure (i := 5) (oi := { dst := some 20, op := Op.fieldAddr 72 (Operand.tmp 19) 1, type := 0, pos := "wal.go:42", after := #[{ on := 4, ground := Ground.data }], guard := none }) (v := ?_) rfl (by kernel_rfl) (by kernel_rfl) (by kernel_rfl) (by decide) (fun _ _ _ h => h) (Or.inl ⟨by rfl, ?_⟩) ?_
    rotate_left
    · (intro W; first | (go_simp; done) | (go_simp; with_reducible rfl))
    try simp only [Act.put, List.setIfInBounds_toArray, List.set_cons_zero, List.set_cons_succ]
    refine wpAnyZ_pure (i := 6) (oi := { dst := some 21, op := Op.move (Operand.tmp 5), type := 52, pos := "wal.go:42", after := #[], guard := none }) (v := ?_) rfl (by kernel_rfl) (by kernel_rfl) (by kernel_rfl) (by decide) (fun _ _ _ h => h) (Or.inl ⟨by rfl, ?_⟩) ?_
    rotate_left
    · (intro W; first | (go_simp; done) | (go_simp; with_reducible rfl))
    try simp only [Act.put, List.setIfInBounds_toArray, List.set_cons_zero, List.set_cons_succ]
    refine wpAnyZ_pure (i := 7) (oi := { dst := some 22, op := Op.nilCheck (Operand.tmp 21), type := 0, pos := "wal.go:42", after := #[{ on := 6, ground := Ground.data }], guard := none }) (v := ?_) rfl (by kernel_rfl) (by kernel_rfl) (by kernel_rfl) (by decide) (fun _ _ _ h => h) (Or.inl ⟨by rfl, ?_⟩) ?_
    rotate_left
    · (intro W; first | (go_simp; done) | (go_simp; with_reducible rfl))
    try simp only [Act.put, List.setIfInBounds_toArray, List.set_cons_zero, List.set_cons_succ]
    refine wpAnyZ_pure (i := 8) (oi := { dst := some 23, op := Op.fieldAddr 72 (Operand.tmp 22) 1, type := 0, pos := "wal.go:42", after := #[{ on := 7, ground := Ground.data }], guard := none }) (v := ?_) rfl (by kernel_rfl) (by kernel_rfl) (by kernel_rfl) (by decide) (fun _ _ _ h => h) (Or.inl ⟨by rfl, ?_⟩) ?_
    rotate_left
    · (intro W; first | (go_simp; done) | (go_simp; with_reducible rfl))
    try simp only [Act.put, List.setIfInBounds_toArray, List.set_cons_zero, List.set_cons_succ]
    refine wpAnyZ_pure (i := 9) (oi := { dst := some 24, op := Op.fieldAddr 70 (Operand.tmp 23) 0, type := 0, pos := "wal.go:42", after := #[{ on := 8, ground := Ground.data }], guard := none }) (v := ?_) rfl (by kernel_rfl) (by kernel_rfl) (by kernel_rfl) (by decide) (fun _ _ _ h => h) (Or.inl ⟨by rfl, ?_⟩) ?_
    rotate_left
    · (intro W; first | (go_simp; done) | (go_simp; with_reducible rfl))
    try simp only [Act.put, List.setIfInBounds_toArray, List.set_cons_zero, List.set_cons_succ]
    refine wpAnyZ_take (zOf_all _ _) (i := 10) (oi := { dst := some 25, op := Op.load 3 (Operand.tmp 24), type := 3, pos := "wal.go:42", after := #[{ on := 9, ground := Ground.data }], guard := none }) (v := ?_) rfl (by kernel_rfl) (by kernel_rfl) (by kernel_rfl) (by kernel_rfl) (fun _ _ _ h => h) (Or.inl ⟨by rfl, ?_⟩) hHeld ?_
    rotate_left
    · (intro W hSw; (try dsimp only at hSw); first | (go_simp; done) | (go_simp; with_reducible rfl))
    try simp only [Act.put, List.setIfInBounds_toArray, List.set_cons_zero, List.set_cons_succ]
    refine wpAnyZ_two (i := 2) (j := 11) (oi := { dst := some 17, op := Op.box 54 (Operand.tmp 16), type := 35, pos := "wal.go:42", after := #[{ on := 1, ground := Ground.data }], guard := none }) (oj := { dst := some 26, op := Op.call { callee := Callee.value (Operand.func 24), args := #[Operand.tmp 20, Operand.tmp 25], argTypes := #[70, 3] }, type := 25, pos := "wal.go:42", after := #[{ on := 5, ground := Ground.data }, { on := 10, ground := Ground.data }], guard := none }) (by kernel_rfl) rfl rfl (fun K hK => ?_) (fun K hK => ?_)
    · clear hHeld
      go_simp
      refine hK.out _ _ ⟨fun _ => ?_, fun h => absurd h (by decide)⟩ (fun hH => ?_)
      · exact lA
      clear hK K
      have hHeld := hH.1 (by decide)
      clear hH
      try simp only [Act.put, List.setIfInBounds_toArray, List.set_cons_zero, List.set_cons_succ]
      refine wpAnyZ_one (i := 11) (o := { dst := some 26, op := Op.call { callee := Callee.value (Operand.func 24), args := #[Operand.tmp 20, Operand.tmp 25], argTypes := #[70, 3] }, type := 25, pos := "wal.go:42", after := #[{ on := 5, ground := Ground.data }, { on := 10, ground := Ground.data }], guard := none }) (by kernel_rfl) rfl (fun K hK => ?_)
      clear hHeld
      go_simp
      go_wp2_with (go_at_call 24; refine (HS.out _ bA).mono ?_; rintro e w9 ⟨xs, v, rfl, hm, hrow, hin, b9⟩)
      refine hK.out _ _ ⟨fun _ => ?_, fun h => absurd h (by decide)⟩ (fun hH => ?_)
      · exact (b9.cell (p := ⟨L, 1, none⟩) (Nat.lt_trans lL hbl)).trans lA
      clear hK K
      have hHeld := hH.1 (by decide)
      clear hH
      try simp only [Act.put, List.setIfInBounds_toArray, List.set_cons_zero, List.set_cons_succ]
      refine wpAnyZ_pure (i := 12) (oi := { dst := some 2, op := Op.assign (Operand.tmp 17), type := 35, pos := "wal.go:42", after := #[{ on := 2, ground := Ground.data }, { on := 11, ground := Ground.chain }, { on := 0, ground := Ground.phase }, { on := 1, ground := Ground.phase }, { on := 2, ground := Ground.phase }, { on := 3, ground := Ground.textOnly Departure.lateStores }, { on := 4, ground := Ground.textOnly Departure.lateStores }, { on := 5, ground := Ground.textOnly Departure.lateStores }, { on := 6, ground := Ground.textOnly Departure.lateStores }, { on := 7, ground := Ground.textOnly Departure.lateStores }, { on := 8, ground := Ground.textOnly Departure.lateStores }, { on := 9, ground := Ground.textOnly Departure.lateStores }, { on := 10, ground := Ground.textOnly Departure.lateStores }, { on := 11, ground := Ground.textOnly Departure.lateStoresUnsure }], guard := none }) (v := ?_) rfl (by kernel_rfl) (by kernel_rfl) (by kernel_rfl) (by decide) (fun _ _ _ h => h) (Or.inl ⟨by rfl, ?_⟩) ?_
      rotate_left
      · (intro W; first | (go_simp; done) | (go_simp; with_reducible rfl))
      try simp only [Act.put, List.setIfInBounds_toArray, List.set_cons_zero, List.set_cons_succ]
      refine wpAnyZ_tail (by kernel_rfl) ?_
      clear hHeld
      refine wpAny_ready (rs := [13]) (by kernel_rfl) (by simp) ?_
      refine AllReady.cons (o := { dst := some 3, op := Op.assign (Operand.tmp 26), type := 25, pos := "wal.go:42", after := #[{ on := 11, ground := Ground.data }, { on := 12, ground := Ground.chain }, { on := 0, ground := Ground.phase }, { on := 1, ground := Ground.phase }, { on := 2, ground := Ground.phase }, { on := 3, ground := Ground.phase }, { on := 4, ground := Ground.phase }, { on := 5, ground := Ground.phase }, { on := 6, ground := Ground.phase }, { on := 7, ground := Ground.phase }, { on := 8, ground := Ground.phase }, { on := 9, ground := Ground.phase }, { on := 10, ground := Ground.phase }, { on := 11, ground := Ground.phase }, { on := 12, ground := Ground.phase }], guard := none }) rfl (fun K hK => ?_) AllReady.nil
      go_simp
      refine hK _ _ ?_
      clear hK K
      try simp only [Act.put, List.setIfInBounds_toArray, List.set_cons_zero, List.set_cons_succ]
      refine wpAny_ready (rs := [14]) (by kernel_rfl) (by simp) ?_
      refine AllReady.cons (o := { dst := some 4, op := Op.assign (Operand.const (Value.int IntKind.i64 0)), type := 36, pos := "wal.go:42", after := #[{ on := 13, ground := Ground.chain }, { on := 0, ground := Ground.phase }, { on := 1, ground := Ground.phase }, { on := 2, ground := Ground.phase }, { on := 3, ground := Ground.phase }, { on := 4, ground := Ground.phase }, { on := 5, ground := Ground.phase }, { on := 6, ground := Ground.phase }, { on := 7, ground := Ground.phase }, { on := 8, ground := Ground.phase }, { on := 9, ground := Ground.phase }, { on := 10, ground := Ground.phase }, { on := 11, ground := Ground.phase }, { on := 12, ground := Ground.phase }, { on := 13, ground := Ground.phase }], guard := none }) rfl (fun K hK => ?_) AllReady.nil
      go_simp
      refine hK _ _ ?_
      clear hK K
      try simp only [Act.put, List.setIfInBounds_toArray, List.set_cons_zero, List.set_cons_succ]
      refine wpAny_done (by kernel_rfl) ?_ _
      exact ⟨rfl, w2.heap.size, xs, v, (b9.block _ hbl).trans hWb, Nat.le_refl _, hm, World.ownsRow.more' hrow hle2, fun x hx => (hin x hx).more hle2, bA.trans (b9.mono hle2), rfl⟩
    · clear hHeld
      go_simp
      go_wp2_with (go_at_call 24; refine (HS.out _ bD).mono ?_; rintro e w9 ⟨xs, v, rfl, hm, hrow, hin, b9⟩)
      refine hK.out _ _ ⟨fun _ => ?_, fun h => absurd h (by decide)⟩ (fun hH => ?_)
      · exact (b9.cell (p := ⟨L, 1, none⟩) lL).trans l1
      clear hK K
      have hHeld := hH.1 (by decide)
      clear hH
      try simp only [Act.put, List.setIfInBounds_toArray, List.set_cons_zero, List.set_cons_succ]
      refine wpAnyZ_one (i := 2) (o := { dst := some 17, op := Op.box 54 (Operand.tmp 16), type := 35, pos := "wal.go:42", after := #[{ on := 1, ground := Ground.data }], guard := none }) (by kernel_rfl) rfl (fun K hK => ?_)
      clear hHeld
      go_simp
      refine hK.out _ _ ⟨fun _ => ?_, fun h => absurd h (by decide)⟩ (fun hH => ?_)
      · exact ((al9 w9).cell (p := ⟨L, 1, none⟩) (Nat.lt_of_lt_of_le lL b9.size)).trans ((b9.cell (p := ⟨L, 1, none⟩) lL).trans l1)
      clear hK K
      have hHeld := hH.1 (by decide)
      clear hH
      try simp only [Act.put, List.setIfInBounds_toArray, List.set_cons_zero, List.set_cons_succ]
      refine wpAnyZ_pure (i := 12) (oi := { dst := some 2, op := Op.assign (Operand.tmp 17), type := 35, pos := "wal.go:42", after := #[{ on := 2, ground := Ground.data }, { on := 11, ground := Ground.chain }, { on := 0, ground := Ground.phase }, { on := 1, ground := Ground.phase }, { on := 2, ground := Ground.phase }, { on := 3, ground := Ground.textOnly Departure.lateStores }, { on := 4, ground := Ground.textOnly Departure.lateStores }, { on := 5, ground := Ground.textOnly Departure.lateStores }, { on := 6, ground := Ground.textOnly Departure.lateStores }, { on := 7, ground := Ground.textOnly Departure.lateStores }, { on := 8, ground := Ground.textOnly Departure.lateStores }, { on := 9, ground := Ground.textOnly Departure.lateStores }, { on := 10, ground := Ground.textOnly Departure.lateStores }, { on := 11, ground := Ground.textOnly Departure.lateStoresUnsure }], guard := none }) (v := ?_) rfl (by kernel_rfl) (by kernel_rfl) (by kernel_rfl) (by decide) (fun _ _ _ h => h) (Or.inl ⟨by rfl, ?_⟩) ?_
      rotate_left
      · (intro W; first | (go_simp; done) | (go_simp; with_reducible rfl))
      try simp only [Act.put, List.setIfInBounds_toArray, List.set_cons_zero, List.set_cons_succ]
      refine wpAnyZ_tail (by kernel_rfl) ?_
      clear hHeld
      refine wpAny_ready (rs := [13]) (by kernel_rfl) (by simp) ?_
      refine AllReady.cons (o := { dst := some 3, op := Op.assign (Operand.tmp 26), type := 25, pos := "wal.go:42", after := #[{ on := 11, ground := Ground.data }, { on := 12, ground := Ground.chain }, { on := 0, ground := Ground.phase }, { on := 1, ground := Ground.phase }, { on := 2, ground := Ground.phase }, { on := 3, ground := Ground.phase }, { on := 4, ground := Ground.phase }, { on := 5, ground := Ground.phase }, { on := 6, ground := Ground.phase }, { on := 7, ground := Ground.phase }, { on := 8, ground := Ground.phase }, { on := 9, ground := Ground.phase }, { on := 10, ground := Ground.phase }, { on := 11, ground := Ground.phase }, { on := 12, ground := Ground.phase }], guard := none }) rfl (fun K hK => ?_) AllReady.nil
      go_simp
      refine hK _ _ ?_
      clear hK K
      try simp only [Act.put, List.setIfInBounds_toArray, List.set_cons_zero, List.set_cons_succ]
      refine wpAny_ready (rs := [14]) (by kernel_rfl) (by simp) ?_
      refine AllReady.cons (o := { dst := some 4, op := Op.assign (Operand.const (Value.int IntKind.i64 0)), type := 36, pos := "wal.go:42", after := #[{ on := 13, ground := Ground.chain }, { on := 0, ground := Ground.phase }, { on := 1, ground := Ground.phase }, { on := 2, ground := Ground.phase }, { on := 3, ground := Ground.phase }, { on := 4, ground := Ground.phase }, { on := 5, ground := Ground.phase }, { on := 6, ground := Ground.phase }, { on := 7, ground := Ground.phase }, { on := 8, ground := Ground.phase }, { on := 9, ground := Ground.phase }, { on := 10, ground := Ground.phase }, { on := 11, ground := Ground.phase }, { on := 12, ground := Ground.phase }, { on := 13, ground := Ground.phase }], guard := none }) rfl (fun K hK => ?_) AllReady.nil
      go_simp
      refine hK _ _ ?_
      clear hK K
      try simp only [Act.put, List.setIfInBounds_toArray, List.set_cons_zero, List.set_cons_succ]
      refine wpAny_done (by kernel_rfl) ?_ _
      exact ⟨rfl, w9.heap.size, xs, v, heap_alloc_new w9 _, b9.size, hm, own_later hrow (al9 _), fun x hx => (hin x hx).later (al9 _), (bD.trans b9).alloc (Nat.le_trans bD.size b9.size) _, rfl⟩
  rintro a W ⟨Wb, xs, v, hWb2, hWl, hm, hrow, hin, b9, rfl⟩
  have hL9 := H2.out.1.later b9
  have hI9 := H2.out.2.1.later b9
  have hd9 := H2.out.2.2.1.later b9
  have ngh : ∀ b, gb = some b → ¬ h.has b := fun b e hk => by have := H2.out.2.1.hg b e; have := HD.out.2.1 b hk; omega
  have nsh : ∀ b, vs.ownBlock = some b → ¬ h.has b := fun b e hk => by have := (row_own H2.out.2.1.st e).1; have := HD.out.2.1 b hk; omega
  have hmfq := H2.out.2.2.2.2.1
  have nmf : ∀ b, w.heap.size ≤ b → b < w2.heap.size → (∃ c T, w2.heap[b]? = some (.cells c T (0, 0))) → Wh.has { h with mf := mf' } b → False := fun b hb1 hb2 ⟨c, T, hc⟩ hk => by
    rcases hk with e | e | e | e | e | e | e
    · have := HD.out.2.1 b (.inl e); omega
    · have := HD.out.2.1 b (.inr (.inl e)); omega
    · have := HD.out.2.1 b (.inr (.inr (.inl e))); omega
    · have := HD.out.2.1 b (.inr (.inr (.inr (.inl e)))); omega
    · have := HD.out.2.1 b (.inr (.inr (.inr (.inr (.inl e))))); omega
    · dsimp only at e; exact H2.out.2.2.1.p.f.ne hc e.symm
    · have := HD.out.2.1 b (.inr (.inr (.inr (.inr (.inr (.inr e)))))); omega
  have hlen9 : (dk { lo with bytes := bs, sure := t } c (over none' old)).lo.bytes.length = t := HE.out.2.2.1
  go_wp2
  go_ret3
  refine ⟨⟨Wb, L, vb, gb, vs, Ls, s⟩, mf', no', nf', xs, v, rfl, ?_, ?_, hmfq, H2.out.2.2.2.2.2, ?_, ?_, ?_⟩
  · rw [← HE.out.2.1, ← HE.out.1]
    refine ⟨hWb2, by rw [hlen9]; exact hL9, by rw [hlen9]; exact hI9, hd9, Nat.le_trans hle hWl, HE.out.2.2.2, fun b e => ?_, fun b e => ?_⟩
    · rcases H2.out.2.1.ob with ⟨_, _, q⟩ | ⟨b', _, _, _, _, q2, q3, _⟩
      · dsimp only at e; rw [q] at e; cases e
      · dsimp only at e; rw [q2] at e; cases e
        exact nmf _ (H2.out.2.1.hg _ q2) (bl_lt q3) ⟨_, _, q3⟩
    · obtain ⟨r1, r2, c, hc⟩ := row_own H2.out.2.1.st e
      exact nmf b r1 r2 ⟨_, _, hc⟩
  · exact H2.out.2.2.2.1.trans (chg_of_below (S := h.has) b9) (fun _ _ e => e) (fun _ _ e => e)
  · rw [← HE.out.2.1]; exact hm
  · exact World.ownsRow.more' hrow hle
  · exact fun x hx => (hin x hx).more hle
end Go.Proofs.YtonjjbmjholkjaaGreatDoor
