/-
  The contracts of mayBe, fits, isLiteral, isName and Right of package expr.
-/
import Derived.Test.YtclhmmgdhagloaaGreatDoorEDep
import Derived.Test.YtclhmmgdhagloaaGreatDoorMALRight
namespace Go.Proofs.YtclhmmgdhagloaaGreatDoor
open Go.RowKit Go.Shelf
attribute [local go_sem] cell?_more frozen?_more setCell_more more_lt more_more more_drew more_drewN setCell_drewN alloc_drewN

/-- Is a text a name: a word that is not reserved? -/
def nameL (l : List UInt8) : Bool := wordL l && !resL l
theorem isName_any (l : List UInt8) (w : World) (hl : l.length ≤ 140737488351232) : Calls Tryz.prog 115 #[.string ⟨l.toArray⟩] w fun e w' => e = .returned (.bool (nameL l)) ∧ w = w' := by
  have A := fun W => word_any l W hl
  have B := fun W => reserved_any ⟨l.toArray⟩ W
  have e : (ByteArray.mk l.toArray).toList = l := by rw [ByteArray.toList_eq]
  rw [e] at B
  clear e
  unfold nameL
  generalize ByteArray.mk l.toArray = S at *
  generalize wordL l = b at *
  cases b with
  | false =>
    clear B
    go_enter Tryz.func115, Tryz.ntmps115
    go_wp2_with (go_at_call 185; refine (A _).mono ?_; rintro e w' ⟨rfl, rfl⟩)
    go_ret
    exact ⟨rfl, rfl⟩
  | true =>
    generalize resL l = r at *
    go_enter Tryz.func115, Tryz.ntmps115
    go_wp2_with (first
      | (go_at_call 185; refine (A _).mono ?_; rintro e w' ⟨rfl, rfl⟩)
      | (go_at_call 18; refine (B _).mono ?_; rintro e w' ⟨rfl, rfl⟩))
    go_ret
    exact ⟨rfl, rfl⟩

/-- May a value stand in an expression? -/
def litV (v : Va) : Bool := vr v && (!(v.k == 5) && decide (0 ≤ v.n))
theorem isLiteral_any (v : Va) (w : World) (hT : Tabs w) : Calls Tryz.prog 114 #[va v.k v.n v.m ⟨v.b.toArray⟩] w fun e w' => e = .returned (.bool (litV v)) ∧ Below w.heap.size w w' := by
  have A : ∀ W, Below w.heap.size w W → Calls Tryz.prog 75 #[va v.k v.n v.m ⟨v.b.toArray⟩] W fun e w' => e = .returned (.bool (vr v)) ∧ Below W.heap.size W w' := fun W h => vright_any v.k v.n v.m ⟨v.b.toArray⟩ W (hT.later h)
  unfold litV
  obtain ⟨vk, vn, vm, vb⟩ := v
  generalize vr ⟨vk, vn, vm, vb⟩ = r at *
  simp only at A ⊢
  clear hT
  have Z := Cbox.new w #[.int .i64 vk, .int .i64 vn, .int .i64 vm, .string ⟨vb.toArray⟩] 42
  have A0 := (Below.refl w.heap.size w).alloc (Nat.le_refl _) (.cells #[.int .i64 vk, .int .i64 vn, .int .i64 vm, .string ⟨vb.toArray⟩] 42)
  cases r with
  | false =>
    clear Z
    go_enter Tryz.func114, Tryz.ntmps114
    go_wp2_with (go_at_call 75; refine (A _ A0).mono ?_; rintro e w1 ⟨rfl, b1⟩; have B1 := A0.trans (b1.mono A0.size))
    go_ret
    exact ⟨rfl, B1⟩
  | true =>
    have hk : (!(vk == 5) && decide (0 ≤ vn)) = (if vk = 5 then false else decide (0 ≤ vn)) := by
      by_cases h : vk = 5
      · subst h; rfl
      · rw [if_neg h]; simp [h]
    rw [Bool.true_and, hk]
    by_cases h5 : vk = 5
    · rw [if_pos h5]
      subst h5
      go_enter Tryz.func114, Tryz.ntmps114
      go_wp2_with (go_at_call 75; refine (A _ A0).mono ?_; rintro e w1 ⟨rfl, b1⟩; have B1 := A0.trans (b1.mono A0.size); have z0 := (Z.later b1).at 0; have z1 := (Z.later b1).at 1; have zl := (Z.later b1).lt)
      go_ret
      exact ⟨rfl, B1⟩
    · rw [if_neg h5]
      have h5' : (vk == 5) = false := by rw [beq_eq_false_iff_ne]; exact h5
      go_enter Tryz.func114, Tryz.ntmps114
      go_wp2_with (go_at_call 75; refine (A _ A0).mono ?_; rintro e w1 ⟨rfl, b1⟩; have B1 := A0.trans (b1.mono A0.size); have z0 := (Z.later b1).at 0; have z1 := (Z.later b1).at 1; have zl := (Z.later b1).lt)
      go_ret
      exact ⟨by show Ending.returned _ = _; congr 2; simp [h5], B1⟩

/-- May the parts that a node's Op names be, and the Op itself? -/
def fitN (x : Nd) : Bool := if x.o = 1 then litV x.v else if x.o = 2 then nameL x.n && (x.t == [] || nameL x.t) else if x.o = 19 then nameL x.n && (decide (0 ≤ x.a) && decide (x.a ≤ 4)) else decide (3 ≤ x.o) && decide (x.o ≤ 18)
def mayN (x : Nd) : Bool := sameN x (namedN x) && fitN x
theorem mayN_ops (x : Nd) (h : mayN x = true) : 0 ≤ opsN x ∧ opsN x ≤ 4 := by
  unfold mayN fitN at h
  unfold opsN
  obtain ⟨xo, xt, xn, xv, xa⟩ := x
  simp only [Bool.and_eq_true] at h ⊢
  by_cases h1 : xo = 1
  · subst h1; simp
  by_cases h2 : xo = 2
  · subst h2; simp
  by_cases h3 : xo = 19
  · rw [if_neg h1, if_neg h2, if_pos h3] at h
    rw [if_pos h3]
    have := h.2
    simp at this
    omega
  · rw [if_neg h3]
    split
    · omega
    split <;> omega

set_option maxHeartbeats 4000000 in
theorem fits_any (x : Nd) (w : World) (hT : Tabs w) (ht : x.t.length ≤ 140737488351232) (hn : x.n.length ≤ 140737488351232) : Calls Tryz.prog 59 #[ndv x] w fun e w' => e = .returned (.bool (fitN x)) ∧ Below w.heap.size w w' := by
  have L := fun W (h : Below w.heap.size w W) => isLiteral_any x.v W (hT.later h)
  have N1 := fun W => isName_any x.n W hn
  have N2 := fun W => isName_any x.t W ht
  clear hT
  obtain ⟨xo, xt, xn, xv, xa⟩ := x
  unfold fitN
  simp only at L N1 N2 ht hn ⊢
  have A0 := (Below.refl w.heap.size w).alloc (Nat.le_refl _) (.cells (ncs ⟨xo, xt, xn, xv, xa⟩) 44)
  by_cases h1 : xo = 1
  · subst h1
    rw [if_pos rfl]
    clear N1 N2
    generalize litV xv = r at *
    go_enter Tryz.func59, Tryz.ntmps59
    go_wp2_with (go_at_call 114; refine (L _ A0).mono ?_; rintro e w1 ⟨rfl, b1⟩; have B1 := A0.trans (b1.mono A0.size))
    go_ret
    exact ⟨rfl, B1⟩
  have e1 : (xo == 1) = false := by rw [beq_eq_false_iff_ne]; exact h1
  rw [if_neg h1]
  clear L
  by_cases h2 : xo = 2
  · subst h2
    rw [if_pos rfl]
    by_cases hx : xt = []
    · subst hx
      clear N2
      generalize nameL xn = r1 at *
      cases r1
      all_goals (
        go_enter Tryz.func59, Tryz.ntmps59
        go_wp2_with (go_at_call 115; refine (N1 _).mono ?_; rintro e w' ⟨rfl, rfl⟩)
        go_ret
        exact ⟨rfl, A0⟩)
    · have hem : (ByteArray.mk xt.toArray).toList.isEmpty = false := by
        rw [Lib.toList_data]
        cases xt with
        | nil => exact absurd rfl hx
        | cons => rfl
      have hxe : (xt == []) = false := by rw [beq_eq_false_iff_ne]; exact hx
      rw [hxe, Bool.false_or]
      have hx2 : xt.isEmpty = false := by cases xt with | nil => exact absurd rfl hx | cons => rfl
      clear hxe
      generalize nameL xn = r1 at *
      generalize nameL xt = r2 at *
      cases r1
      all_goals (
        go_enter Tryz.func59, Tryz.ntmps59
        go_wp2_with (first
          | (go_at_call_of 115 (Value.string ⟨xn.toArray⟩); refine (N1 _).mono ?_; rintro e w' ⟨rfl, rfl⟩)
          | (go_at_call_of 115 (Value.string ⟨xt.toArray⟩); refine (N2 _).mono ?_; rintro e w' ⟨rfl, rfl⟩))
        go_ret
        exact ⟨rfl, A0⟩)
  have e2 : (xo == 2) = false := by rw [beq_eq_false_iff_ne]; exact h2
  rw [if_neg h2]
  clear N2
  by_cases h3 : xo = 19
  · subst h3
    rw [if_pos rfl]
    generalize nameL xn = r1 at *
    cases r1 with
    | false =>
      go_enter Tryz.func59, Tryz.ntmps59
      go_wp2_with (go_at_call 115; refine (N1 _).mono ?_; rintro e w' ⟨rfl, rfl⟩)
      go_ret
      exact ⟨rfl, A0⟩
    | true =>
      by_cases h4 : 0 ≤ xa
      · rw [decide_eq_true h4]
        go_enter Tryz.func59, Tryz.ntmps59
        go_wp2_with (go_at_call 115; refine (N1 _).mono ?_; rintro e w' ⟨rfl, rfl⟩)
        go_ret
        exact ⟨rfl, A0⟩
      · rw [decide_eq_false h4]
        go_enter Tryz.func59, Tryz.ntmps59
        go_wp2_with (go_at_call 115; refine (N1 _).mono ?_; rintro e w' ⟨rfl, rfl⟩)
        go_ret
        exact ⟨rfl, A0⟩
  · have e3 : (xo == 19) = false := by rw [beq_eq_false_iff_ne]; exact h3
    rw [if_neg h3]
    clear N1
    by_cases h4 : 3 ≤ xo
    · rw [decide_eq_true h4]
      go_enter Tryz.func59, Tryz.ntmps59
      go_wp2
      go_ret
      exact ⟨rfl, A0⟩
    · rw [decide_eq_false h4]
      go_enter Tryz.func59, Tryz.ntmps59
      go_wp2
      go_ret
      exact ⟨rfl, A0⟩

set_option maxHeartbeats 4000000 in
theorem mayBe_any (x : Nd) (w : World) (hT : Tabs w) (ht : x.t.length ≤ 140737488351232) (hn : x.n.length ≤ 140737488351232) : Calls Tryz.prog 36 #[ndv x] w fun e w' => e = .returned (.bool (mayN x)) ∧ Below w.heap.size w w' := by
  have F := fun W (h : Below w.heap.size w W) => fits_any x W (hT.later h) ht hn
  have M := fun W => enamed_any x W
  clear hT
  unfold mayN
  have E := fun W => eqNd x (namedN x) W
  generalize sameN x (namedN x) = s at *
  generalize fitN x = f at *
  generalize namedN x = y at *
  obtain ⟨xo, xt, xn, xv, xa⟩ := x
  obtain ⟨yo, yt, yn, yv, ya⟩ := y
  have A0 := (Below.refl w.heap.size w).alloc (Nat.le_refl _) (.cells (ncs ⟨xo, xt, xn, xv, xa⟩) 44)
  have Z : Cbox (w.alloc (.cells (ncs ⟨xo, xt, xn, xv, xa⟩) 44)).drew w.heap.size (ncs ⟨xo, xt, xn, xv, xa⟩) 44 := Cbox.new w (ncs ⟨xo, xt, xn, xv, xa⟩) 44
  cases s with
  | false =>
    go_enter Tryz.func36, Tryz.ntmps36
    go_wp2
    refine wp_region_held_drew (S := (fun W => Cbox W w.heap.size (ncs ⟨xo, xt, xn, xv, xa⟩) 44 ∧ Below w.heap.size w W)) (by kernel_rfl) ?_ (fun hHeld => ?_)
    · ((try dsimp only); exact ⟨Z, A0.drew⟩)
    refine wpAnyH_take (i := 0) (oi := { dst := some 3, op := Op.load 44 (Operand.tmp 1), type := 44, pos := "expr.go:124", after := #[], guard := none }) (v := ?_) rfl (by kernel_rfl) (by kernel_rfl) (by kernel_rfl) (fun _ _ _ h => h) (Or.inl ⟨by rfl, ?_⟩) (by assumption) ?_
    rotate_left
    · (intro W hSw; (try dsimp only at hSw); have z0 := hSw.1.at 0; have z1 := hSw.1.at 1; have z2 := hSw.1.at 2; have z3 := hSw.1.at 3; have z4 := hSw.1.at 4; have z5 := hSw.1.at 5; have z6 := hSw.1.at 6; have z7 := hSw.1.at 7; clear hSw; first | (go_simp; done) | (go_simp; with_reducible rfl))
    try simp only [Act.put, List.setIfInBounds_toArray, List.set_cons_zero, List.set_cons_succ]
    refine wpAnyH_take (i := 1) (oi := { dst := some 4, op := Op.load 44 (Operand.tmp 1), type := 44, pos := "expr.go:124", after := #[], guard := none }) (v := ?_) rfl (by kernel_rfl) (by kernel_rfl) (by kernel_rfl) (fun _ _ _ h => h) (Or.inl ⟨by rfl, ?_⟩) (by assumption) ?_
    rotate_left
    · (intro W hSw; (try dsimp only at hSw); have z0 := hSw.1.at 0; have z1 := hSw.1.at 1; have z2 := hSw.1.at 2; have z3 := hSw.1.at 3; have z4 := hSw.1.at 4; have z5 := hSw.1.at 5; have z6 := hSw.1.at 6; have z7 := hSw.1.at 7; clear hSw; first | (go_simp; done) | (go_simp; with_reducible rfl))
    try simp only [Act.put, List.setIfInBounds_toArray, List.set_cons_zero, List.set_cons_succ]
    refine wpAnyH_ready (rs := [2]) (by kernel_rfl) (by simp) ?_
    refine AllReadyH.cons (o := { dst := some 5, op := Op.call { callee := Callee.value (Operand.func 58), args := #[Operand.tmp 4], argTypes := #[44] }, type := 44, pos := "expr.go:124", after := #[{ on := 1, ground := Ground.data }], guard := none }) rfl (fun K hK => ?_) AllReadyH.nil
    go_simp
    go_wp2_with (go_at_call 58; refine (M _).mono ?_; rintro e w2 ⟨rfl, g2⟩; have b2 := g2.below; clear g2)
    refine hK.out _ _ ?_ (fun hHeld => ?_)
    · ((try dsimp only); first | exact ⟨hHeld.1.later b3, hHeld.2.trans (b3.mono hHeld.2.size)⟩ | exact ⟨hHeld.1.later b2, hHeld.2.trans (b2.mono hHeld.2.size)⟩)
    clear hK K
    try simp only [Act.put, List.setIfInBounds_toArray, List.set_cons_zero, List.set_cons_succ]
    refine wpAnyH_take (i := 3) (oi := { dst := some 6, op := Op.binOp BinOp.eql 44 (Operand.tmp 3) (Operand.tmp 5) 44, type := 4, pos := "expr.go:124", after := #[{ on := 0, ground := Ground.data }, { on := 2, ground := Ground.data }], guard := none }) (v := ?_) rfl (by kernel_rfl) (by kernel_rfl) (by kernel_rfl) (fun _ _ _ h => h) (Or.inl ⟨by rfl, ?_⟩) (by assumption) ?_
    rotate_left
    · (intro W hSw; (try dsimp only at hSw); have z0 := hSw.1.at 0; have z1 := hSw.1.at 1; have z2 := hSw.1.at 2; have z3 := hSw.1.at 3; have z4 := hSw.1.at 4; have z5 := hSw.1.at 5; have z6 := hSw.1.at 6; have z7 := hSw.1.at 7; clear hSw; first | (go_simp; done) | (go_simp; with_reducible rfl))
    try simp only [Act.put, List.setIfInBounds_toArray, List.set_cons_zero, List.set_cons_succ]
    refine wpAnyH_take (i := 4) (oi := { dst := some 7, op := Op.move (Operand.tmp 6), type := 4, pos := "expr.go:124", after := #[{ on := 3, ground := Ground.data }, { on := 2, ground := Ground.chain }], guard := none }) (v := ?_) rfl (by kernel_rfl) (by kernel_rfl) (by kernel_rfl) (fun _ _ _ h => h) (Or.inl ⟨by rfl, ?_⟩) (by assumption) ?_
    rotate_left
    · (intro W hSw; (try dsimp only at hSw); have z0 := hSw.1.at 0; have z1 := hSw.1.at 1; have z2 := hSw.1.at 2; have z3 := hSw.1.at 3; have z4 := hSw.1.at 4; have z5 := hSw.1.at 5; have z6 := hSw.1.at 6; have z7 := hSw.1.at 7; clear hSw; first | (go_simp; done) | (go_simp; with_reducible rfl))
    try simp only [Act.put, List.setIfInBounds_toArray, List.set_cons_zero, List.set_cons_succ]
    refine wpAnyH_take (i := 5) (oi := { dst := some 8, op := Op.load 44 (Operand.tmp 1), type := 44, pos := "expr.go:124", after := #[{ on := 4, ground := Ground.guard }], guard := some (4, true) }) (v := undef) rfl (by kernel_rfl) (by kernel_rfl) (by kernel_rfl) (fun _ _ _ h => h) (Or.inr ⟨by rfl, rfl⟩) (by assumption) ?_
    try simp only [Act.put, List.setIfInBounds_toArray, List.set_cons_zero, List.set_cons_succ]
    refine wpAnyH_take (i := 6) (oi := { dst := some 9, op := Op.call { callee := Callee.value (Operand.func 59), args := #[Operand.tmp 8], argTypes := #[44] }, type := 4, pos := "expr.go:124", after := #[{ on := 5, ground := Ground.data }, { on := 4, ground := Ground.chain }, { on := 4, ground := Ground.guard }], guard := some (4, true) }) (v := undef) rfl (by kernel_rfl) (by kernel_rfl) (by kernel_rfl) (fun _ _ _ h => h) (Or.inr ⟨by rfl, rfl⟩) (by assumption) ?_
    try simp only [Act.put, List.setIfInBounds_toArray, List.set_cons_zero, List.set_cons_succ]
    refine wpAnyH_take (i := 7) (oi := { dst := some 10, op := Op.pick (Operand.tmp 7) (Operand.tmp 9) (Operand.const (Value.bool false)), type := 4, pos := "expr.go:124", after := #[{ on := 4, ground := Ground.data }, { on := 6, ground := Ground.data }], guard := none }) (v := ?_) rfl (by kernel_rfl) (by kernel_rfl) (by kernel_rfl) (fun _ _ _ h => h) (Or.inl ⟨by rfl, ?_⟩) (by assumption) ?_
    rotate_left
    · (intro W hSw; (try dsimp only at hSw); have z0 := hSw.1.at 0; have z1 := hSw.1.at 1; have z2 := hSw.1.at 2; have z3 := hSw.1.at 3; have z4 := hSw.1.at 4; have z5 := hSw.1.at 5; have z6 := hSw.1.at 6; have z7 := hSw.1.at 7; clear hSw; first | (go_simp; done) | (go_simp; with_reducible rfl))
    try simp only [Act.put, List.setIfInBounds_toArray, List.set_cons_zero, List.set_cons_succ]
    refine wpAnyH_take (i := 8) (oi := { dst := some 2, op := Op.assign (Operand.tmp 10), type := 4, pos := "expr.go:124", after := #[{ on := 7, ground := Ground.data }, { on := 6, ground := Ground.chain }, { on := 0, ground := Ground.phase }, { on := 1, ground := Ground.phase }, { on := 2, ground := Ground.phase }, { on := 3, ground := Ground.phase }, { on := 4, ground := Ground.phase }, { on := 5, ground := Ground.phase }, { on := 6, ground := Ground.phase }, { on := 7, ground := Ground.phase }], guard := none }) (v := ?_) rfl (by kernel_rfl) (by kernel_rfl) (by kernel_rfl) (fun _ _ _ h => h) (Or.inl ⟨by rfl, ?_⟩) (by assumption) ?_
    rotate_left
    · (intro W hSw; (try dsimp only at hSw); have z0 := hSw.1.at 0; have z1 := hSw.1.at 1; have z2 := hSw.1.at 2; have z3 := hSw.1.at 3; have z4 := hSw.1.at 4; have z5 := hSw.1.at 5; have z6 := hSw.1.at 6; have z7 := hSw.1.at 7; clear hSw; first | (go_simp; done) | (go_simp; with_reducible rfl))
    try simp only [Act.put, List.setIfInBounds_toArray, List.set_cons_zero, List.set_cons_succ]
    refine wpAnyH_done (by kernel_rfl) ?_ _
    go_wp2
    go_ret
    exact ⟨rfl, hHeld.2⟩
  | true =>
    go_enter Tryz.func36, Tryz.ntmps36
    go_wp2
    refine wp_region_held_drew (S := (fun W => Cbox W w.heap.size (ncs ⟨xo, xt, xn, xv, xa⟩) 44 ∧ Below w.heap.size w W)) (by kernel_rfl) ?_ (fun hHeld => ?_)
    · ((try dsimp only); exact ⟨Z, A0.drew⟩)
    refine wpAnyH_take (i := 0) (oi := { dst := some 3, op := Op.load 44 (Operand.tmp 1), type := 44, pos := "expr.go:124", after := #[], guard := none }) (v := ?_) rfl (by kernel_rfl) (by kernel_rfl) (by kernel_rfl) (fun _ _ _ h => h) (Or.inl ⟨by rfl, ?_⟩) (by assumption) ?_
    rotate_left
    · (intro W hSw; (try dsimp only at hSw); have z0 := hSw.1.at 0; have z1 := hSw.1.at 1; have z2 := hSw.1.at 2; have z3 := hSw.1.at 3; have z4 := hSw.1.at 4; have z5 := hSw.1.at 5; have z6 := hSw.1.at 6; have z7 := hSw.1.at 7; clear hSw; first | (go_simp; done) | (go_simp; with_reducible rfl))
    try simp only [Act.put, List.setIfInBounds_toArray, List.set_cons_zero, List.set_cons_succ]
    refine wpAnyH_take (i := 1) (oi := { dst := some 4, op := Op.load 44 (Operand.tmp 1), type := 44, pos := "expr.go:124", after := #[], guard := none }) (v := ?_) rfl (by kernel_rfl) (by kernel_rfl) (by kernel_rfl) (fun _ _ _ h => h) (Or.inl ⟨by rfl, ?_⟩) (by assumption) ?_
    rotate_left
    · (intro W hSw; (try dsimp only at hSw); have z0 := hSw.1.at 0; have z1 := hSw.1.at 1; have z2 := hSw.1.at 2; have z3 := hSw.1.at 3; have z4 := hSw.1.at 4; have z5 := hSw.1.at 5; have z6 := hSw.1.at 6; have z7 := hSw.1.at 7; clear hSw; first | (go_simp; done) | (go_simp; with_reducible rfl))
    try simp only [Act.put, List.setIfInBounds_toArray, List.set_cons_zero, List.set_cons_succ]
    refine wpAnyH_ready (rs := [2]) (by kernel_rfl) (by simp) ?_
    refine AllReadyH.cons (o := { dst := some 5, op := Op.call { callee := Callee.value (Operand.func 58), args := #[Operand.tmp 4], argTypes := #[44] }, type := 44, pos := "expr.go:124", after := #[{ on := 1, ground := Ground.data }], guard := none }) rfl (fun K hK => ?_) AllReadyH.nil
    go_simp
    go_wp2_with (go_at_call 58; refine (M _).mono ?_; rintro e w2 ⟨rfl, g2⟩; have b2 := g2.below; clear g2)
    refine hK.out _ _ ?_ (fun hHeld => ?_)
    · ((try dsimp only); first | exact ⟨hHeld.1.later b3, hHeld.2.trans (b3.mono hHeld.2.size)⟩ | exact ⟨hHeld.1.later b2, hHeld.2.trans (b2.mono hHeld.2.size)⟩)
    clear hK K
    try simp only [Act.put, List.setIfInBounds_toArray, List.set_cons_zero, List.set_cons_succ]
    refine wpAnyH_take (i := 3) (oi := { dst := some 6, op := Op.binOp BinOp.eql 44 (Operand.tmp 3) (Operand.tmp 5) 44, type := 4, pos := "expr.go:124", after := #[{ on := 0, ground := Ground.data }, { on := 2, ground := Ground.data }], guard := none }) (v := ?_) rfl (by kernel_rfl) (by kernel_rfl) (by kernel_rfl) (fun _ _ _ h => h) (Or.inl ⟨by rfl, ?_⟩) (by assumption) ?_
    rotate_left
    · (intro W hSw; (try dsimp only at hSw); have z0 := hSw.1.at 0; have z1 := hSw.1.at 1; have z2 := hSw.1.at 2; have z3 := hSw.1.at 3; have z4 := hSw.1.at 4; have z5 := hSw.1.at 5; have z6 := hSw.1.at 6; have z7 := hSw.1.at 7; clear hSw; first | (go_simp; done) | (go_simp; with_reducible rfl))
    try simp only [Act.put, List.setIfInBounds_toArray, List.set_cons_zero, List.set_cons_succ]
    refine wpAnyH_take (i := 4) (oi := { dst := some 7, op := Op.move (Operand.tmp 6), type := 4, pos := "expr.go:124", after := #[{ on := 3, ground := Ground.data }, { on := 2, ground := Ground.chain }], guard := none }) (v := ?_) rfl (by kernel_rfl) (by kernel_rfl) (by kernel_rfl) (fun _ _ _ h => h) (Or.inl ⟨by rfl, ?_⟩) (by assumption) ?_
    rotate_left
    · (intro W hSw; (try dsimp only at hSw); have z0 := hSw.1.at 0; have z1 := hSw.1.at 1; have z2 := hSw.1.at 2; have z3 := hSw.1.at 3; have z4 := hSw.1.at 4; have z5 := hSw.1.at 5; have z6 := hSw.1.at 6; have z7 := hSw.1.at 7; clear hSw; first | (go_simp; done) | (go_simp; with_reducible rfl))
    try simp only [Act.put, List.setIfInBounds_toArray, List.set_cons_zero, List.set_cons_succ]
    refine wpAnyH_take (i := 5) (oi := { dst := some 8, op := Op.load 44 (Operand.tmp 1), type := 44, pos := "expr.go:124", after := #[{ on := 4, ground := Ground.guard }], guard := some (4, true) }) (v := ?_) rfl (by kernel_rfl) (by kernel_rfl) (by kernel_rfl) (fun _ _ _ h => h) (Or.inl ⟨by rfl, ?_⟩) (by assumption) ?_
    rotate_left
    · (intro W hSw; (try dsimp only at hSw); have z0 := hSw.1.at 0; have z1 := hSw.1.at 1; have z2 := hSw.1.at 2; have z3 := hSw.1.at 3; have z4 := hSw.1.at 4; have z5 := hSw.1.at 5; have z6 := hSw.1.at 6; have z7 := hSw.1.at 7; clear hSw; first | (go_simp; done) | (go_simp; with_reducible rfl))
    try simp only [Act.put, List.setIfInBounds_toArray, List.set_cons_zero, List.set_cons_succ]
    refine wpAnyH_ready (rs := [6]) (by kernel_rfl) (by simp) ?_
    refine AllReadyH.cons (o := { dst := some 9, op := Op.call { callee := Callee.value (Operand.func 59), args := #[Operand.tmp 8], argTypes := #[44] }, type := 4, pos := "expr.go:124", after := #[{ on := 5, ground := Ground.data }, { on := 4, ground := Ground.chain }, { on := 4, ground := Ground.guard }], guard := some (4, true) }) rfl (fun K hK => ?_) AllReadyH.nil
    go_simp
    go_wp2_with (go_at_call 59; refine (F _ hHeld.2).mono ?_; rintro e w3 ⟨rfl, b3⟩)
    refine hK.out _ _ ?_ (fun hHeld => ?_)
    · ((try dsimp only); first | exact ⟨hHeld.1.later b3, hHeld.2.trans (b3.mono hHeld.2.size)⟩ | exact ⟨hHeld.1.later b2, hHeld.2.trans (b2.mono hHeld.2.size)⟩)
    clear hK K
    try simp only [Act.put, List.setIfInBounds_toArray, List.set_cons_zero, List.set_cons_succ]
    refine wpAnyH_take (i := 7) (oi := { dst := some 10, op := Op.pick (Operand.tmp 7) (Operand.tmp 9) (Operand.const (Value.bool false)), type := 4, pos := "expr.go:124", after := #[{ on := 4, ground := Ground.data }, { on := 6, ground := Ground.data }], guard := none }) (v := ?_) rfl (by kernel_rfl) (by kernel_rfl) (by kernel_rfl) (fun _ _ _ h => h) (Or.inl ⟨by rfl, ?_⟩) (by assumption) ?_
    rotate_left
    · (intro W hSw; (try dsimp only at hSw); have z0 := hSw.1.at 0; have z1 := hSw.1.at 1; have z2 := hSw.1.at 2; have z3 := hSw.1.at 3; have z4 := hSw.1.at 4; have z5 := hSw.1.at 5; have z6 := hSw.1.at 6; have z7 := hSw.1.at 7; clear hSw; first | (go_simp; done) | (go_simp; with_reducible rfl))
    try simp only [Act.put, List.setIfInBounds_toArray, List.set_cons_zero, List.set_cons_succ]
    refine wpAnyH_take (i := 8) (oi := { dst := some 2, op := Op.assign (Operand.tmp 10), type := 4, pos := "expr.go:124", after := #[{ on := 7, ground := Ground.data }, { on := 6, ground := Ground.chain }, { on := 0, ground := Ground.phase }, { on := 1, ground := Ground.phase }, { on := 2, ground := Ground.phase }, { on := 3, ground := Ground.phase }, { on := 4, ground := Ground.phase }, { on := 5, ground := Ground.phase }, { on := 6, ground := Ground.phase }, { on := 7, ground := Ground.phase }], guard := none }) (v := ?_) rfl (by kernel_rfl) (by kernel_rfl) (by kernel_rfl) (fun _ _ _ h => h) (Or.inl ⟨by rfl, ?_⟩) (by assumption) ?_
    rotate_left
    · (intro W hSw; (try dsimp only at hSw); have z0 := hSw.1.at 0; have z1 := hSw.1.at 1; have z2 := hSw.1.at 2; have z3 := hSw.1.at 3; have z4 := hSw.1.at 4; have z5 := hSw.1.at 5; have z6 := hSw.1.at 6; have z7 := hSw.1.at 7; clear hSw; first | (go_simp; done) | (go_simp; with_reducible rfl))
    try simp only [Act.put, List.setIfInBounds_toArray, List.set_cons_zero, List.set_cons_succ]
    refine wpAnyH_done (by kernel_rfl) ?_ _
    go_wp2
    go_ret
    exact ⟨rfl, hHeld.2⟩

end Go.Proofs.YtclhmmgdhagloaaGreatDoor
