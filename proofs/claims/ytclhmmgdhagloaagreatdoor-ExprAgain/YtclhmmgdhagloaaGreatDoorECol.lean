/-
  The contracts of slices.Contains at nodes and of expr.Columns.
-/
import Derived.Test.YtclhmmgdhagloaaGreatDoorMLEOwn
namespace Go.Proofs.YtclhmmgdhagloaaGreatDoor
open Go.RowKit Go.Shelf
attribute [local go_sem] cell?_more frozen?_more setCell_more more_lt more_more more_drew more_drewN setCell_drewN alloc_drewN

/-- Is a node among others? -/
def memN (l : List Nd) (v : Nd) : Bool := l.any fun x => sameN v x

set_option maxRecDepth 20000 in
set_option maxHeartbeats 4000000 in
theorem idx_any (ao : Option Addr) (cap : Nat) (l : List Nd) (v : Nd) (w : World) (hv : Nw w ao l) (hn : l.length ≤ 140737488351232) :
    Calls Tryz.prog 60 #[.slice ao l.length cap, ndv v] w fun e w' => (∃ i : Int, e = .returned (.int .i64 i) ∧ decide (0 ≤ i) = memN l v) ∧ Below w.heap.size w w' := by
  obtain ⟨R, hR⟩ : ∃ R, R = memN l v := ⟨_, rfl⟩
  rw [← hR]
  have HR : Hid (R = memN (l.drop 0) v) := hR
  clear hR
  obtain ⟨n, hnn⟩ : ∃ n, l.length = n := ⟨_, rfl⟩
  rw [hnn] at hn ⊢
  have HN : Hid (l.length = n) := hnn
  clear hnn
  obtain ⟨vo, vt, vn, vv', va'⟩ := v
  go_enter Tryz.func60, Tryz.ntmps60
  go_wp2
  go_loopw [8] (fun r wr => ∃ k : Nat, r = .int .i64 (k : Int) ∧ k ≤ n ∧ Cbox wr w.heap.size (ncs ⟨vo, vt, vn, vv', va'⟩) 44 ∧ Below w.heap.size w wr ∧ Hid (R = memN (l.drop k) ⟨vo, vt, vn, vv', va'⟩)) (fun r _ => n - (intOf r).toNat)
  case atStart => exact ⟨0, rfl, Nat.zero_le _, Cbox.new w _ _, (Below.refl _ w).alloc (Nat.le_refl _) _, HR⟩
  case round =>
    obtain ⟨k, rfl, hk, hc, hb, hH⟩ := hrel
    have sB := hb.size
    by_cases hlt : k < n
    · have hlt' : (k : Int) < (n : Int) := by omega
      have k0 : (0 : Int) ≤ (k : Int) := by omega
      have hkl : k < l.length := by rw [HN.out]; exact hlt
      obtain ⟨b, off, rfl, hcl⟩ := hv (by omega)
      obtain ⟨c0, c1, c2, c3, c4, c5, c6, c7⟩ := ((hcl k hkl).later hb)
      have hg := (hcl k hkl).lt
      have hg' : b < wr.heap.size := by omega
      have hdr : l.drop k = l[k] :: l.drop (k + 1) := List.drop_eq_getElem_cons hkl
      obtain ⟨x, he⟩ : ∃ x : Nd, x = l[k] := ⟨_, rfl⟩
      rw [← he] at c0 c1 c2 c3 c4 c5 c6 c7 hdr
      have hst : R = (sameN ⟨vo, vt, vn, vv', va'⟩ x || memN (l.drop (k + 1)) ⟨vo, vt, vn, vv', va'⟩) := by
        rw [hH.out, hdr]; rfl
      have HST : Hid (R = (sameN ⟨vo, vt, vn, vv', va'⟩ x || memN (l.drop (k + 1)) ⟨vo, vt, vn, vv', va'⟩)) := hst
      have eqx := fun W => eqNd ⟨vo, vt, vn, vv', va'⟩ x W
      obtain ⟨xo, xt, xn, xv, xa⟩ := x
      generalize sameN ⟨vo, vt, vn, vv', va'⟩ ⟨xo, xt, xn, xv, xa⟩ = q at eqx HST
      have eqx' : ∀ W, (Op.equalIn 10000 44 (.agg #[.int .i64 vo, .string ⟨vt.toArray⟩, .string ⟨vn.toArray⟩, .int .i64 vv'.k, .int .i64 vv'.n, .int .i64 vv'.m, .string ⟨vv'.b.toArray⟩, .int .i64 va']) (.agg #[.int .i64 xo, .string ⟨xt.toArray⟩, .string ⟨xn.toArray⟩, .int .i64 xv.k, .int .i64 xv.n, .int .i64 xv.m, .string ⟨xv.b.toArray⟩, .int .i64 xa])).run Tryz.prog W = .ok q W := eqx
      have z0 := hc.at 0
      have z1 := hc.at 1
      have z2 := hc.at 2
      have z3 := hc.at 3
      have z4 := hc.at 4
      have z5 := hc.at 5
      have z6 := hc.at 6
      have z7 := hc.at 7
      have zl := hc.lt
      have HC : Hid (Cbox wr w.heap.size (ncs ⟨vo, vt, vn, vv', va'⟩) 44) := hc
      clear eqx hst hdr he hcl hH HR hc
      cases q with
      | true =>
        go_wp2
        go_region
        all_goals go_wp2
        all_goals go_ret
        all_goals exact ⟨⟨(k : Int), rfl, by rw [HST.out]; simp⟩, by first | exact hb | exact hb.drew⟩
      | false =>
        have HF : Hid (R = memN (l.drop (k + 1)) ⟨vo, vt, vn, vv', va'⟩) := by show R = _; rw [HST.out, Bool.false_or]
        go_wp2
        go_region
        all_goals go_wp2
        all_goals exact ⟨⟨k + 1, by rw [cst1], by omega, HC.out, by first | exact hb | exact hb.drew, HF⟩, by simp [intOf]; omega⟩
    · have hlt' : ¬ (k : Int) < (n : Int) := by omega
      have HF : Hid (R = false) := by
        show R = false
        rw [hH.out, List.drop_eq_nil_of_le (by rw [HN.out]; omega)]; rfl
      clear hH HR hc
      go_wp2
      go_ret
      exact ⟨⟨-1, rfl, by rw [HF.out]; rfl⟩, hb⟩

theorem contains_nd (ao : Option Addr) (cap : Nat) (l : List Nd) (v : Nd) (w : World) (hv : Nw w ao l) (hn : l.length ≤ 140737488351232) :
    Calls Tryz.prog 37 #[.slice ao l.length cap, ndv v] w fun e w' => e = .returned (.bool (memN l v)) ∧ Below w.heap.size w w' := by
  have I : ∀ W, Below w.heap.size w W → _ := fun W h => idx_any ao cap l v W (hv.later h) hn
  obtain ⟨vo, vt, vn, vv', va'⟩ := v
  have A0 := (Below.refl w.heap.size w).alloc (Nat.le_refl _) (.cells (ncs ⟨vo, vt, vn, vv', va'⟩) 44)
  clear hv
  generalize memN l ⟨vo, vt, vn, vv', va'⟩ = q at *
  generalize l.length = n at *
  go_enter Tryz.func37, Tryz.ntmps37
  go_wp2_with fail
  refine (I _ (by first | exact A0 | exact Below.refl _ _)).mono ?_
  rintro e w1 ⟨⟨i, rfl, hi⟩, b1⟩
  have HI : Hid (decide (0 ≤ i) = q) := hi
  clear hi I
  go_wp2
  go_ret
  exact ⟨by rw [← HI.out]; rfl, by first | exact A0.trans (b1.mono A0.size) | exact b1⟩

/-- The columns of nodes, each once. -/
def colsL : List Nd → List Nd → List Nd
  | [], out => out
  | x :: l, out => colsL l (if x.o = 2 ∧ memN out x = false then out ++ [⟨2, x.t, x.n, vz0, 0⟩] else out)

theorem Nowns.later {w w' : World} {base : Nat} {v : Value} {x : List Nd} (h : Nowns w base v x) (hb : Below w.heap.size w w') : Nowns w' base v x :=
  World.ownsRow.kept (row := none) h ⟨hb.os, hb.tape, hb.output, hb.size, fun k hk _ => hb.block k hk⟩ (by
    cases hv : v.ownBlock with
    | none => exact .inl rfl
    | some k => exact .inr (by simp))

set_option maxRecDepth 20000 in
set_option maxHeartbeats 4000000 in
theorem columns_any (ao : Option Addr) (cap : Nat) (l : List Nd) (w : World) (hv : Nw w ao l) (hn : l.length ≤ 140737488351232) (hs : shN l) (hT : Tabs w) :
    Calls Tryz.prog 14 #[.slice ao l.length cap] w fun e w' => (∃ v, e = .returned v ∧ Nowns w' w.heap.size v (if 0 < depN mayN l then colsL l [] else [])) ∧ Below w.heap.size w w' := by
  obtain ⟨i0, hi, hz0, hz1, hz2⟩ := info_parts infoNd
  have RI := right_of ao cap l w hv hn hs hT
  by_cases hd : 0 < depN mayN l
  case neg =>
    rw [if_neg hd]
    rw [decide_eq_false hd] at RI
    clear hd hv hs hT
    generalize l.length = n at *
    go_enter Tryz.func14, Tryz.ntmps14
    go_wp2_with (go_at_call 9; refine RI.mono ?_; rintro e w1 ⟨rfl, b1⟩)
    go_ret
    exact ⟨⟨_, rfl, World.ownsRow_nil _ _ _ _⟩, b1⟩
  rw [if_pos hd]
  rw [decide_eq_true hd] at RI
  have hlen : l.length ≤ 256 := by
    unfold depN at hd
    split at hd
    · assumption
    · omega
  obtain ⟨R, hR⟩ : ∃ R, R = colsL l [] := ⟨_, rfl⟩
  rw [← hR]
  have HR : Hid (colsL (l.drop 0) [] = R) := hR.symm
  have HSH : Hid (shN l) := hs
  clear hR hd hs hT
  obtain ⟨n, hnn⟩ : ∃ n, l.length = n := ⟨_, rfl⟩
  rw [hnn] at hn hlen RI ⊢
  have HN : Hid (l.length = n) := hnn
  clear hnn
  go_enter Tryz.func14, Tryz.ntmps14
  go_wp2_with (go_at_call 9; refine RI.mono ?_; rintro e w1 ⟨rfl, b1⟩)
  go_loopw [3, 11] (fun r3 r11 wr => ∃ (k : Nat) (out : List Nd), r11 = .int .i64 (k : Int) ∧ k ≤ n ∧ out.length ≤ k ∧ Nowns wr w.heap.size r3 out ∧ Below w.heap.size w wr ∧ Hid (colsL (l.drop k) out = R)) (fun _ r _ => n - (intOf r).toNat)
  case atStart => exact ⟨0, [], rfl, Nat.zero_le _, Nat.zero_le _, World.ownsRow_nil _ _ _ _, b1, HR⟩
  case round =>
    obtain ⟨k, out, rfl, hk, hol, ho, hb, hH⟩ := hrel
    have sB := hb.size
    by_cases hlt : k < n
    · have hlt' : (k : Int) < (n : Int) := by omega
      have hkl : k < l.length := by rw [HN.out]; exact hlt
      obtain ⟨b, off, rfl, hcl⟩ := hv (by omega)
      obtain ⟨c0, c1, c2, c3, c4, c5, c6, c7⟩ := ((hcl k hkl).later hb)
      have hg := (hcl k hkl).lt
      have hg' : b < wr.heap.size := by omega
      have hdr : l.drop k = l[k] :: l.drop (k + 1) := List.drop_eq_getElem_cons hkl
      have hshx := HSH.out l[k] (List.getElem_mem _)
      obtain ⟨x, he⟩ : ∃ x : Nd, x = l[k] := ⟨_, rfl⟩
      rw [← he] at c0 c1 c2 c3 c4 c5 c6 c7 hdr hshx
      have HST : Hid (colsL (l.drop (k + 1)) (if x.o = 2 ∧ memN out x = false then out ++ [⟨2, x.t, x.n, vz0, 0⟩] else out) = R) := by
        have := hH.out
        rw [hdr] at this
        exact this
      obtain ⟨oa, oc, rfl, hnw⟩ := ho.lies
      have A1 : Below w.heap.size w (wr.alloc (.cells (ncs x) 44)) := hb.alloc sB _
      have A2 : Below wr.heap.size wr (wr.alloc (.cells (ncs x) 44)) := (Below.refl _ _).alloc (Nat.le_refl _) _
      have CN := contains_nd oa oc out x _ (hnw.later A2) (by omega)
      have BX : Hid (Cbox (wr.alloc (.cells (ncs x) 44)) wr.heap.size (ncs x) 44) := Cbox.new wr _ _
      have HO : Hid (Nowns wr w.heap.size (.slice oa out.length oc) out) := ho
      clear hcl he hH HR hdr ho
      by_cases h2 : x.o = 2
      case neg =>
        have h2' : (x.o == 2) = false := by rw [beq_eq_false_iff_ne]; exact h2
        rw [if_neg (fun h => h2 h.1)] at HST
        clear CN BX
        obtain ⟨xo, xt, xn, xv, xa⟩ := x
        simp only at h2' h2
        go_wp2
        exact ⟨⟨k + 1, out, by rw [cst1], by omega, by omega, World.ownsRow.alloc HO.out _, A1, HST⟩, by simp [intOf]; omega⟩
      · obtain ⟨xo, xt, xn, xv, xa⟩ := x
        simp only at h2
        subst h2
        simp only at hshx
        cases hm : memN out ⟨2, xt, xn, xv, xa⟩ with
        | true =>
          rw [hm] at CN
          rw [if_neg (by rw [hm]; simp)] at HST
          go_wp2_with (go_at_call 37; refine CN.mono ?_; rintro e w2 ⟨rfl, b2⟩)
          have B2 : Below w.heap.size w w2 := A1.trans (b2.mono A1.size)
          exact ⟨⟨k + 1, out, by rw [cst1], by omega, by omega, Nowns.later (World.ownsRow.alloc HO.out _) b2, B2, HST⟩, by simp [intOf]; omega⟩
        | false =>
          rw [hm] at CN
          rw [if_pos (by rw [hm]; exact ⟨rfl, rfl⟩)] at HST
          have C1 := fun W => clone_any ⟨xt.toArray⟩ W hshx.1
          have C2 := fun W => clone_any ⟨xn.toArray⟩ W hshx.2
          go_wp2_with (go_at_call 37; refine CN.mono ?_; rintro e w2 ⟨rfl, b2⟩)
          have B2 : Below w.heap.size w w2 := A1.trans (b2.mono A1.size)
          have ho2 := Nowns.later (World.ownsRow.alloc HO.out (.cells (ncs ⟨2, xt, xn, xv, xa⟩) 44)) b2
          have bx2 := Cbox.later BX.out b2
          refine wp_region_held_drew (S := (fun W => Cbox W wr.heap.size (ncs ⟨2, xt, xn, xv, xa⟩) 44 ∧ Below w.heap.size w W)) (by kernel_rfl) ?_ (fun hHeld => ?_)
          · exact ⟨bx2, B2.drew⟩
          refine wpAnyH_take (i := 0) (oi := { dst := some 24, op := Op.move (Operand.tmp 3), type := 24, pos := "expr.go:65", after := #[], guard := none }) (v := ?_) rfl (by kernel_rfl) (by kernel_rfl) (by kernel_rfl) (fun _ _ _ h => h) (Or.inl ⟨by rfl, ?_⟩) (by assumption) ?_
          rotate_left
          · (intro W hSw; (try dsimp only at hSw); have C := hSw.1; have e1 := C.at 1; have e2 := C.at 2; clear C; first | (go_simp; done) | (go_simp; with_reducible rfl))
          try simp only [Act.put, List.setIfInBounds_toArray, List.set_cons_zero, List.set_cons_succ]
          refine wpAnyH_take (i := 1) (oi := { dst := some 25, op := Op.fieldAddr 44 (Operand.tmp 5) 1, type := 0, pos := "expr.go:65", after := #[], guard := none }) (v := ?_) rfl (by kernel_rfl) (by kernel_rfl) (by kernel_rfl) (fun _ _ _ h => h) (Or.inl ⟨by rfl, ?_⟩) (by assumption) ?_
          rotate_left
          · (intro W hSw; (try dsimp only at hSw); have C := hSw.1; have e1 := C.at 1; have e2 := C.at 2; clear C; first | (go_simp; done) | (go_simp; with_reducible rfl))
          try simp only [Act.put, List.setIfInBounds_toArray, List.set_cons_zero, List.set_cons_succ]
          refine wpAnyH_take (i := 2) (oi := { dst := some 26, op := Op.load 9 (Operand.tmp 25), type := 9, pos := "expr.go:65", after := #[{ on := 1, ground := Ground.data }], guard := none }) (v := ?_) rfl (by kernel_rfl) (by kernel_rfl) (by kernel_rfl) (fun _ _ _ h => h) (Or.inl ⟨by rfl, ?_⟩) (by assumption) ?_
          rotate_left
          · (intro W hSw; (try dsimp only at hSw); have C := hSw.1; have e1 := C.at 1; have e2 := C.at 2; clear C; first | (go_simp; done) | (go_simp; with_reducible rfl))
          try simp only [Act.put, List.setIfInBounds_toArray, List.set_cons_zero, List.set_cons_succ]
          refine wpAnyH_take (i := 4) (oi := { dst := some 28, op := Op.fieldAddr 44 (Operand.tmp 5) 2, type := 0, pos := "expr.go:65", after := #[], guard := none }) (v := ?_) rfl (by kernel_rfl) (by kernel_rfl) (by kernel_rfl) (fun _ _ _ h => h) (Or.inl ⟨by rfl, ?_⟩) (by assumption) ?_
          rotate_left
          · (intro W hSw; (try dsimp only at hSw); have C := hSw.1; have e1 := C.at 1; have e2 := C.at 2; clear C; first | (go_simp; done) | (go_simp; with_reducible rfl))
          try simp only [Act.put, List.setIfInBounds_toArray, List.set_cons_zero, List.set_cons_succ]
          refine wpAnyH_take (i := 5) (oi := { dst := some 29, op := Op.load 9 (Operand.tmp 28), type := 9, pos := "expr.go:65", after := #[{ on := 4, ground := Ground.data }], guard := none }) (v := ?_) rfl (by kernel_rfl) (by kernel_rfl) (by kernel_rfl) (fun _ _ _ h => h) (Or.inl ⟨by rfl, ?_⟩) (by assumption) ?_
          rotate_left
          · (intro W hSw; (try dsimp only at hSw); have C := hSw.1; have e1 := C.at 1; have e2 := C.at 2; clear C; first | (go_simp; done) | (go_simp; with_reducible rfl))
          try simp only [Act.put, List.setIfInBounds_toArray, List.set_cons_zero, List.set_cons_succ]
          refine wpAnyH_ready (rs := [3]) (by kernel_rfl) (by simp) ?_
          refine AllReadyH.cons (o := { dst := some 27, op := Op.call { callee := Callee.value (Operand.func 38), args := #[Operand.tmp 26], argTypes := #[9] }, type := 9, pos := "expr.go:65", after := #[{ on := 2, ground := Ground.data }], guard := none }) rfl (fun K hK => ?_) AllReadyH.nil
          go_simp
          go_wp2_with (go_at_call 38; refine (C1 _).mono ?_; rintro e w3 ⟨rfl, b3⟩)
          refine hK.out _ _ ?_ (fun hHeld => ?_)
          · ((try dsimp only); exact ⟨Cbox.later hHeld.1 b3, below_trans hHeld.2 b3⟩)
          clear hK K
          try simp only [Act.put, List.setIfInBounds_toArray, List.set_cons_zero, List.set_cons_succ]
          refine wpAnyH_ready (rs := [6]) (by kernel_rfl) (by simp) ?_
          refine AllReadyH.cons (o := { dst := some 30, op := Op.call { callee := Callee.value (Operand.func 38), args := #[Operand.tmp 29], argTypes := #[9] }, type := 9, pos := "expr.go:65", after := #[{ on := 5, ground := Ground.data }, { on := 3, ground := Ground.chain }], guard := none }) rfl (fun K hK => ?_) AllReadyH.nil
          go_simp
          go_wp2_with (go_at_call 38; refine (C2 _).mono ?_; rintro e w4 ⟨rfl, b4⟩)
          refine hK.out _ _ ?_ (fun hHeld => ?_)
          · ((try dsimp only); exact ⟨Cbox.later hHeld.1 b4, below_trans hHeld.2 b4⟩)
          clear hK K
          try simp only [Act.put, List.setIfInBounds_toArray, List.set_cons_zero, List.set_cons_succ]
          have H4 : Hid (Below w2.heap.size w2 w4) := below_trans (below_trans ((Below.refl w2.heap.size w2).drew) b3) b4
          have s4 := hHeld.2.size
          have s2 := B2.size
          refine wpAnyH_take (i := 7) (oi := { dst := some 31, op := Op.build 44 #[(0, Operand.const (Value.int IntKind.i64 2)), (1, Operand.tmp 27), (2, Operand.tmp 30)], type := 44, pos := "expr.go:65", after := #[{ on := 3, ground := Ground.data }, { on := 6, ground := Ground.data }], guard := none }) (v := ?_) rfl (by kernel_rfl) (by kernel_rfl) (by kernel_rfl) (fun _ _ _ h => h) (Or.inl ⟨by rfl, ?_⟩) (by assumption) ?_
          rotate_left
          · (intro W hSw; (try dsimp only at hSw); have C := hSw.1; have e1 := C.at 1; have e2 := C.at 2; clear C; first | (go_simp; done) | (go_simp; with_reducible rfl))
          try simp only [Act.put, List.setIfInBounds_toArray, List.set_cons_zero, List.set_cons_succ]
          refine wpAnyH_ready (rs := [8]) (by kernel_rfl) (by simp) ?_
          refine AllReadyH.cons (o := { dst := some 32, op := Op.buildSlice 24 1 #[(0, Operand.tmp 31)], type := 24, pos := "expr.go:65", after := #[{ on := 7, ground := Ground.data }], guard := none }) rfl (fun K hK => ?_) AllReadyH.nil
          go_simp
          refine hK.out _ _ ?_ (fun hHeld => ?_)
          · ((try dsimp only); exact ⟨Cbox.later hHeld.1 ((Below.refl _ _).alloc (Nat.le_refl _) _), hHeld.2.alloc hHeld.2.size _⟩)
          clear hK K
          try simp only [Act.put, List.setIfInBounds_toArray, List.set_cons_zero, List.set_cons_succ]
          refine wpAnyH_ready (rs := [9]) (by kernel_rfl) (by simp) ?_
          refine AllReadyH.cons (o := { dst := some 33, op := Op.call { callee := Callee.builtin Builtin.append, args := #[Operand.tmp 24, Operand.tmp 32], argTypes := #[24, 24] }, type := 24, pos := "expr.go:65", after := #[{ on := 0, ground := Ground.data }, { on := 8, ground := Ground.data }, { on := 6, ground := Ground.chain }], guard := none }) rfl (fun K hK => ?_) AllReadyH.nil
          (refine step_append_lies _ (by rfl) _ _ _ (by rfl) w.heap.size 44 i0 _ 8 88 Tryz.underlying24 hi hz0 hz1 hz2 rfl (by omega) _ out.length (ncells out) (by rfl) (World.ownsRow.alloc (Nowns.later ho2 H4.out) _) ⟨w4.heap.size, 0, none⟩ 1 1 (ncs ⟨2, xt, xn, vz0, 0⟩).toList (by rfl) (by rfl) (World.news_of_block (cs := ncs ⟨2, xt, xn, vz0, 0⟩) (t := 44) (fr := (0, 0)) (heap_alloc_new w4 _)) (one_nd ⟨2, xt, xn, vz0, 0⟩) (by omega) (by unfold maxLen; omega) (by omega) (by simp; omega) (w4.heap.size + 1) (by simp) ?_; intro gg gc w5 hown5 hgrow hat hlt5)
          have hrw := World.ownsRow.lt HO.out
          refine hK.out _ _ ?_ (fun hHeld => ?_)
          · exact ⟨Cbox.grown hHeld.1 hgrow (fun e => by have := (hrw _ e.symm).2; omega), hHeld.2.grown hgrow (by simp; omega) (fun k hk => (hrw k hk).1)⟩
          clear hK K
          try simp only [Act.put, List.setIfInBounds_toArray, List.set_cons_zero, List.set_cons_succ]
          refine wpAnyH_take (i := 10) (oi := { dst := some 3, op := Op.assign (Operand.tmp 33), type := 24, pos := "expr.go:65", after := #[{ on := 9, ground := Ground.data }, { on := 9, ground := Ground.chain }, { on := 0, ground := Ground.phase }, { on := 1, ground := Ground.phase }, { on := 2, ground := Ground.phase }, { on := 3, ground := Ground.phase }, { on := 4, ground := Ground.phase }, { on := 5, ground := Ground.phase }, { on := 6, ground := Ground.phase }, { on := 7, ground := Ground.phase }, { on := 8, ground := Ground.phase }, { on := 9, ground := Ground.phase }], guard := none }) (v := ?_) rfl (by kernel_rfl) (by kernel_rfl) (by kernel_rfl) (fun _ _ _ h => h) (Or.inl ⟨by rfl, ?_⟩) (by assumption) ?_
          rotate_left
          · (intro W hSw; (try dsimp only at hSw); have C := hSw.1; have e1 := C.at 1; have e2 := C.at 2; clear C; first | (go_simp; done) | (go_simp; with_reducible rfl))
          try simp only [Act.put, List.setIfInBounds_toArray, List.set_cons_zero, List.set_cons_succ]
          refine wpAnyH_done (by kernel_rfl) ?_ _
          go_wp2
          have ho5 := Nowns.push (x := ⟨2, xt, xn, vz0, 0⟩) hown5 rfl
          exact ⟨⟨k + 1, out ++ [⟨2, xt, xn, vz0, 0⟩], by rw [cst1], by omega, by simp; omega, ho5, hHeld.2, HST⟩, by simp [intOf]; omega⟩
    · have hlt' : ¬ (k : Int) < (n : Int) := by omega
      have HF : Hid (out = R) := by
        have := hH.out
        rw [List.drop_eq_nil_of_le (by rw [HN.out]; omega)] at this
        exact this
      clear hH HR
      go_wp2
      go_ret
      have h := HF.out
      subst h
      exact ⟨⟨_, rfl, ho⟩, hb⟩
end Go.Proofs.YtclhmmgdhagloaaGreatDoor
