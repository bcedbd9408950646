/-
  The contract of expr.Print.
-/
import Derived.Test.YtclhmmgdhagloaaGreatDoorMOEPrt5
namespace Go.Proofs.YtclhmmgdhagloaaGreatDoor
open Go.RowKit Go.Shelf
attribute [local go_sem] cell?_more frozen?_more setCell_more more_lt more_more more_drew more_drewN setCell_drewN alloc_drewN

set_option maxRecDepth 20000 in
set_option maxHeartbeats 4000000 in
theorem print_walk (pv : Va → List UInt8) (B : Nat) (ao : Option Addr) (cap : Nat) (l : List Nd) (w : World) (hv : Nw w ao l) (hn : l.length ≤ 140737488351232) (hs : shN l) (hT : Tabs w) (hS : Sg w) (hB : B ≤ 10000000000)
    (hl : 0 < depN mayN l → ∀ x ∈ l, x.t.length ≤ B ∧ x.n.length ≤ B ∧ (pv x.v).length ≤ B)
    (P : 0 < depN mayN l → ∀ x ∈ l, x.o = 1 → ∀ W, Below w.heap.size w W → Calls Tryz.prog 62 #[vv x.v] W fun e w' => e = .returned (.string ⟨(pv x.v).toArray⟩) ∧ Below W.heap.size W w') :
    Calls Tryz.prog 16 #[.slice ao l.length cap] w fun e w' => e = .returned (.string ⟨(prtN pv l).toArray⟩) ∧ Below w.heap.size w w' := by
  obtain ⟨i0, hi, hz0, hz1, hz2⟩ := info_parts infoStr
  have RI := right_of ao cap l w hv hn hs hT
  unfold prtN
  by_cases hd : 0 < depN mayN l
  case neg =>
    rw [if_neg hd]
    rw [decide_eq_false hd] at RI
    clear hd hv hs hT hl P hS
    generalize l.length = n at *
    go_enter Tryz.func16, Tryz.ntmps16
    go_wp2_with (go_at_call 9; refine RI.mono ?_; rintro e w1 ⟨rfl, b1⟩)
    go_ret
    exact ⟨rfl, b1⟩
  rw [if_pos hd]
  rw [decide_eq_true hd] at RI
  have HL : Hid (∀ x ∈ l, x.t.length ≤ B ∧ x.n.length ≤ B ∧ (pv x.v).length ≤ B) := hl hd
  have HP : Hid (∀ x ∈ l, x.o = 1 → ∀ W, Below w.heap.size w W → Calls Tryz.prog 62 #[vv x.v] W fun e w' => e = .returned (.string ⟨(pv x.v).toArray⟩) ∧ Below W.heap.size W w') := P hd
  obtain ⟨hlen, d, hrun⟩ := depN_some hd
  obtain ⟨R, hR⟩ : ∃ R, R = runT pv l [] := ⟨_, rfl⟩
  rw [← hR]
  have HR : Hid (runT pv (l.drop 0) [] = R) := hR.symm
  have HD : Hid (runD mayN (l.drop 0) [] = some [d]) := hrun
  clear hR hd hs hT hl P hrun
  obtain ⟨n, hnn⟩ : ∃ n, l.length = n := ⟨_, rfl⟩
  rw [hnn] at hn hlen RI ⊢
  have HN : Hid (l.length = n) := hnn
  clear hnn
  go_enter Tryz.func16, Tryz.ntmps16
  go_wp2_with (go_at_call 9; refine RI.mono ?_; rintro e w1 ⟨rfl, b1⟩)
  have hB20 : 256 * (2 * B + 20) ≤ 10000000000000 := by omega
  go_loopw [3, 12] (fun r3 r12 wr => ∃ (k : Nat) (st : List (List UInt8)), r12 = .int .i64 (k : Int) ∧ k ≤ n ∧ st.length ≤ k ∧ sumT st ≤ k * (2 * B + 20) ∧ Ts wr w.heap.size r3 st ∧ Below w.heap.size w wr ∧ Hid (runT pv (l.drop k) st = R) ∧ Hid (∃ ds, ds.length = st.length ∧ runD mayN (l.drop k) ds = some [d])) (fun _ r _ => n - (intOf r).toNat)
  case atStart => exact ⟨0, [], rfl, Nat.zero_le _, Nat.zero_le _, Nat.zero_le _, World.ownsRow_nil _ _ _ _, b1, HR, ⟨[], rfl, HD.out⟩⟩
  case round =>
    obtain ⟨k, st, rfl, hk, hsl, hsum, ho, hb, hH, hD⟩ := hrel
    have sB := hb.size
    obtain ⟨so, sc, rfl, hsc, hsn, hcut, hcell⟩ := ho.shape
    have hrw := World.ownsRow.lt ho
    by_cases hlt : k < n
    · have hlt' : (k : Int) < (n : Int) := by omega
      have hkl : k < l.length := by rw [HN.out]; exact hlt
      obtain ⟨b, off, rfl, hcl⟩ := hv (by omega)
      obtain ⟨c0, c1, c2, c3, c4, c5, c6, c7⟩ := ((hcl k hkl).later hb)
      have hg := (hcl k hkl).lt
      have hg' : b < wr.heap.size := by omega
      have hdr : l.drop k = l[k] :: l.drop (k + 1) := List.drop_eq_getElem_cons hkl
      obtain ⟨hx1, hx2, hx3⟩ := HL.out l[k] (List.getElem_mem _)
      have Px := HP.out l[k] (List.getElem_mem _)
      obtain ⟨x, he⟩ : ∃ x : Nd, x = l[k] := ⟨_, rfl⟩
      rw [← he] at c0 c1 c2 c3 c4 c5 c6 c7 hdr hx1 hx2 hx3 Px
      have Ox := fun W => operands_any x W
      obtain ⟨ds, hdl, hrd⟩ := hD.out
      rw [hdr] at hrd
      obtain ⟨hmx, hopx, ds', hdl', hrd'⟩ := runD_some hrd
      have hox := mayN_ops x hmx
      obtain ⟨q, hq⟩ : ∃ q : Nat, opsN x = (q : Int) := ⟨(opsN x).toNat, by omega⟩
      have HST : Hid (runT pv (l.drop (k + 1)) (st.take (st.length - q) ++ [txtN pv x (st.drop (st.length - q))]) = R) := by
        have := hH.out
        rw [hdr] at this
        show runT pv _ _ = R
        rw [← this]
        show _ = runT pv (l.drop (k + 1)) (stepT pv st x)
        unfold stepT
        rw [hq, Int.toNat_natCast]
      rw [hq, hdl] at hopx
      rw [hq, Int.toNat_natCast, hdl] at hdl'
      have HDD : Hid (∃ ds, ds.length = st.length - q + 1 ∧ runD mayN (l.drop (k + 1)) ds = some [d]) := ⟨ds', hdl', hrd'⟩
      have Tx : Hid (∀ W ao c, Below w.heap.size w W → Sws W ao c (st.drop (st.length - q)) → Calls Tryz.prog 39 #[ndv x, .slice ao q c] W fun e w' => e = .returned (.string ⟨(txtN pv x (st.drop (st.length - q))).toArray⟩) ∧ Below W.heap.size W w') := by
        intro W ao c hW hsw
        have hlq : (st.drop (st.length - q)).length = q := by rw [List.length_drop]; omega
        have := textOf_any pv x ao c (st.drop (st.length - q)) W hmx (by rw [hlq, hq]) hsw (hS.later hW) (fun t ht => by
          have := sumT_mem (List.mem_of_mem_drop ht)
          have h2 : k * (2 * B + 20) ≤ 256 * (2 * B + 20) := Nat.mul_le_mul_right _ (by omega)
          omega) (by omega) (by omega) (fun h1 W' h' => Px h1 W' (below_trans hW h'))
        rw [hlq] at this
        exact this
      have HLT : Hid (sumT (st.take (st.length - q) ++ [txtN pv x (st.drop (st.length - q))]) ≤ (k + 1) * (2 * B + 20)) := by
        show sumT _ ≤ _
        have e1 : sumT st = sumT (st.take (st.length - q)) + sumT (st.drop (st.length - q)) := by rw [← sumT_app, List.take_append_drop]
        have e2 := txtN_len pv x (st.drop (st.length - q)) B hmx (by rw [List.length_drop, hq]; omega) hx1 hx2 hx3
        have e3 : sumT [txtN pv x (st.drop (st.length - q))] = (txtN pv x (st.drop (st.length - q))).length := by simp [sumT]
        rw [sumT_app, e3, Nat.succ_mul]
        omega
      rw [hq] at Ox
      have hq4 : q ≤ 4 := by omega
      have hqs : q ≤ st.length := by omega
      have HK : Hid (st.length ≤ k ∧ k ≤ 255) := ⟨hsl, by omega⟩
      clear hcl he hH HR hdr hD HD hrd hrd' hdl hdl' hmx hox hopx hq hx1 hx2 hx3 Px hsum hB hB20 RI
      generalize txtN pv x (st.drop (st.length - q)) = T at *
      obtain ⟨f, hf⟩ : ∃ f : Nat, f = st.length - q := ⟨_, rfl⟩
      rw [← hf] at HST HDD Tx HLT
      have hfr : (st.length : Int) - (q : Int) = (f : Int) := by omega
      have hfl : f ≤ st.length := by omega
      have hfl' : (f : Int) ≤ (st.length : Int) := by omega
      have hqe : st.length - f = q := by omega
      have A1 : Below w.heap.size w (wr.alloc (.cells (ncs x) 44)) := hb.alloc sB _
      have BX : Hid (Cbox (wr.alloc (.cells (ncs x) 44)) wr.heap.size (ncs x) 44) := Cbox.new wr _ _
      have HO : Hid (Ts wr w.heap.size (.slice so f sc) (st.take f)) := hcut f hfl
      by_cases hsf : sc = f
      · have SW : Hid (∀ W, Below wr.heap.size wr W → Sws W so 0 (st.drop f)) := by
          intro W hW
          have e : st.drop f = [] := List.drop_eq_nil_of_le (by omega)
          rw [e]
          cases so with
          | none => exact .inl ⟨rfl, rfl⟩
          | some a =>
            obtain ⟨g, rfl, _, h3, _⟩ := hcell a rfl
            exact .inr ⟨g, 0, rfl, Nat.lt_of_lt_of_le h3 hW.size, Nat.le_refl _, fun i hi => by simp at hi⟩
        have hq0 : q = 0 := by omega
        subst hq0
        subst hsf
        have hle : st.length = sc := by omega
        have TT := fun W h1 h2 => Tx.out W so 0 h1 (SW.out W h2)
        clear hcell hcut ho hsn hf hfr hqe hsc hfl
        subst hle
        obtain ⟨xo, xt, xn, xv, xa⟩ := x
        go_wp2_with (go_at_call 35; refine (Ox _).mono ?_; rintro e w2 ⟨rfl, g2⟩)
        have b2 := g2.below
        have B2 : Below w.heap.size w w2 := A1.trans (b2.mono A1.size)
        have b02 : Below wr.heap.size wr w2 := below_trans ((Below.refl _ wr).alloc (Nat.le_refl _) _) b2
        have bx2 := Cbox.later BX.out b2
        refine wp_region_held_drew (S := (fun W => Cbox W wr.heap.size (ncs ⟨xo, xt, xn, xv, xa⟩) 44 ∧ Below w.heap.size w W)) (by kernel_rfl) ?_ (fun hHeld => ?_)
        · exact ⟨bx2, B2.drew⟩
        refine wpAnyH_take (i := 0) (oi := { dst := some 21, op := Op.move (Operand.tmp 3), type := 45, pos := "print.go:32", after := #[], guard := none }) (v := ?_) rfl (by kernel_rfl) (by kernel_rfl) (by kernel_rfl) (fun _ _ _ h => h) (Or.inl ⟨by rfl, ?_⟩) (by assumption) ?_
        rotate_left
        · (intro W hSw; (try dsimp only at hSw); first | (go_simp; done) | (go_simp; with_reducible rfl))
        try simp only [Act.put, List.setIfInBounds_toArray, List.set_cons_zero, List.set_cons_succ]
        refine wpAnyH_take (i := 1) (oi := { dst := some 22, op := Op.move (Operand.tmp 6), type := 3, pos := "print.go:32", after := #[], guard := none }) (v := ?_) rfl (by kernel_rfl) (by kernel_rfl) (by kernel_rfl) (fun _ _ _ h => h) (Or.inl ⟨by rfl, ?_⟩) (by assumption) ?_
        rotate_left
        · (intro W hSw; (try dsimp only at hSw); first | (go_simp; done) | (go_simp; with_reducible rfl))
        try simp only [Act.put, List.setIfInBounds_toArray, List.set_cons_zero, List.set_cons_succ]
        refine wpAnyH_take (i := 2) (oi := { dst := some 23, op := Op.slice 45 (Operand.tmp 21) none (some (Operand.tmp 22)) none, type := 45, pos := "print.go:32", after := #[{ on := 0, ground := Ground.data }, { on := 1, ground := Ground.data }], guard := none }) (v := ?_) rfl (by kernel_rfl) (by kernel_rfl) (by kernel_rfl) (fun _ _ _ h => h) (Or.inl ⟨by rfl, ?_⟩) (by assumption) ?_
        rotate_left
        · (intro W hSw; (try dsimp only at hSw); first | (go_simp; done) | (go_simp; with_reducible rfl))
        try simp only [Act.put, List.setIfInBounds_toArray, List.set_cons_zero, List.set_cons_succ]
        refine wpAnyH_take (i := 3) (oi := { dst := some 24, op := Op.load 44 (Operand.tmp 5), type := 44, pos := "print.go:32", after := #[], guard := none }) (v := ?_) rfl (by kernel_rfl) (by kernel_rfl) (by kernel_rfl) (fun _ _ _ h => h) (Or.inl ⟨by rfl, ?_⟩) (by assumption) ?_
        rotate_left
        · (intro W hSw; (try dsimp only at hSw); have C := hSw.1; have e0 := C.at 0; have e1 := C.at 1; have e2 := C.at 2; have e3 := C.at 3; have e4 := C.at 4; have e5 := C.at 5; have e6 := C.at 6; have e7 := C.at 7; clear C; first | (go_simp; done) | (go_simp; with_reducible rfl))
        try simp only [Act.put, List.setIfInBounds_toArray, List.set_cons_zero, List.set_cons_succ]
        refine wpAnyH_take (i := 4) (oi := { dst := some 25, op := Op.move (Operand.tmp 3), type := 45, pos := "print.go:32", after := #[], guard := none }) (v := ?_) rfl (by kernel_rfl) (by kernel_rfl) (by kernel_rfl) (fun _ _ _ h => h) (Or.inl ⟨by rfl, ?_⟩) (by assumption) ?_
        rotate_left
        · (intro W hSw; (try dsimp only at hSw); first | (go_simp; done) | (go_simp; with_reducible rfl))
        try simp only [Act.put, List.setIfInBounds_toArray, List.set_cons_zero, List.set_cons_succ]
        refine wpAnyH_take (i := 5) (oi := { dst := some 26, op := Op.move (Operand.tmp 6), type := 3, pos := "print.go:32", after := #[], guard := none }) (v := ?_) rfl (by kernel_rfl) (by kernel_rfl) (by kernel_rfl) (fun _ _ _ h => h) (Or.inl ⟨by rfl, ?_⟩) (by assumption) ?_
        rotate_left
        · (intro W hSw; (try dsimp only at hSw); first | (go_simp; done) | (go_simp; with_reducible rfl))
        try simp only [Act.put, List.setIfInBounds_toArray, List.set_cons_zero, List.set_cons_succ]
        refine wpAnyH_take (i := 6) (oi := { dst := some 27, op := Op.slice 45 (Operand.tmp 25) (some (Operand.tmp 26)) none none, type := 45, pos := "print.go:32", after := #[{ on := 4, ground := Ground.data }, { on := 5, ground := Ground.data }], guard := none }) (v := ?_) rfl (by kernel_rfl) (by kernel_rfl) (by kernel_rfl) (fun _ _ _ h => h) (Or.inl ⟨by rfl, ?_⟩) (by assumption) ?_
        rotate_left
        · (intro W hSw; (try dsimp only at hSw); first | (go_simp; done) | (go_simp; with_reducible rfl))
        try simp only [Act.put, List.setIfInBounds_toArray, List.set_cons_zero, List.set_cons_succ]
        refine wpAnyH_ready (rs := [7]) (by kernel_rfl) (by simp) ?_
        refine AllReadyH.cons (o := { dst := some 28, op := Op.call { callee := Callee.value (Operand.func 39), args := #[Operand.tmp 24, Operand.tmp 27], argTypes := #[44, 45] }, type := 9, pos := "print.go:32", after := #[{ on := 3, ground := Ground.data }, { on := 6, ground := Ground.data }], guard := none }) rfl (fun K hK => ?_) AllReadyH.nil
        go_simp
        go_wp2_with fail
        refine (TT _ hHeld.2 (b02.trans (Below.refl _ _).drew)).mono ?_
        rintro e w3 ⟨rfl, b3⟩
        try dsimp only
        refine hK.out _ _ ?_ (fun hHeld => ?_)
        · ((try dsimp only); exact ⟨Cbox.later hHeld.1 b3, below_trans hHeld.2 b3⟩)
        clear hK K
        try simp only [Act.put, List.setIfInBounds_toArray, List.set_cons_zero, List.set_cons_succ]
        have H3 : Hid (Below wr.heap.size wr w3) := below_trans (below_trans b02 ((Below.refl w2.heap.size w2).drew)) b3
        have s3 := hHeld.2.size
        have s2 := H3.out.size
        refine wpAnyH_ready (rs := [8]) (by kernel_rfl) (by simp) ?_
        refine AllReadyH.cons (o := { dst := some 29, op := Op.buildSlice 45 1 #[(0, Operand.tmp 28)], type := 45, pos := "print.go:32", after := #[{ on := 7, ground := Ground.data }], guard := none }) rfl (fun K hK => ?_) AllReadyH.nil
        go_simp
        refine hK.out _ _ ?_ (fun hHeld => ?_)
        · ((try dsimp only); exact ⟨Cbox.later hHeld.1 ((Below.refl _ _).alloc (Nat.le_refl _) _), hHeld.2.alloc hHeld.2.size _⟩)
        clear hK K
        try simp only [Act.put, List.setIfInBounds_toArray, List.set_cons_zero, List.set_cons_succ]
        have hlk : (st.take st.length).length = st.length := by rw [List.length_take]; omega
        have HO3 : w3.ownsRow w.heap.size 9 1 (.slice so st.length st.length) st.length (sv (st.take st.length)) := by have := Ts.later HO.out H3.out; unfold Ts at this; rw [hlk] at this; exact this
        obtain ⟨hk1, hk2⟩ := HK.out
        refine wpAnyH_ready (rs := [9]) (by kernel_rfl) (by simp) ?_
        refine AllReadyH.cons (o := { dst := some 30, op := Op.call { callee := Callee.builtin Builtin.append, args := #[Operand.tmp 23, Operand.tmp 29], argTypes := #[45, 45] }, type := 45, pos := "print.go:32", after := #[{ on := 2, ground := Ground.data }, { on := 8, ground := Ground.data }, { on := 7, ground := Ground.chain }], guard := none }) rfl (fun K hK => ?_) AllReadyH.nil
        (refine step_append_lies _ (by rfl) _ _ _ (by rfl) w.heap.size 9 i0 _ 1 16 Tryz.underlying45 hi hz0 hz1 hz2 rfl (by omega) _ st.length (sv (st.take st.length)) (by rfl) (World.ownsRow.alloc HO3 _) ⟨w3.heap.size, 0, none⟩ 1 1 [.string ⟨T.toArray⟩] (by rfl) (by rfl) (World.news_of_block (cs := #[.string ⟨T.toArray⟩]) (t := 9) (fr := (0, 0)) (heap_alloc_new w3 _)) (one_str T) (by omega) (by unfold maxLen; omega) (by omega) (by simp; omega) (w3.heap.size + 1) (by simp) ?_; intro gg gc w5 hown5 hgrow hat hlt5)
        have hrw2 := World.ownsRow.lt HO.out
        refine hK.out _ _ ?_ (fun hHeld => ?_)
        · exact ⟨Cbox.grown hHeld.1 hgrow (fun e => by have := (hrw2 _ e.symm).2; omega), hHeld.2.grown hgrow (by simp; omega) (fun k hk => (hrw2 k hk).1)⟩
        clear hK K
        try simp only [Act.put, List.setIfInBounds_toArray, List.set_cons_zero, List.set_cons_succ]
        refine wpAnyH_take (i := 10) (oi := { dst := some 3, op := Op.assign (Operand.tmp 30), type := 45, pos := "print.go:32", after := #[{ on := 9, ground := Ground.data }, { on := 9, ground := Ground.chain }, { on := 0, ground := Ground.phase }, { on := 1, ground := Ground.phase }, { on := 2, ground := Ground.phase }, { on := 3, ground := Ground.phase }, { on := 4, ground := Ground.phase }, { on := 5, ground := Ground.phase }, { on := 6, ground := Ground.phase }, { on := 7, ground := Ground.phase }, { on := 8, ground := Ground.phase }, { on := 9, ground := Ground.phase }], guard := none }) (v := ?_) rfl (by kernel_rfl) (by kernel_rfl) (by kernel_rfl) (fun _ _ _ h => h) (Or.inl ⟨by rfl, ?_⟩) (by assumption) ?_
        rotate_left
        · (intro W hSw; (try dsimp only at hSw); first | (go_simp; done) | (go_simp; with_reducible rfl))
        try simp only [Act.put, List.setIfInBounds_toArray, List.set_cons_zero, List.set_cons_succ]
        refine wpAnyH_done (by kernel_rfl) ?_ _
        go_wp2
        have ho5 := Ts.push' hlk hown5
        exact ⟨⟨k + 1, st.take st.length ++ [T], by rw [cst1], by omega, by rw [List.length_append, hlk]; simp; omega, HLT.out, ho5, hHeld.2, HST, by obtain ⟨d1, d2, d3⟩ := HDD.out; exact ⟨d1, by rw [List.length_append, hlk, d2]; simp, d3⟩⟩, by simp [intOf]; omega⟩
      · obtain ⟨g, rfl, hgb, hgl, hgc⟩ : ∃ g, so = some ⟨g, 0, none⟩ ∧ w.heap.size ≤ g ∧ g < wr.heap.size ∧ ∀ i (h : i < st.length), wr.cell? ⟨g, i, none⟩ = some (.string ⟨st[i].toArray⟩) := by
          cases so with
          | none => obtain ⟨h1, h2⟩ := hsn rfl; subst h1; exact absurd (by simp at hfl; omega) hsf
          | some a => obtain ⟨g, rfl, h2⟩ := hcell a rfl; exact ⟨g, rfl, h2⟩
        have SW : Hid (∀ W, Below wr.heap.size wr W → Sws W (some ⟨g, f, none⟩) (sc - f) (st.drop f)) := by
          intro W hW
          refine .inr ⟨g, f, rfl, Nat.lt_of_lt_of_le hgl hW.size, by rw [List.length_drop]; omega, fun i hi => ?_⟩
          rw [List.length_drop] at hi
          have := hgc (f + i) (by omega)
          rw [List.getElem_drop]
          exact (hW.cell (p := ⟨g, f + i, none⟩) hgl).trans this
        have TT := fun W h1 h2 => Tx.out W (some ⟨g, f, none⟩) (sc - f) h1 (SW.out W h2)
        have hfsc : f ≤ sc := by omega
        have hqi : (st.length : Int) - (f : Int) = (q : Int) := by omega
        clear hcell hcut ho hsn hgc hf
        obtain ⟨xo, xt, xn, xv, xa⟩ := x
        go_wp2_with (go_at_call 35; refine (Ox _).mono ?_; rintro e w2 ⟨rfl, g2⟩)
        have b2 := g2.below
        have B2 : Below w.heap.size w w2 := A1.trans (b2.mono A1.size)
        have b02 : Below wr.heap.size wr w2 := below_trans ((Below.refl _ wr).alloc (Nat.le_refl _) _) b2
        have bx2 := Cbox.later BX.out b2
        refine wp_region_held_drew (S := (fun W => Cbox W wr.heap.size (ncs ⟨xo, xt, xn, xv, xa⟩) 44 ∧ Below w.heap.size w W)) (by kernel_rfl) ?_ (fun hHeld => ?_)
        · exact ⟨bx2, B2.drew⟩
        refine wpAnyH_take (i := 0) (oi := { dst := some 21, op := Op.move (Operand.tmp 3), type := 45, pos := "print.go:32", after := #[], guard := none }) (v := ?_) rfl (by kernel_rfl) (by kernel_rfl) (by kernel_rfl) (fun _ _ _ h => h) (Or.inl ⟨by rfl, ?_⟩) (by assumption) ?_
        rotate_left
        · (intro W hSw; (try dsimp only at hSw); first | (go_simp; done) | (go_simp; with_reducible rfl))
        try simp only [Act.put, List.setIfInBounds_toArray, List.set_cons_zero, List.set_cons_succ]
        refine wpAnyH_take (i := 1) (oi := { dst := some 22, op := Op.move (Operand.tmp 6), type := 3, pos := "print.go:32", after := #[], guard := none }) (v := ?_) rfl (by kernel_rfl) (by kernel_rfl) (by kernel_rfl) (fun _ _ _ h => h) (Or.inl ⟨by rfl, ?_⟩) (by assumption) ?_
        rotate_left
        · (intro W hSw; (try dsimp only at hSw); first | (go_simp; done) | (go_simp; with_reducible rfl))
        try simp only [Act.put, List.setIfInBounds_toArray, List.set_cons_zero, List.set_cons_succ]
        refine wpAnyH_take (i := 2) (oi := { dst := some 23, op := Op.slice 45 (Operand.tmp 21) none (some (Operand.tmp 22)) none, type := 45, pos := "print.go:32", after := #[{ on := 0, ground := Ground.data }, { on := 1, ground := Ground.data }], guard := none }) (v := ?_) rfl (by kernel_rfl) (by kernel_rfl) (by kernel_rfl) (fun _ _ _ h => h) (Or.inl ⟨by rfl, ?_⟩) (by assumption) ?_
        rotate_left
        · (intro W hSw; (try dsimp only at hSw); first | (go_simp; done) | (go_simp; with_reducible rfl))
        try simp only [Act.put, List.setIfInBounds_toArray, List.set_cons_zero, List.set_cons_succ]
        refine wpAnyH_take (i := 3) (oi := { dst := some 24, op := Op.load 44 (Operand.tmp 5), type := 44, pos := "print.go:32", after := #[], guard := none }) (v := ?_) rfl (by kernel_rfl) (by kernel_rfl) (by kernel_rfl) (fun _ _ _ h => h) (Or.inl ⟨by rfl, ?_⟩) (by assumption) ?_
        rotate_left
        · (intro W hSw; (try dsimp only at hSw); have C := hSw.1; have e0 := C.at 0; have e1 := C.at 1; have e2 := C.at 2; have e3 := C.at 3; have e4 := C.at 4; have e5 := C.at 5; have e6 := C.at 6; have e7 := C.at 7; clear C; first | (go_simp; done) | (go_simp; with_reducible rfl))
        try simp only [Act.put, List.setIfInBounds_toArray, List.set_cons_zero, List.set_cons_succ]
        refine wpAnyH_take (i := 4) (oi := { dst := some 25, op := Op.move (Operand.tmp 3), type := 45, pos := "print.go:32", after := #[], guard := none }) (v := ?_) rfl (by kernel_rfl) (by kernel_rfl) (by kernel_rfl) (fun _ _ _ h => h) (Or.inl ⟨by rfl, ?_⟩) (by assumption) ?_
        rotate_left
        · (intro W hSw; (try dsimp only at hSw); first | (go_simp; done) | (go_simp; with_reducible rfl))
        try simp only [Act.put, List.setIfInBounds_toArray, List.set_cons_zero, List.set_cons_succ]
        refine wpAnyH_take (i := 5) (oi := { dst := some 26, op := Op.move (Operand.tmp 6), type := 3, pos := "print.go:32", after := #[], guard := none }) (v := ?_) rfl (by kernel_rfl) (by kernel_rfl) (by kernel_rfl) (fun _ _ _ h => h) (Or.inl ⟨by rfl, ?_⟩) (by assumption) ?_
        rotate_left
        · (intro W hSw; (try dsimp only at hSw); first | (go_simp; done) | (go_simp; with_reducible rfl))
        try simp only [Act.put, List.setIfInBounds_toArray, List.set_cons_zero, List.set_cons_succ]
        refine wpAnyH_take (i := 6) (oi := { dst := some 27, op := Op.slice 45 (Operand.tmp 25) (some (Operand.tmp 26)) none none, type := 45, pos := "print.go:32", after := #[{ on := 4, ground := Ground.data }, { on := 5, ground := Ground.data }], guard := none }) (v := ?_) rfl (by kernel_rfl) (by kernel_rfl) (by kernel_rfl) (fun _ _ _ h => h) (Or.inl ⟨by rfl, ?_⟩) (by assumption) ?_
        rotate_left
        · (intro W hSw; (try dsimp only at hSw); first | (go_simp; done) | (go_simp; with_reducible rfl))
        try simp only [Act.put, List.setIfInBounds_toArray, List.set_cons_zero, List.set_cons_succ]
        refine wpAnyH_ready (rs := [7]) (by kernel_rfl) (by simp) ?_
        refine AllReadyH.cons (o := { dst := some 28, op := Op.call { callee := Callee.value (Operand.func 39), args := #[Operand.tmp 24, Operand.tmp 27], argTypes := #[44, 45] }, type := 9, pos := "print.go:32", after := #[{ on := 3, ground := Ground.data }, { on := 6, ground := Ground.data }], guard := none }) rfl (fun K hK => ?_) AllReadyH.nil
        go_simp
        go_wp2_with fail
        refine (TT _ hHeld.2 (b02.trans (Below.refl _ _).drew)).mono ?_
        rintro e w3 ⟨rfl, b3⟩
        try dsimp only
        refine hK.out _ _ ?_ (fun hHeld => ?_)
        · ((try dsimp only); exact ⟨Cbox.later hHeld.1 b3, below_trans hHeld.2 b3⟩)
        clear hK K
        try simp only [Act.put, List.setIfInBounds_toArray, List.set_cons_zero, List.set_cons_succ]
        have H3 : Hid (Below wr.heap.size wr w3) := below_trans (below_trans b02 ((Below.refl w2.heap.size w2).drew)) b3
        have s3 := hHeld.2.size
        have s2 := H3.out.size
        refine wpAnyH_ready (rs := [8]) (by kernel_rfl) (by simp) ?_
        refine AllReadyH.cons (o := { dst := some 29, op := Op.buildSlice 45 1 #[(0, Operand.tmp 28)], type := 45, pos := "print.go:32", after := #[{ on := 7, ground := Ground.data }], guard := none }) rfl (fun K hK => ?_) AllReadyH.nil
        go_simp
        refine hK.out _ _ ?_ (fun hHeld => ?_)
        · ((try dsimp only); exact ⟨Cbox.later hHeld.1 ((Below.refl _ _).alloc (Nat.le_refl _) _), hHeld.2.alloc hHeld.2.size _⟩)
        clear hK K
        try simp only [Act.put, List.setIfInBounds_toArray, List.set_cons_zero, List.set_cons_succ]
        have hlk : (st.take f).length = f := by rw [List.length_take]; omega
        have HO3 : w3.ownsRow w.heap.size 9 1 (.slice (some ⟨g, 0, none⟩) f sc) f (sv (st.take f)) := by have := Ts.later HO.out H3.out; unfold Ts at this; rw [hlk] at this; exact this
        obtain ⟨hk1, hk2⟩ := HK.out
        refine wpAnyH_ready (rs := [9]) (by kernel_rfl) (by simp) ?_
        refine AllReadyH.cons (o := { dst := some 30, op := Op.call { callee := Callee.builtin Builtin.append, args := #[Operand.tmp 23, Operand.tmp 29], argTypes := #[45, 45] }, type := 45, pos := "print.go:32", after := #[{ on := 2, ground := Ground.data }, { on := 8, ground := Ground.data }, { on := 7, ground := Ground.chain }], guard := none }) rfl (fun K hK => ?_) AllReadyH.nil
        (refine step_append_lies _ (by rfl) _ _ _ (by rfl) w.heap.size 9 i0 _ 1 16 Tryz.underlying45 hi hz0 hz1 hz2 rfl (by omega) _ f (sv (st.take f)) (by rfl) (World.ownsRow.alloc HO3 _) ⟨w3.heap.size, 0, none⟩ 1 1 [.string ⟨T.toArray⟩] (by rfl) (by rfl) (World.news_of_block (cs := #[.string ⟨T.toArray⟩]) (t := 9) (fr := (0, 0)) (heap_alloc_new w3 _)) (one_str T) (by omega) (by unfold maxLen; omega) (by omega) (by simp; omega) (w3.heap.size + 1) (by simp) ?_; intro gg gc w5 hown5 hgrow hat hlt5)
        have hrw2 := World.ownsRow.lt HO.out
        refine hK.out _ _ ?_ (fun hHeld => ?_)
        · exact ⟨Cbox.grown hHeld.1 hgrow (fun e => by have := (hrw2 _ e.symm).2; omega), hHeld.2.grown hgrow (by simp; omega) (fun k hk => (hrw2 k hk).1)⟩
        clear hK K
        try simp only [Act.put, List.setIfInBounds_toArray, List.set_cons_zero, List.set_cons_succ]
        refine wpAnyH_take (i := 10) (oi := { dst := some 3, op := Op.assign (Operand.tmp 30), type := 45, pos := "print.go:32", after := #[{ on := 9, ground := Ground.data }, { on := 9, ground := Ground.chain }, { on := 0, ground := Ground.phase }, { on := 1, ground := Ground.phase }, { on := 2, ground := Ground.phase }, { on := 3, ground := Ground.phase }, { on := 4, ground := Ground.phase }, { on := 5, ground := Ground.phase }, { on := 6, ground := Ground.phase }, { on := 7, ground := Ground.phase }, { on := 8, ground := Ground.phase }, { on := 9, ground := Ground.phase }], guard := none }) (v := ?_) rfl (by kernel_rfl) (by kernel_rfl) (by kernel_rfl) (fun _ _ _ h => h) (Or.inl ⟨by rfl, ?_⟩) (by assumption) ?_
        rotate_left
        · (intro W hSw; (try dsimp only at hSw); first | (go_simp; done) | (go_simp; with_reducible rfl))
        try simp only [Act.put, List.setIfInBounds_toArray, List.set_cons_zero, List.set_cons_succ]
        refine wpAnyH_done (by kernel_rfl) ?_ _
        go_wp2
        have ho5 := Ts.push' hlk hown5
        exact ⟨⟨k + 1, st.take f ++ [T], by rw [cst1], by omega, by rw [List.length_append, hlk]; simp; omega, HLT.out, ho5, hHeld.2, HST, by obtain ⟨d1, d2, d3⟩ := HDD.out; exact ⟨d1, by rw [List.length_append, hlk, d2]; simp, d3⟩⟩, by simp [intOf]; omega⟩
    · have hlt' : ¬ (k : Int) < (n : Int) := by omega
      have HF : Hid (st = R ∧ st.length = 1) := by
        obtain ⟨ds, h1, h2⟩ := hD.out
        have := hH.out
        rw [List.drop_eq_nil_of_le (by rw [HN.out]; omega)] at this h2
        cases h2
        exact ⟨this, h1.symm⟩
      clear hH HR
      obtain ⟨h1, h2⟩ := HF.out
      subst h1
      obtain ⟨t, rfl⟩ : ∃ t, st = [t] := List.length_eq_one_iff.1 h2
      obtain ⟨g, rfl, hgl, hgc⟩ : ∃ g, so = some ⟨g, 0, none⟩ ∧ g < wr.heap.size ∧ wr.cell? ⟨g, 0, none⟩ = some (.string ⟨t.toArray⟩) := by
        cases so with
        | none => exact absurd (hsn rfl).1 (by simp)
        | some a => obtain ⟨g, rfl, _, h3, h4⟩ := hcell a rfl; exact ⟨g, rfl, h3, h4 0 (by simp)⟩
      have hlt2 : t.length ≤ 140737488351232 := by
        have e : sumT [t] = t.length := by simp [sumT]
        have h2 : k * (2 * B + 20) ≤ 256 * (2 * B + 20) := Nat.mul_le_mul_right _ (by omega)
        omega
      have C1 := fun W => clone_any ⟨t.toArray⟩ W hlt2
      show Code.wp _ _ _ _ _
      clear HF hcell hsn hcut ho hD HD HL HP
      go_wp2_with (go_at_call 38; refine (C1 _).mono ?_; rintro e w3 ⟨rfl, b3⟩)
      go_ret
      exact ⟨rfl, below_trans hb b3⟩
end Go.Proofs.YtclhmmgdhagloaaGreatDoor
