/-
  The contract of wal.image.grow.
-/
import Derived.Test.YtonjjbmjholkjaaGreatDoorWlG
import Derived.Shelf.RegionOpenPlain
namespace Go.Proofs.YtonjjbmjholkjaaGreatDoor
open Go.RowKit Go.Shelf

attribute [local go_sem] Oper.semAt_some

/-- But for bytes, starts and told nothing of the block has changed. -/
def SameBut (o : Nat) (cs cs' : Array Value) : Prop := ∀ j, j ≠ o + 1 → j ≠ o + 2 → j ≠ o + 3 → cs'[j]? = cs[j]?

set_option maxRecDepth 100000 in
set_option maxHeartbeats 4000000 in
theorem grow_any (n₀ B o : Nat) (T : TypeId) (cs : Array Value) (vb : Value) (gb : Option Nat) (bs : List UInt8) (vs : Value) (L : List Int) (t : Nat) (ao : Option Addr) (m cap : Nat) (xs : List UInt8) (w : World)
    (hn : 0 < n₀) (hT : Tab w) (h : Img w n₀ B o T cs vb gb bs vs L t) (hR : Rd w ao m cap xs) (hlen : bs.length + m ≤ 16777216) :
    Calls Tryz.prog 53 #[.pointer (some ⟨B, o, none⟩), .slice ao m cap] w fun e w' => (∃ v, e = .returned v) ∧ ∃ cs' vb' gb' vs' L', Img w' n₀ B o T cs' vb' gb' (bs ++ xs) vs' L' (t + endL 0 (rcs 0 ((bs ++ xs).drop t))) ∧ SameBut o cs cs' ∧
      Chg (Ib B gb vs) w w' ∧ (gb' = gb ∨ ∃ b, gb' = some b ∧ w.heap.size ≤ b) ∧ (vs'.ownBlock = vs.ownBlock ∨ ∃ b, vs'.ownBlock = some b ∧ w.heap.size ≤ b) := by
  obtain ⟨i0, hi, hz0, hz1, hz2⟩ := info_parts Tryz.info5
  have hml := hR.1
  have hsz : n₀ ≤ w.heap.size := Nat.le_of_lt (Nat.lt_of_le_of_lt h.hB (bl_lt h.blk))
  refine (callsIn_wide (n := 6)).1 ?_
  refine callsIn_of_wp_marks Tryz.func53 rfl trivial ?_ rfl
  simp only [Tryz.ntmps53, List.size_toArray, List.length_cons, List.length_nil, Nat.reduceAdd, Nat.reduceSub, Array.replicate_succ, Array.replicate_zero, List.push_toArray, List.append_toArray, List.nil_append, List.cons_append]
  obtain ⟨wa, hwa⟩ : ∃ wa, wa = w.alloc (.cells #[.pointer (some ⟨B, o, none⟩)] 93) := ⟨_, rfl⟩
  have bA : Below w.heap.size w wa := by rw [hwa]; exact (Below.refl _ w).alloc (Nat.le_refl _) _
  have bx : Boxed wa w.heap.size 93 (.pointer (some ⟨B, o, none⟩)) := by rw [hwa]; exact Boxed.new _ _ _
  have hA := h.later bA
  have k1 : wa.cell? ⟨B, o + 1, none⟩ = some vb := bl_cell hA.blk _ _ hA.c1
  have kx : wa.cell? ⟨w.heap.size, 0, none⟩ = some (.pointer (some ⟨B, o, none⟩)) := bx.cell
  have RA := fun W (hW : Below wa.heap.size wa W) => run_append_ob (P := Tryz.prog) (w := W) 22 22 22 i0 _ Tryz.underlying22 hi hz0 hz1 hz2 rfl vb gb bs (hA.ob.kept (fun b e => hW.block b (hA.ob.lt e))) (.slice ao m cap) m xs (src_of_rd Tryz.underlying22 ((hR.later bA).later hW)) (by omega)
  gi_wp2_with fail
  rw [← hwa]
  clear hwa
  refine wpIn_wide.2 ?_
  obtain ⟨v2, w2, g2, hrun, ho2, hC2d, hg2⟩ := RA wa.drew (Below.refl _ _).drew
  have hC2 : Chg (fun k => some k = gb) wa w2 := ⟨hC2d.os, hC2d.tape, hC2d.output, hC2d.size, hC2d.block⟩
  clear hC2d
  have hlB : B ≠ w.heap.size := by have := bl_lt h.blk; omega
  have x2 : w2.cell? ⟨w.heap.size, 0, none⟩ = some (.pointer (some ⟨B, o, none⟩)) := hC2.cell (fun e => by have := h.ob.lt e.symm; omega) kx
  have y2 : w2.cell? ⟨B, o + 1, none⟩ = some vb := hC2.cell (fun e => hA.ng e.symm rfl) k1
  have f2 : w2.frozen? ⟨B, o + 1, none⟩ = false := bl_open ((hC2.block B (bl_lt hA.blk) (fun e => hA.ng e.symm rfl)).trans hA.blk) _
  obtain ⟨a2, q2, rfl, -, -, -⟩ := ho2.form
  have mixed : Tryz.prog.follows .mixedOrders = true := by kernel_rfl
  have hl2 : (bs ++ xs).length = bs.length + m := by rw [List.length_append, hml]
  rw [hl2] at hrun ho2
  refine one_way { tmps := #[.pointer (some ⟨B, o, none⟩), .slice ao m cap, .pointer (some ⟨w.heap.size, 0, none⟩), undef, undef, undef, .pointer (some ⟨B, o, none⟩), .pointer (some ⟨B, o, none⟩), .pointer (some ⟨B, o, none⟩), .pointer (some ⟨B, o + 1, none⟩), vb, .slice ao m cap, .slice a2 (bs.length + m) q2, .pointer (some ⟨B, o, none⟩), .pointer (some ⟨B, o + 1, none⟩), undef, undef, undef, undef, undef, undef, undef, undef, undef, undef, undef, undef, undef, undef, undef, undef, undef, undef, undef, undef, undef, undef, undef, undef, undef, undef, undef, undef, undef, undef, undef, undef, undef, undef, undef, undef], defers := [] } (w2.setCell ⟨B, o + 1, none⟩ (.slice a2 (bs.length + m) q2)) ?reg ?_
  case reg =>
    go_region_law_o (refine step_append_run (by rfl) _ _ _ _ (by rfl) _ _ (by rfl) (by rfl) hrun ?_)
    all_goals exact ⟨rfl, rfl, rfl⟩
  have hm1 := h.lt
  have h2 := hA.setBytes (W1 := w2) (S := fun k => some k = gb) hC2 (fun _ e => e) ho2 (hg2.elim .inl (fun e => .inr ⟨_, e, Nat.le_refl _⟩)) (by rw [hl2]; omega) (by omega)
  have hc2 : Chg (Ib B gb vs) w (w2.setCell ⟨B, o + 1, none⟩ (.slice a2 (bs.length + m) q2)) :=
    ((chg_of_below bA).trans hC2 (fun _ _ e => e) (fun _ _ e => .inr (.inl e))).trans (chg_set w2 B (o + 1) (.slice a2 (bs.length + m) q2)) (fun _ _ e => e) (fun _ _ e => .inl e)
  have bx2 : Boxed (w2.setCell ⟨B, o + 1, none⟩ (.slice a2 (bs.length + m) q2)) w.heap.size 93 (.pointer (some ⟨B, o, none⟩)) :=
    (Below.heap_setCell w2 ⟨B, o + 1, none⟩ (.slice a2 (bs.length + m) q2) w.heap.size (by simpa using hlB.symm)).trans ((hC2.block _ bx.lt (fun e => by have := h.ob.lt e.symm; omega)).trans bx)
  have HG : Hid (g2 = gb ∨ ∃ b, g2 = some b ∧ w.heap.size ≤ b) := hg2.elim .inl (fun e => .inr ⟨_, e, bA.size⟩)
  obtain ⟨W2, hW2⟩ : ∃ W2, W2 = w2.setCell ⟨B, o + 1, none⟩ (.slice a2 (bs.length + m) q2) := ⟨_, rfl⟩
  obtain ⟨cs2, hcs2⟩ : ∃ cs2, cs2 = cs.setIfInBounds (o + 1) (.slice a2 (bs.length + m) q2) := ⟨_, rfl⟩
  have HS2 : Hid (SameBut o cs cs2) := by
    intro j hj1 hj2 hj3
    rw [hcs2, Array.getElem?_setIfInBounds_ne (by omega)]
  rw [← hcs2] at h2
  rw [← hW2] at h2 hc2 bx2 ⊢
  have hT2 : Tab W2 := fun k hk => by
    have h0 := hT k hk
    exact hc2.cell (fun e => by have := (h.blks e).1; omega) h0
  clear hcs2 hW2 hrun ho2 hC2 hg2 x2 y2 f2 bx hA k1 kx RA bA hR
  obtain ⟨y, ⟨a3, q3, rfl⟩, hrun3, hob3⟩ := slice_from h2.ob t (by rw [hl2]; omega) (by omega)
  rw [hl2] at hrun3 hob3
  have hob3' : ∀ W, Ob W (.slice a2 (bs.length + m) q2) g2 (bs ++ xs) → Rd W a3 (bs.length + m - t) q3 ((bs ++ xs).drop t) := fun W hW => by
    obtain ⟨ao', cap', e, hr, -, -⟩ := (hob3 W hW).form
    rw [List.length_drop, hl2] at e hr
    cases e
    exact hr
  have HO3 : Hid ((∀ W, Ob W (.slice a2 (bs.length + m) q2) g2 (bs ++ xs) → Rd W a3 (bs.length + m - t) q3 ((bs ++ xs).drop t)) ∧ ∀ W, Ob W (.slice a2 (bs.length + m) q2) g2 (bs ++ xs) → ∀ x, 0 < bs.length + m - t → a3 = some x → g2 = some x.block) := by
    refine ⟨hob3', fun W hW x hp e => ?_⟩
    obtain ⟨b, off, e2, _⟩ := (hob3' W hW).2.2.2.2 hp
    rw [e] at e2
    cases e2
    have := hob3 W hW
    rw [e] at this
    exact this.blk rfl
  clear hob3 hob3'
  have k0 : W2.cell? ⟨B, o, none⟩ = some (.int .i64 0) := bl_cell h2.blk _ _ h2.c0
  have k1 : W2.cell? ⟨B, o + 1, none⟩ = some (.slice a2 (bs.length + m) q2) := bl_cell h2.blk _ _ h2.c1
  have k3 : W2.cell? ⟨B, o + 3, none⟩ = some (.int .i64 (t : Int)) := bl_cell h2.blk _ _ h2.c3
  have kx : W2.cell? ⟨w.heap.size, 0, none⟩ = some (.pointer (some ⟨B, o, none⟩)) := bx2.cell
  have ha : IntKind.i64.wrap (t : Int) = (t : Int) := by rw [IntKind.wrap_i64]; omega
  have l0 : B < W2.heap.size := bl_lt h2.blk
  have lx : w.heap.size < W2.heap.size := bx2.lt
  gi_wp2_with fail
  refine wpIn_wide.2 ?_
  refine wp_region_noPanic ?_
  go_region_held3 (fun V => Below W2.heap.size W2 V ∧ V.cell? ⟨w.heap.size, 0, none⟩ = some (.pointer (some ⟨B, o, none⟩)) ∧ V.cell? ⟨B, o, none⟩ = some (.int .i64 0) ∧ V.cell? ⟨B, o + 1, none⟩ = some (.slice a2 (bs.length + m) q2) ∧ V.cell? ⟨B, o + 3, none⟩ = some (.int .i64 (t : Int)))
    (first | exact ⟨(Below.refl _ _).drew, kx, k0, k1, k3⟩ | (have b9 : Below W2.heap.size W2 ((W2.drew.alloc (.cells #[.int .i64 (t : Int)] 3)).alloc (.cells #[.slice a3 (bs.length + m - t) q3] 22)) := (((Below.refl _ _).drew).alloc (Nat.le_refl _) _).alloc (by simp) _; exact ⟨b9, (b9.cell (p := ⟨w.heap.size, 0, none⟩) lx).trans kx, (b9.cell (p := ⟨B, o, none⟩) l0).trans k0, (b9.cell (p := ⟨B, o + 1, none⟩) l0).trans k1, (b9.cell (p := ⟨B, o + 3, none⟩) l0).trans k3⟩))
    ((first | (go_at_call 21; refine (records_any _ _ ⟨_, _, _, rfl⟩ _).mono ?_; rintro e w' ⟨rfl, rfl⟩)))
  refine NoPanic.normal ?_
  have hB4 : Below W2.heap.size W2 (((W2.alloc (.cells #[.int .i64 (t : Int)] 3)).alloc (.cells #[.slice a3 (bs.length + m - t) q3] 22)).drew) := (((Below.refl _ W2).alloc (Nat.le_refl _) _).alloc (by simp) _).drew
  have bB : Boxed (((W2.alloc (.cells #[.int .i64 (t : Int)] 3)).alloc (.cells #[.slice a3 (bs.length + m - t) q3] 22)).drew) W2.heap.size 3 (.int .i64 (t : Int)) := (Boxed.new W2 3 (.int .i64 (t : Int))).alloc (.cells #[.slice a3 (bs.length + m - t) q3] 22)
  have bS : Boxed (((W2.alloc (.cells #[.int .i64 (t : Int)] 3)).alloc (.cells #[.slice a3 (bs.length + m - t) q3] 22)).drew) (W2.heap.size + 1) 22 (.slice a3 (bs.length + m - t) q3) := by
    have := Boxed.new (W2.alloc (.cells #[.int .i64 (t : Int)] 3)) 22 (.slice a3 (bs.length + m - t) q3)
    rw [World.size_alloc] at this
    exact this
  obtain ⟨W4, hW4⟩ : ∃ W4, W4 = (((W2.alloc (.cells #[.int .i64 (t : Int)] 3)).alloc (.cells #[.slice a3 (bs.length + m - t) q3] 22)).drew) := ⟨_, rfl⟩
  rw [← hW4] at hB4 bB bS ⊢
  clear hW4
  have h4 := h2.later hB4
  have hT4 : Tab W4 := hT2.later hB4 hT2.pos
  have bx4 : Boxed W4 w.heap.size 93 (.pointer (some ⟨B, o, none⟩)) := boxed_later bx2 hB4
  have hR4 := HO3.out.1 W4 h4.ob
  have hc4 : Chg (Ib B gb vs) w W4 := hc2.trans (chg_of_below (S := Ib B gb vs) hB4) (fun _ _ e => e) (fun _ _ e => e)
  have hsz4 : w.heap.size ≤ W4.heap.size := hc4.size
  have hKlt : ∀ k, Kr a3 (bs.length + m - t) k → k < W4.heap.size := fun k hk => Kr.lt hT4 hR4 hk
  have hKb : ∀ k, Kr a3 (bs.length + m - t) k → k < n₀ ∨ g2 = some k := by
    intro k hk
    rcases hk with rfl | ⟨hp, x, hx, rfl⟩
    · exact .inl hn
    · exact .inr (HO3.out.2 W4 h4.ob x hp hx)
  have HK : Hid ((∀ k, Kr a3 (bs.length + m - t) k → k < W4.heap.size) ∧ ∀ k, Kr a3 (bs.length + m - t) k → k < n₀ ∨ g2 = some k) := ⟨hKlt, hKb⟩
  have hDl : ((bs ++ xs).drop t).length = bs.length + m - t := by rw [List.length_drop, hl2]
  clear k0 k1 k3 kx l0 lx hrun3 hB4 hT2 bx2 h2 hc2 hT hKb
  gi_wp2_with fail
  refine range_lend (α := Itv) rfl (by omega) (gf := 38) (lb := #[.pointer (some ⟨W2.heap.size, 0, none⟩), .pointer (some ⟨W2.heap.size + 1, 0, none⟩)]) rfl trivial (enters_of Tryz.func38 (by kernel_rfl) rfl)
    (encs := encR (t : Int)) (fun _ => rfl) (Kp := Kq (Kr a3 (bs.length + m - t))) Kq.trans (fun W l o o' hl h1 h2 h3 => Kq.put (n₀ := W4.heap.size) hKlt W l o o' hl h1 h2 h3)
    (records1_lends 5 (by omega) W2.heap.size (W2.heap.size + 1) (t : Int) a3 (bs.length + m - t) q3 ((bs ++ xs).drop t) W4 hT4 bB.cell bS.cell hR4 (by omega) (by omega) (by omega))
    (fun pre W => (Boxed W w.heap.size 93 (.pointer (some ⟨B, o, none⟩)) ∧ ∃ cs' vs' L', Img W n₀ B o T cs' (.slice a2 (bs.length + m) q2) g2 (bs ++ xs) vs' L' (t + endL 0 (pre.map Itv.it)) ∧ SameBut o cs cs' ∧ (vs'.ownBlock = vs.ownBlock ∨ ∃ b, vs'.ownBlock = some b ∧ w.heap.size ≤ b)) ∧ Chg (Ib B gb vs) w W ∧ pre.map Itv.it <+: rcs 0 ((bs ++ xs).drop t) ∧ W4.heap.size ≤ W.heap.size)
    ?own ?start
    (fun pre x a' W => ∃ Bx, w.heap.size < Bx ∧ Ex W Bx (t : Int) x ∧ (pre.map Itv.it ++ [x.it]) <+: rcs 0 ((bs ++ xs).drop t) ∧
      a' = { tmps := #[.pointer (some ⟨B, o, none⟩), .slice ao m cap, .pointer (some ⟨w.heap.size, 0, none⟩), undef, .pointer (some ⟨Bx, 0, none⟩), .int .i64 ((t : Int) + x.it.fin), .pointer (some ⟨B, o, none⟩), .pointer (some ⟨B, o, none⟩), .pointer (some ⟨B, o, none⟩), .pointer (some ⟨B, o + 1, none⟩), vb, .slice ao m cap, .slice a2 (bs.length + m) q2, .pointer (some ⟨B, o, none⟩), .pointer (some ⟨B, o + 1, none⟩), .pointer (some ⟨B, o, none⟩), .pointer (some ⟨B, o, none⟩), .pointer (some ⟨B, o + 3, none⟩), .int .i64 (t : Int), .pointer (some ⟨B, o, none⟩), .pointer (some ⟨B, o, none⟩), .pointer (some ⟨B, o + 1, none⟩), .slice a2 (bs.length + m) q2, .pointer (some ⟨B, o, none⟩), .pointer (some ⟨B, o, none⟩), .pointer (some ⟨B, o + 3, none⟩), .int .i64 (t : Int), .pointer (some ⟨B, o, none⟩), .pointer (some ⟨B, o, none⟩), .pointer (some ⟨B, o, none⟩), .int .i64 0, .int .i64 (t : Int), .slice a3 (bs.length + m - t) q3, .func (.func 38) #[] #[.pointer (some ⟨W2.heap.size, 0, none⟩), .pointer (some ⟨W2.heap.size + 1, 0, none⟩)], .agg #[.int .i64 ((t : Int) + x.it.off), .slice x.ao x.it.inn.length x.cap], .int .i64 ((t : Int) + x.it.fin), undef, undef, undef, undef, undef, undef, undef, undef, undef, undef, undef, undef, undef, undef, undef], defers := [] })
    ?ownAx ?assign ?body ?done
  case own =>
    rintro s X Y row ⟨⟨h1, cs', vs', L', h2, h3, h4⟩, h5, h6, h7⟩ hg hr
    refine ⟨⟨?_, cs', vs', L', img_turn h2 hg (fun r e => (hr r e).2), h3, h4⟩, chg_turn h5 hg (fun r e => Nat.le_trans hsz4 (hr r e).1), h6, Nat.le_trans h7 hg.size⟩
    exact h1.kept hg (fun e => by
      obtain ⟨o, ho, hc⟩ := (hr _ e.symm).2
      rw [show X.heap[w.heap.size]? = _ from h1] at ho
      cases ho
      cases hc)
  case start => exact ⟨⟨bx4, cs2, vs, L, by simpa [endL] using h4, HS2.out, .inl rfl⟩, hc4, List.nil_prefix, Nat.le_refl _⟩
  case ownAx =>
    rintro pre x a' _ X Y row ⟨Bx, h1, h2, h3, h4⟩ hg hr
    exact ⟨Bx, h1, Ex.own Bx (t : Int) x () X Y row h2 hg (fun r e => (hr r e).2), h3, h4⟩
  case assign =>
    rintro l pre ⟨⟨xo, xi, xf⟩, xa, xc⟩ V0 V1 K hle hI0 ⟨⟨h1, cs', vs', L', hi1, h3, hv⟩, h5, h6, h7⟩ hbel ⟨hown, hpx⟩ hK
    simp only [encR]
    gi_wp2
    have bA : Below V1.heap.size V1 (V1.alloc (.cells #[.int .i64 ((t : Int) + xo), .slice xa xi.length xc] 59)) := (Below.refl _ _).alloc (Nat.le_refl _) _
    exact hK _ _ ((KeepsOthers.alloc _ _).from _) (Kq.of bA (fun k hk => by have := HK.out.1 k hk; have := hbel.size; omega)) ⟨⟨boxed_later h1 bA, cs', vs', L', hi1.later bA, h3, hv⟩, h5.trans (chg_of_below (S := Ib B gb vs) bA) (fun _ _ e => e) (fun _ _ e => e), h6, Nat.le_trans h7 bA.size⟩
      ⟨V1.heap.size, h1.lt, World.alloc_heap_new V1 _, hpx, rfl⟩
  case body =>
    rintro l pre ⟨⟨xo, xi, xf⟩, xa, xc⟩ a' W hl ⟨⟨h1, cs1, vs1, L1, hi1, h3, hv⟩, h5, h6, h7⟩ ⟨Bx, hBx, bX, hpx, rfl⟩
    have hBxl : Bx < W.heap.size := bl_lt bX
    have dx : W.cell? ⟨w.heap.size, 0, none⟩ = some (.pointer (some ⟨B, o, none⟩)) := h1.cell
    have d2 : W.cell? ⟨B, o + 2, none⟩ = some vs1 := bl_cell hi1.blk _ _ hi1.c2
    have d4 : W.cell? ⟨Bx, 0, none⟩ = some (.int .i64 ((t : Int) + xo)) := bl_cell bX 0 _ rfl
    obtain ⟨W5, hW5⟩ : ∃ W5, W5 = (W.alloc (.cells #[.int .i64 ((t : Int) + xo)] 3)).drew := ⟨_, rfl⟩
    have b5 : Below W.heap.size W W5 := by rw [hW5]; exact ((Below.refl _ W).alloc (Nat.le_refl _) _).drew
    have i5 := hi1.later b5
    have x5 : W5.cell? ⟨W.heap.size, 0, none⟩ = some (.int .i64 ((t : Int) + xo)) := by rw [hW5]; exact bl_cell (World.alloc_heap_new W _) 0 _ rfl
    have hWs : w.heap.size < W.heap.size := h1.lt
    obtain ⟨g6, c6, w6, hrun5, hr6, hgr6, hat6⟩ := push_run i5.st ((t : Int) + xo) W.heap.size x5 (by have := b5.size; omega) (by have := i5.ll; have := i5.lt; have := i5.len; omega)
    have ex : W5.cell? ⟨w.heap.size, 0, none⟩ = some (.pointer (some ⟨B, o, none⟩)) := (b5.cell (p := ⟨w.heap.size, 0, none⟩) hWs).trans dx
    have e2 : W5.cell? ⟨B, o + 2, none⟩ = some vs1 := (b5.cell (p := ⟨B, o + 2, none⟩) (bl_lt hi1.blk)).trans d2
    have e4 : W5.cell? ⟨Bx, 0, none⟩ = some (.int .i64 ((t : Int) + xo)) := (b5.cell (p := ⟨Bx, 0, none⟩) hBxl).trans d4
    have h15 := boxed_later h1 b5
    have bX5 : W5.heap[Bx]? = _ := (b5.block Bx hBxl).trans bX
    have nx : some w.heap.size ≠ vs1.ownBlock := h15.not_row (by decide) i5.st
    have nBx : some Bx ≠ vs1.ownBlock := fun e => by
      obtain ⟨_, _, c, hc⟩ := row_own i5.st e.symm
      have := bX5.symm.trans hc
      simp at this
    have nB : some B ≠ vs1.ownBlock := fun e => (i5.ns e.symm).1 rfl
    have C6 := chg_of_grown hgr6
    have fx : w6.cell? ⟨w.heap.size, 0, none⟩ = some (.pointer (some ⟨B, o, none⟩)) := C6.cell nx ex
    have f2 : w6.cell? ⟨B, o + 2, none⟩ = some vs1 := C6.cell nB e2
    have f4 : w6.cell? ⟨Bx, 0, none⟩ = some (.int .i64 ((t : Int) + xo)) := C6.cell nBx e4
    have hB6 : w6.heap[B]? = some (.cells cs1 T (0, 0)) := (C6.block B (bl_lt i5.blk) nB).trans i5.blk
    have fz : w6.frozen? ⟨B, o + 2, none⟩ = false := bl_open hB6 _
    have hB7 := bl_set hB6 (o + 2) (.slice (some ⟨g6, 0, none⟩) (L1.length + 1) c6)
    have fz7 := bl_open hB7 (o + 3)
    have hne7 : B ≠ w.heap.size := by have := bl_lt h.blk; omega
    have fx7 : (w6.setCell ⟨B, o + 2, none⟩ (.slice (some ⟨g6, 0, none⟩) (L1.length + 1) c6)).cell? ⟨w.heap.size, 0, none⟩ = some (.pointer (some ⟨B, o, none⟩)) := by rw [World.cell?_setCell_far _ _ _ _ (by simpa using hne7)]; exact fx
    have k7 : (w6.setCell ⟨B, o + 2, none⟩ (.slice (some ⟨g6, 0, none⟩) (L1.length + 1) c6)).cell? ⟨B, o + 3, none⟩ = some (.int .i64 ((t + endL 0 (pre.map Itv.it) : Nat) : Int)) := bl_cell hB7 _ _ (by rw [Array.getElem?_setIfInBounds_ne (by omega)]; exact hi1.c3)
    have hFIN : Kq (Kr a3 (bs.length + m - t)) W ((w6.setCell ⟨B, o + 2, none⟩ (.slice (some ⟨g6, 0, none⟩) (L1.length + 1) c6)).setCell ⟨B, o + 3, none⟩ (.int .i64 ((t : Int) + xf))) ∧
        KeepsOthers W ((w6.setCell ⟨B, o + 2, none⟩ (.slice (some ⟨g6, 0, none⟩) (L1.length + 1) c6)).setCell ⟨B, o + 3, none⟩ (.int .i64 ((t : Int) + xf))) ∧
        Img ((w6.setCell ⟨B, o + 2, none⟩ (.slice (some ⟨g6, 0, none⟩) (L1.length + 1) c6)).setCell ⟨B, o + 3, none⟩ (.int .i64 ((t : Int) + xf))) n₀ B o T ((cs1.setIfInBounds (o + 2) (.slice (some ⟨g6, 0, none⟩) (L1.length + 1) c6)).setIfInBounds (o + 3) (.int .i64 ((t : Int) + xf))) (.slice a2 (bs.length + m) q2) g2 (bs ++ xs) (.slice (some ⟨g6, 0, none⟩) (L1.length + 1) c6) (L1 ++ [(t : Int) + xo]) (t + endL 0 ((pre ++ [(⟨⟨xo, xi, xf⟩, xa, xc⟩ : Itv)]).map Itv.it)) ∧
        Boxed ((w6.setCell ⟨B, o + 2, none⟩ (.slice (some ⟨g6, 0, none⟩) (L1.length + 1) c6)).setCell ⟨B, o + 3, none⟩ (.int .i64 ((t : Int) + xf))) w.heap.size 93 (.pointer (some ⟨B, o, none⟩)) ∧
        Chg (Ib B gb vs) w ((w6.setCell ⟨B, o + 2, none⟩ (.slice (some ⟨g6, 0, none⟩) (L1.length + 1) c6)).setCell ⟨B, o + 3, none⟩ (.int .i64 ((t : Int) + xf))) ∧
        (g6 = W5.heap.size ∨ vs1.ownBlock = some g6) := by
      have hp := rcs_prefix _ 0 _ (Nat.le_refl _) _ _ hpx
      rw [hDl] at hp
      dsimp only at hp
      have e1 : ((t + xf : Nat) : Int) = (t : Int) + xf := by omega
      have hP := hi1.push (W1 := w6) (((chg_of_below (S := fun k => some k = vs1.ownBlock) b5)).trans C6 (fun _ _ e => e) (fun _ _ e => e)) hr6 (hat6.elim (fun e => .inl e.symm) (fun e => .inr ⟨g6, rfl, by rw [e]; exact b5.size⟩)) (t + xf) (by have := hi1.ll; omega) (by have := hi1.lt; rw [hl2] at this ⊢; omega)
      rw [e1] at hP
      have hee : t + endL 0 ((pre ++ [(⟨⟨xo, xi, xf⟩, xa, xc⟩ : Itv)]).map Itv.it) = t + xf := by rw [List.map_append, List.map_cons, List.map_nil, endL_snoc]
      have hkk : ∀ k, k < W.heap.size → k ≠ B → some k ≠ vs1.ownBlock → ((w6.setCell ⟨B, o + 2, none⟩ (.slice (some ⟨g6, 0, none⟩) (L1.length + 1) c6)).setCell ⟨B, o + 3, none⟩ (.int .i64 ((t : Int) + xf))).heap[k]? = W.heap[k]? := by
        intro k hk hkB hks
        rw [Below.heap_setCell _ _ _ k (by simpa using hkB), Below.heap_setCell _ _ _ k (by simpa using hkB), C6.block k (by have := b5.size; omega) hks, b5.block k hk]
      refine ⟨?_, ?_, by rw [hee]; exact hP, ?_, ?_, hat6.symm⟩
      · intro k hk
        have hkl := HK.out.1 k hk
        refine hkk k (by omega) ?_ ?_
        · rintro rfl
          rcases HK.out.2 _ hk with q | q
          · have := hi1.hB; omega
          · exact hi1.ng q rfl
        · intro e
          rcases HK.out.2 k hk with q | q
          · have := (row_own hi1.st e.symm).1; omega
          · exact (hi1.ns e.symm).2 q
      · refine ((KeepsOthers.trans ?_ (KeepsOthers.of_grownBy hgr6 (fun j o e ho => ?_))).trans (KeepsOthers.setCell _ _ _)).trans (KeepsOthers.setCell _ _ _)
        · rw [hW5]; exact (KeepsOthers.alloc W _).trans (KeepsOthers.drew _)
        · obtain ⟨_, _, c, hc⟩ := row_own i5.st e
          rw [hc] at ho; cases ho; rfl
      · exact (hkk w.heap.size hWs (fun e => hne7 e.symm) (h1.not_row (by decide) hi1.st)).trans h1
      · have C7 : Chg (Ib B gb vs) w w6 := (h5.trans (chg_of_below (S := Ib B gb vs) b5) (fun _ _ e => e) (fun _ _ e => e)).trans C6 (fun _ _ e => e) (fun k hk e => by
          rcases hv with q | ⟨b, q, hb⟩
          · rw [q] at e; exact .inr (.inr e)
          · rw [q] at e; cases e; omega)
        exact (C7.trans (chg_set _ _ _ _) (fun _ _ e => e) (fun _ _ e => .inl e)).trans (chg_set _ _ _ _) (fun _ _ e => e) (fun _ _ e => .inl e)
    have HF : Hid (_ ∧ _) := hFIN
    have HP3 : Hid (SameBut o cs cs1 ∧ (pre.map Itv.it ++ [⟨xo, xi, xf⟩]) <+: rcs 0 ((bs ++ xs).drop t) ∧ w.heap.size < W5.heap.size ∧ (vs1.ownBlock = vs.ownBlock ∨ ∃ b, vs1.ownBlock = some b ∧ w.heap.size ≤ b)) := ⟨h3, hpx, by have := b5.size; omega, hv⟩
    clear hFIN hB7 hB6 C6 nB nBx nx bX5 h15 i5 hgr6 hat6 hr6 x5 b5 bX h1 hi1 h3 hv h5 h6 hpx
    have mixed : Tryz.prog.follows .mixedOrders = true := by kernel_rfl
    subst hW5
    gi_wp2_with fail
    refine round_way { tmps := #[.pointer (some ⟨B, o, none⟩), .slice ao m cap, .pointer (some ⟨w.heap.size, 0, none⟩), undef, .pointer (some ⟨Bx, 0, none⟩), .int .i64 ((t : Int) + xf), .pointer (some ⟨B, o, none⟩), .pointer (some ⟨B, o, none⟩), .pointer (some ⟨B, o, none⟩), .pointer (some ⟨B, o + 1, none⟩), vb, .slice ao m cap, .slice a2 (bs.length + m) q2, .pointer (some ⟨B, o, none⟩), .pointer (some ⟨B, o + 1, none⟩), .pointer (some ⟨B, o, none⟩), .pointer (some ⟨B, o, none⟩), .pointer (some ⟨B, o + 3, none⟩), .int .i64 (t : Int), .pointer (some ⟨B, o, none⟩), .pointer (some ⟨B, o, none⟩), .pointer (some ⟨B, o + 1, none⟩), .slice a2 (bs.length + m) q2, .pointer (some ⟨B, o, none⟩), .pointer (some ⟨B, o, none⟩), .pointer (some ⟨B, o + 3, none⟩), .int .i64 (t : Int), .pointer (some ⟨B, o, none⟩), .pointer (some ⟨B, o, none⟩), .pointer (some ⟨B, o, none⟩), .int .i64 0, .int .i64 (t : Int), .slice a3 (bs.length + m - t) q3, .func (.func 38) #[] #[.pointer (some ⟨W2.heap.size, 0, none⟩), .pointer (some ⟨W2.heap.size + 1, 0, none⟩)], .agg #[.int .i64 ((t : Int) + xo), .slice xa xi.length xc], .int .i64 ((t : Int) + xf), .pointer (some ⟨B, o, none⟩), .pointer (some ⟨B, o, none⟩), .pointer (some ⟨B, o, none⟩), .pointer (some ⟨B, o + 2, none⟩), vs1, .pointer (some ⟨Bx, 0, none⟩), .int .i64 ((t : Int) + xo), .slice (some ⟨W.heap.size, 0, none⟩) 1 1, .slice (some ⟨g6, 0, none⟩) (L1.length + 1) c6, .pointer (some ⟨B, o, none⟩), .pointer (some ⟨B, o + 2, none⟩), undef, undef, undef, undef], defers := [] } (w6.setCell ⟨B, o + 2, none⟩ (.slice (some ⟨g6, 0, none⟩) (L1.length + 1) c6)) mixed (by decide) ?reg ?_
    case reg =>
      refine wpAny_of_Z (S := fun V : World => V.cell? ⟨w.heap.size, 0, none⟩ = some (.pointer (some ⟨B, o, none⟩)) ∧ V.cell? ⟨B, o + 2, none⟩ = some vs1 ∧ V.cell? ⟨Bx, 0, none⟩ = some (.int .i64 ((t : Int) + xo))) (z := zOf [9, 10, 11] []) _ _ _ _ ?_
      have hHeld : (fun V : World => V.cell? ⟨w.heap.size, 0, none⟩ = some (.pointer (some ⟨B, o, none⟩)) ∧ V.cell? ⟨B, o + 2, none⟩ = some vs1 ∧ V.cell? ⟨Bx, 0, none⟩ = some (.int .i64 ((t : Int) + xo))) _ := ⟨dx, d2, d4⟩
      refine wpAnyZ_take (zOf_all _ _) (i := 0) (oi := { dst := some 36, op := Op.load 93 (Operand.tmp 2), type := 93, pos := "image.go:46", after := #[], guard := none }) (v := ?_) rfl (by kernel_rfl) (by kernel_rfl) (by kernel_rfl) (by kernel_rfl) (fun _ _ _ h => h) (Or.inl ⟨by rfl, ?_⟩) hHeld ?_
      rotate_left
      · (intro W hSw; (try dsimp only at hSw); first | (go_simp; done) | (go_simp; with_reducible rfl))
      try simp only [Act.put, List.setIfInBounds_toArray, List.set_cons_zero, List.set_cons_succ]
      refine wpAnyZ_take (zOf_all _ _) (i := 1) (oi := { dst := some 37, op := Op.load 93 (Operand.tmp 2), type := 93, pos := "image.go:46", after := #[], guard := none }) (v := ?_) rfl (by kernel_rfl) (by kernel_rfl) (by kernel_rfl) (by kernel_rfl) (fun _ _ _ h => h) (Or.inl ⟨by rfl, ?_⟩) hHeld ?_
      rotate_left
      · (intro W hSw; (try dsimp only at hSw); first | (go_simp; done) | (go_simp; with_reducible rfl))
      try simp only [Act.put, List.setIfInBounds_toArray, List.set_cons_zero, List.set_cons_succ]
      refine wpAnyZ_take (zOf_all _ _) (i := 2) (oi := { dst := some 38, op := Op.nilCheck (Operand.tmp 37), type := 0, pos := "image.go:46", after := #[{ on := 1, ground := Ground.data }], guard := none }) (v := ?_) rfl (by kernel_rfl) (by kernel_rfl) (by kernel_rfl) (by kernel_rfl) (fun _ _ _ h => h) (Or.inl ⟨by rfl, ?_⟩) hHeld ?_
      rotate_left
      · (intro W hSw; (try dsimp only at hSw); first | (go_simp; done) | (go_simp; with_reducible rfl))
      try simp only [Act.put, List.setIfInBounds_toArray, List.set_cons_zero, List.set_cons_succ]
      refine wpAnyZ_take (zOf_all _ _) (i := 3) (oi := { dst := some 39, op := Op.fieldAddr 70 (Operand.tmp 38) 2, type := 0, pos := "image.go:46", after := #[{ on := 2, ground := Ground.data }], guard := none }) (v := ?_) rfl (by kernel_rfl) (by kernel_rfl) (by kernel_rfl) (by kernel_rfl) (fun _ _ _ h => h) (Or.inl ⟨by rfl, ?_⟩) hHeld ?_
      rotate_left
      · (intro W hSw; (try dsimp only at hSw); first | (go_simp; done) | (go_simp; with_reducible rfl))
      try simp only [Act.put, List.setIfInBounds_toArray, List.set_cons_zero, List.set_cons_succ]
      refine wpAnyZ_take (zOf_all _ _) (i := 4) (oi := { dst := some 40, op := Op.load 68 (Operand.tmp 39), type := 68, pos := "image.go:46", after := #[{ on := 3, ground := Ground.data }], guard := none }) (v := ?_) rfl (by kernel_rfl) (by kernel_rfl) (by kernel_rfl) (by kernel_rfl) (fun _ _ _ h => h) (Or.inl ⟨by rfl, ?_⟩) hHeld ?_
      rotate_left
      · (intro W hSw; (try dsimp only at hSw); first | (go_simp; done) | (go_simp; with_reducible rfl))
      try simp only [Act.put, List.setIfInBounds_toArray, List.set_cons_zero, List.set_cons_succ]
      refine wpAnyZ_take (zOf_all _ _) (i := 5) (oi := { dst := some 41, op := Op.fieldAddr 59 (Operand.tmp 4) 0, type := 0, pos := "image.go:46", after := #[], guard := none }) (v := ?_) rfl (by kernel_rfl) (by kernel_rfl) (by kernel_rfl) (by kernel_rfl) (fun _ _ _ h => h) (Or.inl ⟨by rfl, ?_⟩) hHeld ?_
      rotate_left
      · (intro W hSw; (try dsimp only at hSw); first | (go_simp; done) | (go_simp; with_reducible rfl))
      try simp only [Act.put, List.setIfInBounds_toArray, List.set_cons_zero, List.set_cons_succ]
      refine wpAnyZ_take (zOf_all _ _) (i := 6) (oi := { dst := some 42, op := Op.load 3 (Operand.tmp 41), type := 3, pos := "image.go:46", after := #[{ on := 5, ground := Ground.data }], guard := none }) (v := ?_) rfl (by kernel_rfl) (by kernel_rfl) (by kernel_rfl) (by kernel_rfl) (fun _ _ _ h => h) (Or.inl ⟨by rfl, ?_⟩) hHeld ?_
      rotate_left
      · (intro W hSw; (try dsimp only at hSw); first | (go_simp; done) | (go_simp; with_reducible rfl))
      try simp only [Act.put, List.setIfInBounds_toArray, List.set_cons_zero, List.set_cons_succ]
      refine wpAnyZ_one (i := 7) (o := { dst := some 43, op := Op.buildSlice 68 1 #[(0, Operand.tmp 42)], type := 68, pos := "image.go:46", after := #[{ on := 6, ground := Ground.data }], guard := none }) (by kernel_rfl) rfl (fun K hK => ?_)
      clear hHeld
      go_simp
      refine hK.out _ _ ⟨fun _ => ?_, fun h => absurd h (by decide)⟩ (fun hH => ?_)
      · (exact ⟨ex, e2, e4⟩)
      clear hK K
      have hHeld := hH.1 (by decide)
      clear hH
      try simp only [Act.put, List.setIfInBounds_toArray, List.set_cons_zero, List.set_cons_succ]
      refine wpAnyZ_one (i := 8) (o := { dst := some 44, op := Op.call { callee := Callee.builtin Builtin.append, args := #[Operand.tmp 40, Operand.tmp 43], argTypes := #[68, 68] }, type := 68, pos := "image.go:46", after := #[{ on := 4, ground := Ground.data }, { on := 7, ground := Ground.data }], guard := none }) (by kernel_rfl) rfl (fun K hK => ?_)
      clear hHeld
      refine step_append_run (by rfl) _ _ _ _ (by rfl) _ _ (by rfl) (by rfl) hrun5 ?_
      refine hK.out _ _ ⟨fun _ => ?_, fun h => absurd h (by decide)⟩ (fun hH => ?_)
      · (exact ⟨fx, f2, f4⟩)
      clear hK K
      have hHeld := hH.1 (by decide)
      clear hH
      try simp only [Act.put, List.setIfInBounds_toArray, List.set_cons_zero, List.set_cons_succ]
      refine wpAnyZ_tail (by kernel_rfl) ?_
      clear hHeld
      refine wpAny_take (i := 9) (oi := { dst := some 45, op := Op.nilCheck (Operand.tmp 36), type := 0, pos := "image.go:46", after := #[{ on := 0, ground := Ground.data }, { on := 0, ground := Ground.phase }, { on := 1, ground := Ground.phase }, { on := 2, ground := Ground.phase }, { on := 3, ground := Ground.phase }, { on := 4, ground := Ground.phase }, { on := 5, ground := Ground.phase }, { on := 6, ground := Ground.phase }, { on := 7, ground := Ground.phase }, { on := 8, ground := Ground.phase }], guard := none }) (v := ?_) rfl (by kernel_rfl) (by kernel_rfl) (by kernel_rfl) (fun _ _ _ h => h) (Or.inl ⟨by rfl, ?_⟩) ?_
      rotate_left
      · (intro W; first | (go_simp; done) | (go_simp; with_reducible rfl))
      try simp only [Act.put, List.setIfInBounds_toArray, List.set_cons_zero, List.set_cons_succ]
      refine wpAny_take (i := 10) (oi := { dst := some 46, op := Op.fieldAddr 70 (Operand.tmp 45) 2, type := 0, pos := "image.go:46", after := #[{ on := 9, ground := Ground.data }, { on := 0, ground := Ground.phase }, { on := 1, ground := Ground.phase }, { on := 2, ground := Ground.phase }, { on := 3, ground := Ground.phase }, { on := 4, ground := Ground.phase }, { on := 5, ground := Ground.phase }, { on := 6, ground := Ground.phase }, { on := 7, ground := Ground.phase }, { on := 8, ground := Ground.phase }], guard := none }) (v := ?_) rfl (by kernel_rfl) (by kernel_rfl) (by kernel_rfl) (fun _ _ _ h => h) (Or.inl ⟨by rfl, ?_⟩) ?_
      rotate_left
      · (intro W; first | (go_simp; done) | (go_simp; with_reducible rfl))
      try simp only [Act.put, List.setIfInBounds_toArray, List.set_cons_zero, List.set_cons_succ]
      refine wpAny_ready (rs := [11]) (by kernel_rfl) (by simp) ?_
      refine AllReady.cons (o := { dst := none, op := Op.store 68 (Operand.tmp 46) (Operand.tmp 44), type := 0, pos := "image.go:46", after := #[{ on := 10, ground := Ground.data }, { on := 8, ground := Ground.data }, { on := 8, ground := Ground.chain }, { on := 0, ground := Ground.phase }, { on := 1, ground := Ground.phase }, { on := 2, ground := Ground.phase }, { on := 3, ground := Ground.phase }, { on := 4, ground := Ground.phase }, { on := 5, ground := Ground.phase }, { on := 6, ground := Ground.phase }, { on := 7, ground := Ground.phase }, { on := 8, ground := Ground.phase }], guard := none }) rfl (fun K hK => ?_) AllReady.nil
      go_simp
      refine hK _ _ ?_
      clear hK K
      try simp only [Act.put, List.setIfInBounds_toArray, List.set_cons_zero, List.set_cons_succ]
      refine wpAny_done (by kernel_rfl) ?_ _
      exact ⟨rfl, rfl, rfl⟩
    dsimp only
    gi_wp2
    obtain ⟨q1, q2', q3', q4, q5, q6⟩ := HF.out
    refine ⟨rfl, q2'.from _, q1, ⟨q4, _, _, _, q3', ?_, ?_⟩, q5, ?_, Nat.le_trans h7 q2'.size⟩
    · intro j hj1 hj2 hj3
      rw [Array.getElem?_setIfInBounds_ne (by omega), Array.getElem?_setIfInBounds_ne (by omega)]
      exact HP3.out.1 j hj1 hj2 hj3
    · rcases q6 with q | q
      · exact .inr ⟨g6, rfl, by rw [q]; exact Nat.le_of_lt HP3.out.2.2.1⟩
      · rcases HP3.out.2.2.2 with e | ⟨b, e, hb⟩
        · exact .inl (q.symm.trans e)
        · rw [q] at e; cases e; exact .inr ⟨g6, rfl, hb⟩
    · rw [List.map_append]; exact HP3.out.2.1
  case done =>
    rintro Dd ys W hD hS ⟨⟨h1, cs1, vs1, L1, hi1, h3, hv⟩, h5, h6, h7⟩ hK
    gi_wp2_with fail
    rw [hS] at hi1
    refine ⟨by simp, .inl ⟨_, _, rfl, run_takeDeferred hK, ?_⟩⟩
    refine ⟨_, results_none rfl _ _ _, ⟨_, rfl⟩, cs1, _, g2, vs1, L1, img_turn hi1 (grownBy_putObj' W Dd _) (fun r e => by cases e; exact ⟨_, hK, rfl⟩), h3, chg_turn h5 (grownBy_putObj' W Dd _) (fun r e => by cases e; exact Nat.le_trans hsz4 hD), HG.out, hv⟩
end Go.Proofs.YtonjjbmjholkjaaGreatDoor
