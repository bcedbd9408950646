/-
  The contracts of wal.imageOf, image.end, image.since from 0 on, image.countBelow.
-/
import Derived.Test.YtonjjbmjholkjaaGreatDoorWlH
namespace Go.Proofs.YtonjjbmjholkjaaGreatDoor
open Go.RowKit Go.Shelf

/-- A region's ways out, however it is ordered, as a relation says. -/
theorem some_way {P : Program} {id : Nat} {ops : Array Oper} {b : Bool} {Q : Exit → Act → World → Prop} {a : Act} {w : World} (R : Act → World → Prop) (hreg : (Code.region id ops b).wp P (NoPanic fun e a w => e = .normal ∧ R a w) a w) (h : ∀ a w, R a w → Q .normal a w) : (Code.region id ops b).wp P Q a w := by
  refine Code.wp_mono (fun e a w h2 => ?_) hreg
  cases e <;> first | exact (h2 : False).elim | (obtain ⟨h3, h4⟩ := h2; first | exact h _ _ h4 | cases h3)

theorem Tryz.info70 : (Tryz.prog.info? 70).map (fun i => (i.zero, i.size, i.bytes)) = some (some (.agg #[.int .i64 0, .slice none 0 0, .slice none 0 0, .int .i64 0]), 4, 64) := by kernel_rfl

/-- What a row of one's own looks like as a value. -/
theorem row_form {w : World} {n₀ : Nat} {e : TypeId} {size k : Nat} {v : Value} {xs : List Value} (h : w.ownsRow n₀ e size v k xs) : ∃ a n c, v = .slice a n c := by
  rcases h.2 with ⟨rfl, _⟩ | ⟨g, cap, cur, rfl, _⟩
  · exact ⟨_, _, _, rfl⟩
  · exact ⟨_, _, _, rfl⟩

/-- An image as a value, and where its parts lie. -/
structure Imv (W : World) (n₀ : Nat) (vb : Value) (gb : Option Nat) (bs : List UInt8) (vs : Value) (L : List Int) (t : Nat) : Prop where
  ob : Ob W vb gb bs
  st : W.ownsRow n₀ 3 1 vs L.length (ivs L)
  hg : ∀ b, gb = some b → n₀ ≤ b
  lt : t ≤ bs.length
  ll : L.length ≤ t
  len : bs.length ≤ 16777216

theorem Imv.later {W W' : World} {n₀ : Nat} {vb : Value} {gb : Option Nat} {bs : List UInt8} {vs : Value} {L : List Int} {t : Nat} (h : Imv W n₀ vb gb bs vs L t) (hb : Below W.heap.size W W') : Imv W' n₀ vb gb bs vs L t :=
  ⟨h.ob.kept (fun b e => hb.block b (h.ob.lt e)), row_kept h.st (fun b e => hb.block b (row_own h.st e).2.1), h.hg, h.lt, h.ll, h.len⟩

theorem Img.imv {W : World} {n₀ B o : Nat} {T : TypeId} {cs : Array Value} {vb : Value} {gb : Option Nat} {bs : List UInt8} {vs : Value} {L : List Int} {t : Nat} (h : Img W n₀ B o T cs vb gb bs vs L t) : Imv W n₀ vb gb bs vs L t := ⟨h.ob, h.st, h.hg, h.lt, h.ll, h.len⟩

theorem Imv.at {W : World} {n₀ B o : Nat} {T : TypeId} {cs : Array Value} {vb : Value} {gb : Option Nat} {bs : List UInt8} {vs : Value} {L : List Int} {t : Nat} (h : Imv W n₀ vb gb bs vs L t) (hb : W.heap[B]? = some (.cells cs T (0, 0))) (c0 : cs[o]? = some (.int .i64 0)) (c1 : cs[o + 1]? = some vb) (c2 : cs[o + 2]? = some vs) (c3 : cs[o + 3]? = some (.int .i64 (t : Int))) (hB : n₀ ≤ B) (tu : T ≠ 5) (ti : T ≠ 3) :
    Img W n₀ B o T cs vb gb bs vs L t := ⟨hb, c0, c1, c2, c3, h.ob, h.st, hB, h.hg, tu, ti, h.lt, h.ll, h.len⟩

theorem imv_nil (W : World) (n₀ : Nat) : Imv W n₀ (.slice none 0 0) none [] (.slice none 0 0) [] 0 := ⟨Ob.nil W, World.ownsRow_nil _ _ _ _, fun b e => (by cases e), Nat.le_refl _, Nat.le_refl _, by decide⟩

theorem Imv.more {W : World} {n₀ n₁ : Nat} {vb : Value} {gb : Option Nat} {bs : List UInt8} {vs : Value} {L : List Int} {t : Nat} (h : Imv W n₁ vb gb bs vs L t) (hn : n₀ ≤ n₁) : Imv W n₀ vb gb bs vs L t := by
  refine ⟨h.ob, ?_, fun b e => Nat.le_trans hn (h.hg b e), h.lt, h.ll, h.len⟩
  obtain ⟨h1, h2⟩ := h.st
  refine ⟨h1, ?_⟩
  rcases h2 with hh | ⟨g, cap, cur, hv, hb, rest⟩
  · exact .inl hh
  · exact .inr ⟨g, cap, cur, hv, Nat.le_trans hn hb, rest⟩

theorem Imv.set {W : World} {n₀ : Nat} {vb : Value} {gb : Option Nat} {bs : List UInt8} {vs : Value} {L : List Int} {t : Nat} (h : Imv W n₀ vb gb bs vs L t) {b : Nat} {T : TypeId} {cs : Array Value} (hb : W.heap[b]? = some (.cells cs T (0, 0))) (tu : T ≠ 5) (ti : T ≠ 3) (i : Nat) (v : Value) : Imv (W.setCell ⟨b, i, none⟩ v) n₀ vb gb bs vs L t := by
  refine ⟨h.ob.kept (fun k e => Below.heap_setCell _ _ _ k ?_), row_kept h.st (fun k e => Below.heap_setCell _ _ _ k ?_), h.hg, h.lt, h.ll, h.len⟩
  · rcases h.ob with ⟨_, _, e2⟩ | ⟨b', _, cap, cur, _, h2, h3, _⟩
    · rw [e2] at e; cases e
    · rw [h2] at e
      cases e
      rintro rfl
      have := h3.symm.trans hb
      simp at this
      exact tu this.2.symm
  · obtain ⟨_, _, c, hc⟩ := row_own h.st e
    rintro rfl
    have := hc.symm.trans hb
    simp at this
    exact ti this.2.symm

theorem results_cell1 {P : Program} {fn : Func} {p : Tmp} {t : TypeId} (h : fn.results = #[.cell p t]) (tmps : Array Value) (w : World) (B : Nat) (v : Value) (hp : tmps.getD p undef = .pointer (some ⟨B, 0, none⟩)) (h1 : (loadVar t ⟨B, 0, none⟩).run P w = .ok v w) :
    (results fn tmps).run P w = .ok v w := by
  have hp' : tmps[p]?.getD undef = .pointer (some ⟨B, 0, none⟩) := by simpa using hp
  simp [results, h, hp', asAddr, h1]

theorem load_image (w : World) (B : Nat) (v0 v1 v2 v3 : Value) (h0 : w.cell? ⟨B, 0, none⟩ = some v0) (h1 : w.cell? ⟨B, 1, none⟩ = some v1) (h2 : w.cell? ⟨B, 2, none⟩ = some v2) (h3 : w.cell? ⟨B, 3, none⟩ = some v3) :
    (loadVar 70 ⟨B, 0, none⟩).run Tryz.prog w = .ok (.agg #[v0, v1, v2, v3]) w := by
  simp [loadVar, h0, h1, h2, h3, go_sem]

set_option maxRecDepth 20000 in
set_option maxHeartbeats 2000000 in
theorem imageOf_any (ao : Option Addr) (m cap : Nat) (xs : List UInt8) (w : World) (hT : Tab w) (hR : Rd w ao m cap xs) (hm : m ≤ 16777216) :
    Calls Tryz.prog 45 #[.int .i64 0, .slice ao m cap] w fun e w' => ∃ vb gb vs L, e = .returned (.agg #[.int .i64 0, vb, vs, .int .i64 ((endL 0 (rcs 0 xs) : Nat) : Int)]) ∧ Imv w' w.heap.size vb gb xs vs L (endL 0 (rcs 0 xs)) ∧ Below w.heap.size w w' := by
  obtain ⟨w2, hw2⟩ : ∃ w2, w2 = (w.alloc (.cells #[.int .i64 0, .slice none 0 0, .slice none 0 0, .int .i64 0] 70)).alloc (.cells #[.int .i64 0, .slice none 0 0, .slice none 0 0, .int .i64 0] 70) := ⟨_, rfl⟩
  have b0 : Below w.heap.size w w2 := by rw [hw2]; exact ((Below.refl _ _).alloc (Nat.le_refl _) _).alloc (by simp) _
  have hr2 : w2.heap[w.heap.size]? = some (.cells #[.int .i64 0, .slice none 0 0, .slice none 0 0, .int .i64 0] 70 (0, 0)) := by
    rw [hw2, Below.heap_alloc _ _ _ (by simp)]; exact heap_alloc_new w _
  have hx2 : w2.heap[w.heap.size + 1]? = some (.cells #[.int .i64 0, .slice none 0 0, .slice none 0 0, .int .i64 0] 70 (0, 0)) := by
    rw [hw2]
    have := heap_alloc_new (w.alloc (.cells #[.int .i64 0, .slice none 0 0, .slice none 0 0, .int .i64 0] 70)) (.cells #[.int .i64 0, .slice none 0 0, .slice none 0 0, .int .i64 0] 70)
    rw [World.size_alloc] at this
    exact this
  have i2 := (imv_nil w2 w.heap.size).at (o := 0) hx2 rfl rfl rfl rfl (by omega) (by decide) (by decide)
  have CG := grow_any w.heap.size (w.heap.size + 1) 0 _ _ _ _ _ _ _ _ ao m cap xs w2 hT.pos (hT.later b0 hT.pos) i2 (hR.later b0) (by simpa using hm)
  simp only [List.nil_append, List.drop_zero, Nat.zero_add] at CG
  have s2 := bl_lt hx2
  go_enter Tryz.func45, Tryz.ntmps45
  go_wp2_with fail
  rw [← hw2]
  clear hw2 i2
  refine CG.mono ?_
  rintro e w3 ⟨⟨v, rfl⟩, cs, vb, gb, vs, L, hi, hsb, hC, hgb, hvb⟩
  have hCb : Below w.heap.size w w3 := b0.trans (hC.below b0.size (fun k hk => by
    rcases hk with rfl | e | e
    · omega
    · cases e
    · cases e))
  have hr3 : w3.heap[w.heap.size]? = _ := (hC.block w.heap.size (by omega) (fun hk => by
    rcases hk with e | e | e
    · omega
    · cases e
    · cases e)).trans hr2
  obtain ⟨a1, n1, c1, rfl⟩ : ∃ a n c, vb = .slice a n c := by obtain ⟨a, c, e, -⟩ := hi.ob.form; exact ⟨_, _, _, e⟩
  obtain ⟨a2, n2, c2, rfl⟩ := row_form hi.st
  have k0 := bl_cell hi.blk _ _ hi.c0
  have k1 := bl_cell hi.blk _ _ hi.c1
  have k2 := bl_cell hi.blk _ _ hi.c2
  have k3 := bl_cell hi.blk _ _ hi.c3
  have r0 := bl_cell hr3 0 _ rfl
  have r1 := bl_cell hr3 1 _ rfl
  have r2 := bl_cell hr3 2 _ rfl
  have r3 := bl_cell hr3 3 _ rfl
  have f0 := bl_open hr3 0
  have f1 := bl_open hr3 1
  have f2 := bl_open hr3 2
  have f3 := bl_open hr3 3
  simp only [Nat.zero_add] at k0 k1 k2 k3
  have HI : Hid (_ ∧ _) := And.intro hi hCb
  have hr3' : Hid (w3.heap[w.heap.size]? = some (.cells #[.int .i64 0, .slice none 0 0, .slice none 0 0, .int .i64 0] 70 (0, 0))) := hr3
  clear CG hi hCb hsb hC hgb hvb hr2 hx2 b0 hr3 hT hR s2
  go_wp2
  have q1 := bl_set hr3'.out 0 (.int .i64 0)
  have q2 := bl_set q1 1 (.slice a1 n1 c1)
  have q3 := bl_set q2 2 (.slice a2 n2 c2)
  have q4 := bl_set q3 3 (.int .i64 ((endL 0 (rcs 0 xs) : Nat) : Int))
  have im := (((HI.out.1.imv.set hr3'.out (by decide) (by decide) 0 (.int .i64 0)).set q1 (by decide) (by decide) 1 (.slice a1 n1 c1)).set q2 (by decide) (by decide) 2 (.slice a2 n2 c2)).set q3 (by decide) (by decide) 3 (.int .i64 ((endL 0 (rcs 0 xs) : Nat) : Int))
  refine bodyPost_ret (results_cell1 rfl _ _ w.heap.size _ rfl (load_image _ _ _ _ _ _ (bl_cell q4 0 _ rfl) (bl_cell q4 1 _ rfl) (bl_cell q4 2 _ rfl) (bl_cell q4 3 _ rfl))) rfl ?_
  refine ⟨_, gb, _, L, rfl, im, ?_⟩
  exact (((HI.out.2.setCell (p := ⟨w.heap.size, 0, none⟩) (Nat.le_refl _) _).setCell (p := ⟨w.heap.size, 1, none⟩) (Nat.le_refl _) _).setCell (p := ⟨w.heap.size, 2, none⟩) (Nat.le_refl _) _).setCell (p := ⟨w.heap.size, 3, none⟩) (Nat.le_refl _) _

set_option maxRecDepth 20000 in
/-- Where the image ends. -/
theorem iend_any (n₀ B o : Nat) (T : TypeId) (cs : Array Value) (vb : Value) (gb : Option Nat) (bs : List UInt8) (vs : Value) (L : List Int) (t : Nat) (w : World) (h : Img w n₀ B o T cs vb gb bs vs L t) :
    Calls Tryz.prog 52 #[.pointer (some ⟨B, o, none⟩)] w fun e w' => e = .returned (.int .i64 (bs.length : Int)) ∧ Below w.heap.size w w' := by
  have hln := h.len
  obtain ⟨a1, c1, rfl, -, -⟩ := h.ob.form
  have k0 := bl_cell h.blk _ _ h.c0
  have k1 := bl_cell h.blk _ _ h.c1
  have hw : IntKind.i64.wrap (bs.length : Int) = (bs.length : Int) := by rw [IntKind.wrap_i64]; omega
  clear h
  go_enter Tryz.func52, Tryz.ntmps52
  go_wp2
  go_region_held3 (fun V => V.cell? ⟨B, o, none⟩ = some (.int .i64 0) ∧ V.cell? ⟨B, o + 1, none⟩ = some (.slice a1 bs.length c1)) (exact ⟨k0, k1⟩) (fail)
  go_wp2
  go_ret
  exact ⟨by simp, (Below.refl _ _).drew⟩

set_option maxRecDepth 20000 in
/-- All that the image tells. -/
theorem since_any (n₀ B o : Nat) (T : TypeId) (cs : Array Value) (vb : Value) (gb : Option Nat) (bs : List UInt8) (vs : Value) (L : List Int) (t : Nat) (w : World) (hT : Tab w) (h : Img w n₀ B o T cs vb gb bs vs L t) :
    Calls Tryz.prog 24 #[.pointer (some ⟨B, o, none⟩), .int .i64 0] w fun e w' => ∃ (xs : List Itv) (v : Value), e = .returned v ∧ xs.map Itv.it = rcs 0 bs ∧ w'.ownsRow w.heap.size 59 2 v xs.length (ecs 0 xs) ∧ Inn w' w.heap.size xs ∧ Below w.heap.size w w' := by
  suffices H : ∀ z : Nat, Hid (z = 0) → Calls Tryz.prog 24 #[.pointer (some ⟨B, o, none⟩), .int .i64 (z : Int)] w fun e w' => ∃ (xs : List Itv) (v : Value), e = .returned v ∧ xs.map Itv.it = rcs 0 bs ∧ w'.ownsRow w.heap.size 59 2 v xs.length (ecs (z : Int) xs) ∧ Inn w' w.heap.size xs ∧ Below w.heap.size w w' from H 0 rfl
  intro z hz
  have hln := h.len
  obtain ⟨y, ⟨a3, q3, rfl⟩, hrun3, hob3⟩ := slice_from h.ob z (by rw [hz.out]; exact Nat.zero_le _) hln
  have hR : ∀ W, Below w.heap.size w W → Rd W a3 (bs.length - z) q3 bs := fun W hW => by
    obtain ⟨ao', cap', e, hr, -, -⟩ := (hob3 W (h.ob.kept (fun b e => hW.block b (h.ob.lt e)))).form
    have h0 : bs.drop z = bs := by rw [hz.out]; rfl
    have h1 : bs.length - z = bs.length := by rw [hz.out]; rfl
    rw [h0] at e hr
    rw [h1] at e ⊢
    cases e
    exact hr
  obtain ⟨a1, c1, rfl, -, -⟩ := h.ob.form
  have k0 := bl_cell h.blk _ _ h.c0
  have k1 := bl_cell h.blk _ _ h.c1
  have ha : IntKind.i64.wrap (z : Int) = (z : Int) := by rw [hz.out]; rfl
  have CS := scan_any (z : Int) a3 (bs.length - z) q3 bs w.drew hT (hR _ (Below.refl _ _).drew) (by rw [hz.out]; decide) (by rw [hz.out]; decide) (by omega)
  clear hR hob3
  have lB := bl_lt h.blk
  clear h
  go_enter Tryz.func24, Tryz.ntmps24
  go_wp2
  go_region_held3 (fun V => V.cell? ⟨B, o, none⟩ = some (.int .i64 0) ∧ V.cell? ⟨B, o + 1, none⟩ = some (.slice a1 bs.length c1)) (first | exact ⟨k0, k1⟩ | exact ⟨(hb9.cell (p := ⟨B, o, none⟩) lB).trans k0, (hb9.cell (p := ⟨B, o + 1, none⟩) lB).trans k1⟩)
    ((first | (go_at_call 7; refine CS.mono ?_; rintro e w9 ⟨xs, v, rfl, hm, hrow, hin, hb9⟩)))
  go_wp2
  go_ret
  exact ⟨xs, v, rfl, hm, hrow, hin, ⟨hb9.os, hb9.tape, hb9.output, hb9.size, hb9.block⟩⟩

set_option maxRecDepth 20000 in
/-- How many records begin below a place: no more than there are. -/
theorem count_any (n₀ B o : Nat) (T : TypeId) (cs : Array Value) (vb : Value) (gb : Option Nat) (bs : List UInt8) (vs : Value) (L : List Int) (t : Nat) (at_ : Int) (w : World) (h : Img w n₀ B o T cs vb gb bs vs L t) :
    Calls Tryz.prog 86 #[.pointer (some ⟨B, o, none⟩), .int .i64 at_] w fun e w' => ∃ k : Nat, e = .returned (.int .i64 (k : Int)) ∧ k ≤ L.length ∧ w = w' := by
  have hln := h.len
  have CB := bsearch_any n₀ vs L at_ w h.st (by have := h.ll; have := h.lt; omega)
  obtain ⟨a2, n2, c2, rfl⟩ := row_form h.st
  have k2 := bl_cell h.blk _ _ h.c2
  clear h
  go_enter Tryz.func86, Tryz.ntmps86
  go_wp2_with (go_at_call 55; refine CB.mono ?_; rintro e w' ⟨k, b, rfl, hk, hw⟩; obtain rfl : w = w' := hw)
  go_ret
  exact ⟨k, rfl, hk, rfl⟩
end Go.Proofs.YtonjjbmjholkjaaGreatDoor
