/-
  A log's image where it lies; the contract of wal.image.grow.
-/
import Derived.Test.YtonjjbmjholkjaaGreatDoorWlB
import Derived.Test.YtonjjbmjholkjaaGreatDoorDkC
import Derived.Test.YtonjjbmjholkjaaGreatDoorWlM
import Derived.Test.YtonjjbmjholkjaaGreatDoorWlZ
namespace Go.Proofs.YtonjjbmjholkjaaGreatDoor
open Go.RowKit Go.Shelf

attribute [local go_sem] Oper.semAt_some

theorem Tryz.info3 : (Tryz.prog.info? 3).map (fun i => (i.zero, i.size, i.bytes)) = some (some (.int .i64 0), 1, 8) := by kernel_rfl

/-- An image, at the cells from o on of the block B. -/
structure Img (W : World) (n₀ B o : Nat) (T : TypeId) (cs : Array Value) (vb : Value) (gb : Option Nat) (bs : List UInt8) (vs : Value) (L : List Int) (t : Nat) : Prop where
  blk : W.heap[B]? = some (.cells cs T (0, 0))
  c0 : cs[o]? = some (.int .i64 0)
  c1 : cs[o + 1]? = some vb
  c2 : cs[o + 2]? = some vs
  c3 : cs[o + 3]? = some (.int .i64 (t : Int))
  ob : Ob W vb gb bs
  st : W.ownsRow n₀ 3 1 vs L.length (ivs L)
  hB : n₀ ≤ B
  hg : ∀ b, gb = some b → n₀ ≤ b
  tu : T ≠ 5
  ti : T ≠ 3
  lt : t ≤ bs.length
  ll : L.length ≤ t
  len : bs.length ≤ 16777216

theorem row_own {W : World} {n₀ : Nat} {e : TypeId} {size k : Nat} {v : Value} {xs : List Value} (h : W.ownsRow n₀ e size v k xs) {b : Nat} (hb : v.ownBlock = some b) : n₀ ≤ b ∧ b < W.heap.size ∧ ∃ cs, W.heap[b]? = some (.cells cs e (0, 0)) := by
  obtain ⟨cs, hc⟩ := row_type h b hb
  rcases h.2 with ⟨rfl, _⟩ | ⟨g, cap, cur, rfl, hg, _⟩
  · cases hb
  · cases hb
    exact ⟨hg, bl_lt hc, cs, hc⟩

theorem row_kept {W W' : World} {n₀ : Nat} {e : TypeId} {size k : Nat} {v : Value} {xs : List Value} (h : W.ownsRow n₀ e size v k xs) (hk : ∀ b, v.ownBlock = some b → W'.heap[b]? = W.heap[b]?) : W'.ownsRow n₀ e size v k xs := by
  obtain ⟨h1, h2⟩ := h
  refine ⟨h1, ?_⟩
  rcases h2 with hn | ⟨g, cap, cur, hv, hbg, hg, rest⟩
  · exact .inl hn
  · exact .inr ⟨g, cap, cur, hv, hbg, by rw [hk g (by rw [hv]; rfl), hg], rest⟩

theorem Img.gcells {W : World} {n₀ B o : Nat} {T : TypeId} {cs : Array Value} {vb : Value} {gb : Option Nat} {bs : List UInt8} {vs : Value} {L : List Int} {t : Nat} (h : Img W n₀ B o T cs vb gb bs vs L t) {b : Nat} (hb : gb = some b) : ∃ c, W.heap[b]? = some (.cells c 5 (0, 0)) := by
  rcases h.ob with ⟨_, _, e⟩ | ⟨b', _, cap, cur, _, h2, h3, _⟩
  · rw [e] at hb; cases hb
  · rw [h2] at hb; cases hb; exact ⟨_, h3⟩

/-- The three blocks of an image. -/
def Ib (B : Nat) (gb : Option Nat) (vs : Value) (k : Nat) : Prop := k = B ∨ some k = gb ∨ some k = vs.ownBlock

theorem Img.blks {W : World} {n₀ B o : Nat} {T : TypeId} {cs : Array Value} {vb : Value} {gb : Option Nat} {bs : List UInt8} {vs : Value} {L : List Int} {t : Nat} (h : Img W n₀ B o T cs vb gb bs vs L t) {k : Nat} (hk : Ib B gb vs k) : n₀ ≤ k ∧ k < W.heap.size ∧ ∃ c t, W.heap[k]? = some (.cells c t (0, 0)) := by
  rcases hk with rfl | e | e
  · exact ⟨h.hB, bl_lt h.blk, _, _, h.blk⟩
  · obtain ⟨c, hc⟩ := h.gcells e.symm
    exact ⟨h.hg _ e.symm, bl_lt hc, _, _, hc⟩
  · obtain ⟨h1, h2, c, h3⟩ := row_own h.st e.symm
    exact ⟨h1, h2, _, _, h3⟩

theorem Img.kept {W W' : World} {n₀ B o : Nat} {T : TypeId} {cs : Array Value} {vb : Value} {gb : Option Nat} {bs : List UInt8} {vs : Value} {L : List Int} {t : Nat} (h : Img W n₀ B o T cs vb gb bs vs L t) (hk : ∀ k, Ib B gb vs k → W'.heap[k]? = W.heap[k]?) : Img W' n₀ B o T cs vb gb bs vs L t :=
  ⟨by rw [hk B (.inl rfl), h.blk], h.c0, h.c1, h.c2, h.c3, h.ob.kept (fun b e => hk b (.inr (.inl e.symm))), row_kept h.st (fun b e => hk b (.inr (.inr e.symm))), h.hB, h.hg, h.tu, h.ti, h.lt, h.ll, h.len⟩

theorem Img.later {W W' : World} {n₀ B o : Nat} {T : TypeId} {cs : Array Value} {vb : Value} {gb : Option Nat} {bs : List UInt8} {vs : Value} {L : List Int} {t : Nat} (h : Img W n₀ B o T cs vb gb bs vs L t) (hb : Below W.heap.size W W') : Img W' n₀ B o T cs vb gb bs vs L t :=
  h.kept (fun k hk => hb.block k (h.blks hk).2.1)

theorem Img.ng {W : World} {n₀ B o : Nat} {T : TypeId} {cs : Array Value} {vb : Value} {gb : Option Nat} {bs : List UInt8} {vs : Value} {L : List Int} {t : Nat} (h : Img W n₀ B o T cs vb gb bs vs L t) {k : Nat} (hk : gb = some k) : k ≠ B := by
  obtain ⟨c, hc⟩ := h.gcells hk
  rintro rfl
  have := hc.symm.trans h.blk
  simp at this
  exact h.tu this.2.symm

theorem Img.ns {W : World} {n₀ B o : Nat} {T : TypeId} {cs : Array Value} {vb : Value} {gb : Option Nat} {bs : List UInt8} {vs : Value} {L : List Int} {t : Nat} (h : Img W n₀ B o T cs vb gb bs vs L t) {k : Nat} (hk : vs.ownBlock = some k) : k ≠ B ∧ gb ≠ some k := by
  obtain ⟨_, _, c, hc⟩ := row_own h.st hk
  constructor
  · rintro rfl
    have := hc.symm.trans h.blk
    simp at this
    exact h.ti this.2.symm
  · intro e
    obtain ⟨c2, hc2⟩ := h.gcells e
    have := hc.symm.trans hc2
    simp at this

theorem ob_setB {W : World} {B i : Nat} {vb v : Value} {gb : Option Nat} {bs : List UInt8} (h : Ob W vb gb bs) (hne : gb ≠ some B) : Ob (W.setCell ⟨B, i, none⟩ v) vb gb bs :=
  h.kept (fun b e => Below.heap_setCell _ _ _ b (by rintro rfl; exact hne e))

/-- Its bytes are others now. -/
theorem Img.setBytes {W W1 : World} {n₀ B o : Nat} {T : TypeId} {cs : Array Value} {vb : Value} {gb : Option Nat} {bs : List UInt8} {vs : Value} {L : List Int} {t : Nat} (h : Img W n₀ B o T cs vb gb bs vs L t) {S : Nat → Prop} (hC : Chg S W W1) (hS : ∀ k, S k → some k = gb)
    {vb' : Value} {gb' : Option Nat} {bs' : List UInt8} (ho : Ob W1 vb' gb' bs') (hg' : gb' = gb ∨ ∃ b, gb' = some b ∧ W.heap.size ≤ b) (hl : t ≤ bs'.length) (hlen : bs'.length ≤ 16777216) :
    Img (W1.setCell ⟨B, o + 1, none⟩ vb') n₀ B o T (cs.setIfInBounds (o + 1) vb') vb' gb' bs' vs L t := by
  have hB1 : W1.heap[B]? = some (.cells cs T (0, 0)) := (hC.block B (bl_lt h.blk) (fun e => h.ng (hS _ e).symm rfl)).trans h.blk
  have hs : o + 1 < cs.size := (Array.getElem?_eq_some_iff.1 h.c1).1
  refine ⟨bl_set hB1 _ _, ?_, ?_, ?_, ?_, ?_, ?_, h.hB, ?_, h.tu, h.ti, hl, h.ll, hlen⟩
  · rw [Array.getElem?_setIfInBounds_ne (by omega)]; exact h.c0
  · simp [hs]
  · rw [Array.getElem?_setIfInBounds_ne (by omega)]; exact h.c2
  · rw [Array.getElem?_setIfInBounds_ne (by omega)]; exact h.c3
  · refine ob_setB ho ?_
    rintro e
    rcases hg' with q | ⟨b, q, hb⟩
    · rw [q] at e; exact h.ng e rfl
    · rw [q] at e; cases e; have := bl_lt h.blk; omega
  · refine row_kept (row_kept h.st (fun b e => hC.block b (row_own h.st e).2.1 (fun s => (h.ns e).2 (hS _ s).symm))) (fun b e => Below.heap_setCell _ _ _ b (h.ns e).1)
  · intro b e
    rcases hg' with q | ⟨b', q, hb⟩
    · rw [q] at e; exact h.hg b e
    · rw [q] at e; cases e; have := bl_lt h.blk; have := h.hB; omega

/-- A record more is told of. -/
theorem Img.push {W W1 : World} {n₀ B o : Nat} {T : TypeId} {cs : Array Value} {vb : Value} {gb : Option Nat} {bs : List UInt8} {vs : Value} {L : List Int} {t : Nat} (h : Img W n₀ B o T cs vb gb bs vs L t) (hC : Chg (fun k => some k = vs.ownBlock) W W1)
    {vs' : Value} {x : Int} (hr : W1.ownsRow n₀ 3 1 vs' (L.length + 1) (ivs (L ++ [x]))) (hv : vs'.ownBlock = vs.ownBlock ∨ ∃ b, vs'.ownBlock = some b ∧ W.heap.size ≤ b) (t' : Nat) (h1 : L.length + 1 ≤ t') (h2 : t' ≤ bs.length) :
    Img ((W1.setCell ⟨B, o + 2, none⟩ vs').setCell ⟨B, o + 3, none⟩ (.int .i64 (t' : Int))) n₀ B o T ((cs.setIfInBounds (o + 2) vs').setIfInBounds (o + 3) (.int .i64 (t' : Int))) vb gb bs vs' (L ++ [x]) t' := by
  have hB1 : W1.heap[B]? = some (.cells cs T (0, 0)) := (hC.block B (bl_lt h.blk) (fun e => (h.ns e.symm).1 rfl)).trans h.blk
  have hs2 : o + 2 < cs.size := (Array.getElem?_eq_some_iff.1 h.c2).1
  have hs3 : o + 3 < cs.size := (Array.getElem?_eq_some_iff.1 h.c3).1
  have hgB : gb ≠ some B := fun e => h.ng e rfl
  refine ⟨bl_set (bl_set hB1 _ _) _ _, ?_, ?_, ?_, ?_, ?_, ?_, h.hB, h.hg, h.tu, h.ti, h2, by simpa using h1, h.len⟩
  · rw [Array.getElem?_setIfInBounds_ne (by omega), Array.getElem?_setIfInBounds_ne (by omega)]; exact h.c0
  · rw [Array.getElem?_setIfInBounds_ne (by omega), Array.getElem?_setIfInBounds_ne (by omega)]; exact h.c1
  · rw [Array.getElem?_setIfInBounds_ne (by omega)]; simp [hs2]
  · simp [hs3]
  · exact ob_setB (ob_setB (h.ob.kept (fun b e => hC.block b (h.ob.lt e) (fun s => (h.ns s.symm).2 e))) hgB) hgB
  · have e1 : (L ++ [x]).length = L.length + 1 := by simp
    rw [e1]
    have hnB : ∀ b, vs'.ownBlock = some b → b ≠ B := by
      intro b e
      rcases hv with q | ⟨b', q, hb⟩
      · rw [q] at e; exact (h.ns e).1
      · rw [q] at e; cases e; have := bl_lt h.blk; omega
    exact row_kept (row_kept hr (fun b e => Below.heap_setCell _ _ _ b (hnB b e))) (fun b e => Below.heap_setCell _ _ _ b (hnB b e))

/-- append at a step of a region that draws: what its run is known to be. -/
theorem step_append_run {P : Program} {w : World} {ops : Array Oper} {o : Oper} {a : Act} {K : Act → World → Prop} {Q : Exit → Act → World → Prop} {E : Prop} (hgd : o.guard = none) (s x : Operand) (t tx : TypeId)
    (ho : o.op = .call { callee := .builtin .append, args := #[s, x], argTypes := #[t, tx] }) (v xv : Value) (hv : a.eval s = v) (hx : a.eval x = xv) {v' : Value} {w' : World} (hr : (Builtin.append_ #[t, tx] o.type #[v, xv]).run P w = .ok v' w') (h : K (a.put o.dst v') w') :
    if Region.wanted o (yielded ops a.tmps) = true then Oper.wp P o a w K Q else E := by
  have hw : Region.wanted o (yielded ops a.tmps) = true := by simp [Region.wanted, hgd]
  rw [if_pos hw]
  unfold Oper.wp execOp
  simp only [ho, resolve, invoke, builtin, Sem.run_bind, Sem.run_pure, Result.andThen_ok, List.map_toArray, List.map_cons, List.map_nil, hv, hx, hr]
  exact h

/-- A region that has one way out, however it is ordered. -/
theorem one_way {P : Program} {id : Nat} {ops : Array Oper} {b : Bool} {Q : Exit → Act → World → Prop} {a : Act} {w : World} (a0 : Act) (w0 : World) (hreg : (Code.region id ops b).wp P (NoPanic fun e a w => e = .normal ∧ a = a0 ∧ w = w0) a w) (h : Q .normal a0 w0) : (Code.region id ops b).wp P Q a w := by
  refine Code.wp_mono (fun e a w h2 => ?_) hreg
  cases e <;> first | exact (h2 : False).elim | (obtain ⟨h3, rfl, rfl⟩ := h2; first | exact h | cases h3)

/-- The same, inside a round. -/
theorem round_way {P : Program} {l n id : Nat} {ops : Array Oper} {Q : Exit → Act → World → Prop} {a : Act} {w : World} (a0 : Act) (w0 : World) (hm : P.follows .mixedOrders = true) (hnd : ops.toList.all noDefer = true)
    (hreg : wpAny P .any ops (NoPanic fun e a w => e = .normal ∧ a = a0 ∧ w = w0) ops.size (Array.replicate ops.size false) a w.drew) (h : Q .normal a0 w0) : (Code.region id ops true).wpIn (Fence.wide.inRound l) n P Q a w := by
  refine wpIn_mono (wpIn_region_round (Q := NoPanic fun e a w => e = .normal ∧ a = a0 ∧ w = w0) hm hnd (fun ⟨a, w, h⟩ => by cases h.1) hreg) (fun e a w h2 => ?_)
  cases e <;> first | exact (h2 : False).elim | (obtain ⟨h3, rfl, rfl⟩ := h2; first | exact h | cases h3)

theorem img_turn {X Y : World} {n₀ B o : Nat} {T : TypeId} {cs : Array Value} {vb : Value} {gb : Option Nat} {bs : List UInt8} {vs : Value} {L : List Int} {t : Nat} {row : Option Nat} (h : Img X n₀ B o T cs vb gb bs vs L t) (hg : X.grownBy Y row)
    (hr : ∀ r, row = some r → ∃ o : Obj, X.heap[r]? = some o ∧ o.isCells = false) : Img Y n₀ B o T cs vb gb bs vs L t :=
  h.kept (fun k hk => hg.block k (h.blks hk).2.1 (fun e => by
    obtain ⟨o, ho, hc⟩ := hr k e.symm
    obtain ⟨_, _, c, t, hb⟩ := h.blks hk
    rw [hb] at ho
    cases ho
    cases hc))

theorem chg_turn {S : Nat → Prop} {w X Y : World} {row : Option Nat} (h : Chg S w X) (hg : X.grownBy Y row) (hr : ∀ r, row = some r → w.heap.size ≤ r) : Chg S w Y :=
  ⟨hg.os.trans h.os, hg.tape.trans h.tape, hg.output.trans h.output, Nat.le_trans h.size hg.size, fun k hk hS => (hg.block k (Nat.lt_of_lt_of_le hk h.size) (fun e => by have := hr k e.symm; omega)).trans (h.block k hk hS)⟩

/-- A number more at the end of a row of whole numbers of one's own. -/
theorem push_run {V : World} {n₀ : Nat} {vs : Value} {L : List Int} (hrow : V.ownsRow n₀ 3 1 vs L.length (ivs L)) (x : Int) (g1 : Nat) (hx : V.cell? ⟨g1, 0, none⟩ = some (.int .i64 x)) (hb : n₀ ≤ V.heap.size) (hL : L.length ≤ 16777216) :
    ∃ g cap w', (Builtin.append_ #[68, 68] 68 #[vs, .slice (some ⟨g1, 0, none⟩) 1 1]).run Tryz.prog V = .ok (.slice (some ⟨g, 0, none⟩) (L.length + 1) cap) w' ∧ w'.ownsRow n₀ 3 1 (.slice (some ⟨g, 0, none⟩) (L.length + 1) cap) (L.length + 1) (ivs (L ++ [x])) ∧
      V.grownBy w' vs.ownBlock ∧ (vs.ownBlock = some g ∨ g = V.heap.size) := by
  obtain ⟨i0, hi, hz0, hz1, hz2⟩ := info_parts Tryz.info3
  obtain ⟨g, cap, w', h1, h2, h3, h4, -⟩ := run_append_lies (P := Tryz.prog) V 68 68 n₀ 3 i0 (.int .i64 0) 1 8 Tryz.underlying68 hi hz0 hz1 hz2 rfl (by decide) vs L.length (ivs L) hrow ⟨g1, 0, none⟩ 1 1 [.int .i64 x] rfl
    (fun j u hj => by
      match j, hj with
      | 0, hj => simp at hj; subst hj; rw [Addr.add_lit]; exact hx
      | (j + 1), hj => simp at hj) (by simp [Value.oneCell']) (by decide) (by unfold maxLen; omega) (by omega) hb V.heap.size rfl
  exact ⟨g, cap, w', h1, by simpa [ivs] using h2, h3, h4⟩
end Go.Proofs.YtonjjbmjholkjaaGreatDoor
