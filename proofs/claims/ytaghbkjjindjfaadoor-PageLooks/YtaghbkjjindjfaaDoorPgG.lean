/-
  The contracts of bytes.Clone and page.Get.
-/
import Derived.Test.YtaghbkjjindjfaaDoorPgF
namespace Go.Proofs.YtaghbkjjindjfaaDoor
open Go.RowKit Go.Shelf

attribute [local go_sem] Oper.semAt_some

set_option maxHeartbeats 1000000 in
theorem clone_any (ao : Option Addr) (n cap : Nat) (bs : List UInt8) (w : World) (h : Rd w ao n cap bs) (hl : n ≤ 140737488351232) :
    Calls Tryd.prog 26 #[.slice ao n cap] w fun e w' => ∃ ag cg, e = .returned (.slice ag bs.length cg) ∧ Go.Proofs.YtaghbkjjindjfaaDoor.Own w' w.heap.size (.slice ag bs.length cg) bs ∧ Below w.heap.size w w' := by
  have q := fun (W : World) (a : Option Addr) (n c : Nat) => Lib.run_eql_slice_nil (P := Tryd.prog) W 22 5 a n c 0 0 Tryd.underlying22
  cases ao with
  | none =>
    obtain ⟨rfl, rfl⟩ := h.2.2.2.1 rfl
    have : bs = [] := List.eq_nil_of_length_eq_zero h.1
    subst this
    go_enter Tryd.func26, Tryd.ntmps26
    go_wp2
    go_ret
    exact ⟨none, 0, rfl, World.ownsRow_nil _ _ _ _, Below.refl _ _⟩
  | some ad =>
    obtain ⟨i0, hi, hz0, hz1, hz2⟩ := info_parts Tryd.info5
    have A1 : Below w.heap.size w (w.alloc (.cells #[] 5)) := (Below.refl _ _).alloc (Nat.le_refl _) _
    have hra := h.later A1
    go_enter Tryd.func26, Tryd.ntmps26
    go_wp2_with (at_builtin; refine wpList_append_from rfl (.tmp 5) (.tmp 6) 22 22 rfl w.heap.size 5 i0 (.int .u8 0) 1 1 Tryd.underlying22 hi hz0 hz1 hz2 rfl _ 0 [] rfl (own_made (base := w.heap.size) w #[] 0 (Nat.le_refl _) (by decide) rfl) _ n (bv bs) rfl (src_of_rd Tryd.underlying22 hra) (by unfold maxLen; omega) (by omega) (by simp) ?_; intro v2 w2 ho2 hgrow2)
    have hO2 : Go.Proofs.YtaghbkjjindjfaaDoor.Own w2 w.heap.size v2 bs := own_of ho2
    have b2 : Below w.heap.size w w2 := A1.grown hgrow2 (by simp) (fun k hk => by cases hk; exact Nat.le_refl _)
    obtain ⟨ag, cg, rfl, _⟩ := hO2.rd
    clear ho2 hgrow2 A1 hra h
    go_wp2
    go_ret
    exact ⟨ag, cg, rfl, hO2, b2⟩

theorem boxed_later {w w' : World} {B : Nat} {t : TypeId} {v : Value} (h : Boxed w B t v) (hb : Below w.heap.size w w') : Boxed w' B t v := (hb.block B h.lt).trans h

theorem load_slice (w : World) (B : Nat) (v : Value) (h : w.cell? ⟨B, 0, none⟩ = some v) : (loadVar 22 ⟨B, 0, none⟩).run Tryd.prog w = .ok v w := by
  simp [loadVar, h, go_sem]
theorem load_bool (w : World) (B : Nat) (v : Value) (h : w.cell? ⟨B, 0, none⟩ = some v) : (loadVar 4 ⟨B, 0, none⟩).run Tryd.prog w = .ok v w := by
  simp [loadVar, h, go_sem]
theorem results_cells2 {P : Program} {fn : Func} {p q : Tmp} {t u : TypeId} (h : fn.results = #[.cell p t, .cell q u]) (tmps : Array Value) (w : World) (B1 B2 : Nat) (v1 v2 : Value)
    (hp : tmps.getD p undef = .pointer (some ⟨B1, 0, none⟩)) (hq : tmps.getD q undef = .pointer (some ⟨B2, 0, none⟩)) (h1 : (loadVar t ⟨B1, 0, none⟩).run P w = .ok v1 w) (h2 : (loadVar u ⟨B2, 0, none⟩).run P w = .ok v2 w) :
    (results fn tmps).run P w = .ok (.tuple #[v1, v2]) w := by
  have hp' : tmps[p]?.getD undef = .pointer (some ⟨B1, 0, none⟩) := by simpa using hp
  have hq' : tmps[q]?.getD undef = .pointer (some ⟨B2, 0, none⟩) := by simpa using hq
  simp [results, h, hp', hq', asAddr, h1, h2]

theorem own_turn {X Y : World} {row : Option Nat} {base : Nat} {v : Value} {bs : List UInt8} (h : Go.Proofs.YtaghbkjjindjfaaDoor.Own X base v bs) (hg : X.grownBy Y row) (hr : ∀ r, row = some r → ∃ o : Obj, X.heap[r]? = some o ∧ o.isCells = false) : Go.Proofs.YtaghbkjjindjfaaDoor.Own Y base v bs := by
  refine World.ownsRow.kept h hg ?_
  rcases h.2 with ⟨rfl, _⟩ | ⟨g, cap, cur, rfl, _, hgb, _⟩
  · exact .inl rfl
  · refine .inr fun e' => ?_
    obtain ⟨o, ho, hc⟩ := hr g (by simpa [Value.ownBlock] using e'.symm)
    rw [hgb] at ho; cases ho; cases hc

theorem cn_rel {w : World} {b off cap : Nat} {bs : List UInt8} (h : Rd w (some ⟨b, off, none⟩) 512 cap bs) (i : Nat) (hi : i < (rdS bs).length) : CnR w (cnAt b off bs i) (rdS bs)[i] := by
  have := (upto_rel h).2 i (by simp [cns, upto]; exact hi) hi
  simpa [cns, upto] using this

theorem boxed_put {W : World} {B D : Nat} {t : TypeId} {v : Value} (h : Boxed W B t v) (hK : W.heap[D]? = some (.deferred (some []))) : Boxed (W.putObj D (.deferred none)) B t v :=
  h.kept (grownBy_putObj' W D _) (fun e => by cases e; rw [show W.heap[B]? = _ from h] at hK; cases hK)
theorem own_far {w : World} {base B : Nat} {v u : Value} {bs : List UInt8} (h : Go.Proofs.YtaghbkjjindjfaaDoor.Own w base v bs) (hB : B < base) : Go.Proofs.YtaghbkjjindjfaaDoor.Own (w.setCell ⟨B, 0, none⟩ u) base v bs := by
  refine World.ownsRow.kept h (grownBy_setCell' w B u) ?_
  have hlt := World.ownsRow.lt h
  cases hv : v.ownBlock with
  | none => exact .inl rfl
  | some g => refine .inr fun e => ?_
              cases e
              have := (hlt B hv).1
              omega

/-- None of these is the slot that is asked for, with a record. -/
def NoM (slot : Int) (pre : List (Nat × Cn)) : Prop := ∀ x ∈ pre, ¬ ((x.1 : Int) = slot ∧ x.2.t = true)

/-- What Get answers: the record in that slot. -/
def getS (o : Option (List Slt)) (slot : Int) : Option (List UInt8) := if 0 ≤ slot then ((o.getD [])[slot.toNat]?).getD none else none

set_option maxHeartbeats 1000000 in
theorem get_none (ao : Option Addr) (n cap : Nat) (bs : List UInt8) (slot : Int) (w : World) (hT : Tab w) (hR : Rd w ao n cap bs) (hl : pg bs = none) :
    Calls Tryd.prog 6 #[.slice ao n cap, .int .i64 slot] w fun e w' => e = .returned (.tuple #[.slice none 0 0, .bool false]) ∧ Below w.heap.size w w' := by
  have hA0 : Below w.heap.size w (((w.alloc (.cells #[.int .i64 slot] 3)).alloc (.cells #[.slice none 0 0] 22)).alloc (.cells #[.bool false] 4)) := (((Below.refl _ w).alloc (Nat.le_refl _) _).alloc (by simp) _).alloc (by simp; omega) _
  have CR := right_any ao n cap bs _ (hT.later hA0 hT.pos) (hR.later hA0)
  rw [hl] at CR
  go_enter Tryd.func6, Tryd.ntmps6
  go_wp2_with fail
  refine CR.mono ?_
  rintro e w1 ⟨rfl, b1⟩
  have bR := (Boxed.new (w.alloc (.cells #[.int .i64 slot] 3)) 22 (.slice none 0 0)).alloc (.cells #[.bool false] 4)
  have bO := Boxed.new ((w.alloc (.cells #[.int .i64 slot] 3)).alloc (.cells #[.slice none 0 0] 22)) 4 (.bool false)
  simp only [World.size_alloc] at bR bO
  have bR1 := boxed_later bR b1
  have bO1 := boxed_later bO b1
  have hB1 : Below w.heap.size w w1 := hA0.trans (b1.mono hA0.size)
  have c1 := bR1.cell
  have c2 := bO1.cell
  have f1 := bR1.frozen
  have f2 := bO1.frozen
  clear CR hA0 b1 bR bO
  go_wp2
  refine bodyPost_ret (results_cells2 rfl _ _ (w.heap.size + 1) (w.heap.size + 1 + 1) (.slice none 0 0) (.bool false) rfl rfl (load_slice _ _ _ ?_) (load_bool _ _ _ ?_)) rfl ?_
  · exact ((bR1.set _).other (by omega) _).cell
  · exact ((bO1.other (by omega) _).set _).cell
  · exact ⟨rfl, (hB1.setCell (p := ⟨w.heap.size + 1, 0, none⟩) (by simp) _).setCell (p := ⟨w.heap.size + 1 + 1, 0, none⟩) (by simp; omega) _⟩

set_option maxRecDepth 100000 in
set_option maxHeartbeats 4000000 in
theorem get_page (b off cap : Nat) (bs : List UInt8) (slot : Int) (w : World) (hT : Tab w) (hR : Rd w (some ⟨b, off, none⟩) 512 cap bs) (l : List Slt) (hl : pg bs = some l) :
    Calls Tryd.prog 6 #[.slice (some ⟨b, off, none⟩) 512 cap, .int .i64 slot] w fun e w' => ∃ ag cg, e = .returned (.tuple #[.slice ag (sb (getS (some l) slot)).length cg, .bool (getS (some l) slot).isSome]) ∧ Go.Proofs.YtaghbkjjindjfaaDoor.Own w' w.heap.size (.slice ag (sb (getS (some l) slot)).length cg) (sb (getS (some l) slot)) ∧ Below w.heap.size w w' := by
  have hblt : b < w.heap.size := by
    obtain ⟨b', off', e', hc⟩ := hR.2.2.2.2 (by omega)
    cases e'
    have hl := hR.1
    exact World.block_lt_of_cell? w _ (hc 0 (by omega))
  have hrdS : rdS bs = l := (pg_some hl).2.2.2.1
  have hA0 : Below w.heap.size w (((w.alloc (.cells #[.int .i64 slot] 3)).alloc (.cells #[.slice none 0 0] 22)).alloc (.cells #[.bool false] 4)) := (((Below.refl _ w).alloc (Nat.le_refl _) _).alloc (by simp) _).alloc (by simp; omega) _
  have CR := right_any (some ⟨b, off, none⟩) 512 cap bs _ (hT.later hA0 hT.pos) (hR.low hA0 hblt)
  rw [hl] at CR
  refine (callsIn_wide (n := 6)).1 ?_
  refine callsIn_of_wp_marks Tryd.func6 rfl trivial ?_ rfl
  simp only [Tryd.ntmps6, List.size_toArray, List.length_cons, List.length_nil, Nat.reduceAdd, Nat.reduceSub, Array.replicate_succ, Array.replicate_zero, List.push_toArray, List.append_toArray, List.nil_append, List.cons_append]
  gi_wp2_with fail
  refine ⟨trivial, (callsIn_wide.2 CR).mono ?_⟩
  rintro e w1 ⟨rfl, b1⟩
  have bS := (((Boxed.new w 3 (.int .i64 slot)).alloc (.cells #[.slice none 0 0] 22)).alloc (.cells #[.bool false] 4))
  have bR := (Boxed.new (w.alloc (.cells #[.int .i64 slot] 3)) 22 (.slice none 0 0)).alloc (.cells #[.bool false] 4)
  have bO := Boxed.new ((w.alloc (.cells #[.int .i64 slot] 3)).alloc (.cells #[.slice none 0 0] 22)) 4 (.bool false)
  simp only [World.size_alloc] at bR bO
  have bS1 := boxed_later bS b1
  have bR1 := boxed_later bR b1
  have bO1 := boxed_later bO b1
  have hB1 : Below w.heap.size w w1 := hA0.trans (b1.mono hA0.size)
  have hz1 : w.heap.size + 3 ≤ w1.heap.size := by have := b1.size; simp at this; omega
  clear bS bR bO b1 hA0 CR
  gi_wp2_with fail
  refine ⟨trivial, (callsIn_wide.2 (slots_any _ _ _ _)).mono ?_⟩
  rintro e w' ⟨rfl, rfl⟩
  gi_wp2_with fail
  have bP := Boxed.new w1 22 (.slice (some ⟨b, off, none⟩) 512 cap)
  have hB0 := hB1.alloc hB1.size (.cells #[.slice (some ⟨b, off, none⟩) 512 cap] 22)
  have hsz : (w1.alloc (.cells #[.slice (some ⟨b, off, none⟩) 512 cap] 22)).heap.size = w1.heap.size + 1 := by simp
  have bS2 := bS1.alloc (.cells #[.slice (some ⟨b, off, none⟩) 512 cap] 22)
  have bR2 := bR1.alloc (.cells #[.slice (some ⟨b, off, none⟩) 512 cap] 22)
  have bO2 := bO1.alloc (.cells #[.slice (some ⟨b, off, none⟩) 512 cap] 22)
  obtain ⟨W0, hW0⟩ : ∃ W0, w1.alloc (.cells #[.slice (some ⟨b, off, none⟩) 512 cap] 22) = W0 := ⟨_, rfl⟩
  rw [hW0] at bP hB0 hsz bS2 bR2 bO2 ⊢
  clear hW0 bS1 bR1 bO1
  refine wpIn_rangeFunc_ownH (α := { x : Nat × Cn // ∃ i, i < (rdS bs).length ∧ x = (i, cnAt b off bs i) }) rfl (by omega) (gf := 37) (lb := #[.pointer (some ⟨w1.heap.size, 0, none⟩)]) rfl trivial (enters_of Tryd.func37 (by kernel_rfl) rfl)
    (slots_stopsP 5 (by omega) w1.heap.size w.heap.size b off cap bs W0 hblt (by omega) (by omega) (fun x => ∃ i, i < (rdS bs).length ∧ x = (i, cnAt b off bs i)) (fun i hi => ⟨i, hi, rfl⟩) bP.cell (hR.low hB0 hblt)) Kb.trans (Kb.put (by omega) (by omega)) (Below.refl _ _) (fun _ => rfl)
    (fun pre W => ((((Boxed W w.heap.size 3 (.int .i64 slot) ∧ Boxed W (w.heap.size + 1) 22 (.slice none 0 0)) ∧ Boxed W (w.heap.size + 1 + 1) 4 (.bool false)) ∧ Boxed W w1.heap.size 22 (.slice (some ⟨b, off, none⟩) 512 cap)) ∧ Below w.heap.size w W) ∧ NoM slot (pre.map Subtype.val))
    (fun c _ W => c = .ret ∧ ∃ r ag cg, getS (some l) slot = some r ∧ Boxed W (w.heap.size + 1) 22 (.slice ag r.length cg) ∧ Go.Proofs.YtaghbkjjindjfaaDoor.Own W w.heap.size (.slice ag r.length cg) r ∧ Boxed W (w.heap.size + 1 + 1) 4 (.bool true) ∧ Below w.heap.size w W)
    (OwnFrom.and (OwnFrom.and (OwnFrom.and (OwnFrom.and (OwnFrom.and (Own.from (boxed_own _ _ _) _) (Own.from (boxed_own _ _ _) _)) (Own.from (boxed_own _ _ _) _)) (Own.from (boxed_own _ _ _) _)) (ownFrom_below (Nat.le_refl _) (by omega))) (ownFrom_pure _ _))
    (fun c _ X Y row hs hg hr => by
      obtain ⟨hc, r, ag, cg, h1, h2, h3, h4, h5⟩ := hs
      refine ⟨hc, r, ag, cg, h1, boxed_own _ _ (fun (_ : Unit) => Value.slice ag r.length cg) () X Y row h2 hg (fun r e => (hr r e).2), ?_, boxed_own _ _ (fun (_ : Unit) => Value.bool true) () X Y row h4 hg (fun r e => (hr r e).2), ownFrom_below (β := Unit) (B := W0.heap.size) (Nat.le_refl _) (by omega) () X Y row h5 hg hr⟩
      exact own_turn h3 hg (fun r e => (hr r e).2))
    ⟨⟨⟨⟨⟨bS2, bR2⟩, bO2⟩, bP⟩, hB0⟩, fun x h => by simp at h⟩
    (fun x a' W => ∃ Bx, w1.heap.size < Bx ∧ Cx W Bx x.1.2 ∧ a' = { tmps := #[.slice (some ⟨b, off, none⟩) 512 cap, .int .i64 slot, undef, .pointer (some ⟨w.heap.size, 0, none⟩), .pointer (some ⟨w.heap.size + 1, 0, none⟩), .pointer (some ⟨w.heap.size + 1 + 1, 0, none⟩), .int .i64 (x.1.1 : Int), .pointer (some ⟨Bx, 0, none⟩), .slice (some ⟨b, off, none⟩) 512 cap, .bool true, .bool false, .slice (some ⟨b, off, none⟩) 512 cap, .func (.func 37) #[] #[.pointer (some ⟨w1.heap.size, 0, none⟩)], .int .i64 (x.1.1 : Int), .agg #[.bool x.1.2.t, .slice x.1.2.ao x.1.2.n x.1.2.cap], undef, undef, undef, undef, undef, undef, undef, undef, undef, undef], defers := [] })
    (fun x a' _ X Y row hs hg hr => by obtain ⟨Bx, h1, h2, h3⟩ := hs; exact ⟨Bx, h1, Cx.own Bx x.1.2 () X Y row h2 hg (fun r e => (hr r e).2), h3⟩)
    ?assign ?body ?done ?stop
  case assign =>
    rintro l1 pre ⟨⟨xi, xc⟩, hx⟩ W K ⟨⟨⟨⟨⟨bS3, bR3⟩, bO3⟩, bP3⟩, hB3⟩, hno⟩ hK
    simp only [itv]
    gi_wp2
    exact hK _ _ ((KeepsOthers.alloc _ _).from _) (Kb.of ((Below.refl W.heap.size W).alloc (Nat.le_refl _) _) hB3.size bP3.lt) ⟨⟨⟨⟨⟨bS3.alloc _, bR3.alloc _⟩, bO3.alloc _⟩, bP3.alloc _⟩, hB3.alloc hB3.size _⟩, hno⟩ ⟨W.heap.size, bP3.lt, World.alloc_heap_new W _, rfl⟩
  case body =>
    rintro l1 pre ⟨⟨i, xc⟩, hx⟩ a' W hl1 _ ⟨⟨⟨⟨⟨bS3, bR3⟩, bO3⟩, bP3⟩, hB3⟩, hno⟩ ⟨Bx, hBx, bX, rfl⟩ hlt
    obtain ⟨i', hi, hxe⟩ := hx
    cases hxe
    have rel := cn_rel (hR.low hB3 hblt) i hi
    have hn : (cnAt b off bs i).n < 65536 := by
      unfold cnAt
      split
      · simp
      · exact fld_lt bs _
    have cS := bS3.cell
    have c0 := bX.c0
    have c1 := bX.c1
    dsimp only at c0 c1
    have hgs : Hid (∀ r, (rdS bs)[i] = some r → (i : Int) = slot → getS (some l) slot = some r) := by
      intro r hr he
      subst he
      unfold getS
      rw [if_pos (by omega), Int.toNat_natCast, Option.getD_some]
      subst hrdS
      rw [List.getElem?_eq_getElem hi, hr]
      rfl
    have HNO : Hid (¬ ((i : Int) = slot ∧ (cnAt b off bs i).t = true) → NoM slot (pre.map Subtype.val ++ [(i, cnAt b off bs i)])) := by
      intro h x hx
      rcases List.mem_append.1 hx with h' | h'
      · exact hno x h'
      · rw [List.mem_singleton] at h'
        subst h'
        exact h
    generalize (rdS bs)[i] = s at rel hgs
    by_cases hs : (i : Int) = slot
    · cases ht : (cnAt b off bs i).t with
      | true =>
        cases s with
        | none => rw [show cnAt b off bs i = Cn.z from rel] at ht; cases ht
        | some r =>
          obtain ⟨_, hrd⟩ := rel
          have hgt := hgs.out r rfl hs
          have HGT : Hid (getS (some l) slot = some r) := hgt
          have CC := clone_any _ _ _ r W hrd (by omega)
          rw [ht] at c0
          clear hgs HNO hgt hno
          gi_wp2_with fail
          refine ⟨trivial, (CallsIn.inRound l1 (callsIn_wide.2 CC)).mono ?_⟩
          rintro e w4 ⟨ag, cg, rfl, hO, b4⟩
          have bR4 := boxed_later bR3 b4
          have bO4 := boxed_later bO3 b4
          have d1 := bR4.cell
          have d2 := bO4.cell
          have f1 := bR4.frozen
          have f2 := bO4.frozen
          clear CC
          gi_wp2
          refine ⟨(((KeepsOthers.of_grownBy (grown_of_below b4) (fun j o ej => by cases ej)).trans (KeepsOthers.setCell _ _ _)).trans (KeepsOthers.setCell _ _ _)).from _, rfl, r, ag, cg, HGT.out, ?_, ?_, ?_, ?_⟩
          · exact (bR4.set _).other (by omega) _
          · have hW1 := bO3.lt
            exact (own_far (own_far hO (by omega)) (by omega)).more hB3.size
          · exact (bO4.other (by omega) _).set _
          · exact ((hB3.trans (b4.mono hB3.size)).setCell (p := ⟨w.heap.size + 1, 0, none⟩) (by simp) _).setCell (p := ⟨w.heap.size + 1 + 1, 0, none⟩) (by simp; omega) _
      | false =>
        rw [ht] at c0
        have HH := HNO.out (fun h => by rw [ht] at h; cases h.2)
        have HN2 : Hid (NoM slot (pre.map Subtype.val ++ [(i, cnAt b off bs i)])) := HH
        clear HH HNO hno hgs
        gi_wp2
        exact ⟨KeepsFrom.refl _ _, Kb.refl _ _ _, ⟨⟨⟨⟨bS3, bR3⟩, bO3⟩, bP3⟩, hB3⟩, by simpa using HN2.out⟩
    · have HH := HNO.out (fun h => hs h.1)
      have HN2 : Hid (NoM slot (pre.map Subtype.val ++ [(i, cnAt b off bs i)])) := HH
      clear HH HNO hno hgs
      have hs' : ((i : Int) == slot) = false := by simpa using hs
      have hs2 : decide ((i : Int) = slot) = false := by simpa using hs
      gi_wp2
      exact ⟨KeepsFrom.refl _ _, Kb.refl _ _ _, ⟨⟨⟨⟨bS3, bR3⟩, bO3⟩, bP3⟩, hB3⟩, by simpa using HN2.out⟩
  case done =>
    rintro D ys W hD hys ⟨⟨⟨⟨⟨bS3, bR3⟩, bO3⟩, bP3⟩, hB3⟩, hno⟩ hK
    have hgn : getS (some l) slot = none := by
      unfold getS
      by_cases h0 : 0 ≤ slot
      · rw [if_pos h0, Option.getD_some]
        subst hrdS
        rcases Nat.lt_or_ge slot.toNat (rdS bs).length with hlt | hge
        · rw [List.getElem?_eq_getElem hlt, Option.getD_some]
          have rel := cn_rel (hR.low hB3 hblt) slot.toNat hlt
          have hm : (slot.toNat, cnAt b off bs slot.toNat) ∈ ys.map Subtype.val := by
            rw [hys]
            unfold upto
            exact List.mem_map.2 ⟨slot.toNat, List.mem_range.2 hlt, rfl⟩
          have h2 := hno _ hm
          have ht := rel.taken
          cases hs : (rdS bs)[slot.toNat] with
          | none => rfl
          | some r =>
            rw [hs] at ht
            exact absurd ⟨by show ((slot.toNat : Nat) : Int) = slot; omega, ht⟩ h2
        · rw [List.getElem?_eq_none hge]; rfl
      · rw [if_neg h0]
    have HGN : Hid (getS (some l) slot = none) := hgn
    have d1 := bR3.cell
    have d2 := bO3.cell
    have f1 := bR3.frozen
    have f2 := bO3.frozen
    clear hgn hno
    gi_wp2
    have bR5 := (bR3.set (.slice none 0 0)).other (B' := w.heap.size + 1 + 1) (by omega) (.bool false)
    have bO5 := (bO3.other (B' := w.heap.size + 1) (by omega) (.slice none 0 0)).set (.bool false)
    have hB5 := (hB3.setCell (p := ⟨w.heap.size + 1, 0, none⟩) (by simp) (.slice none 0 0)).setCell (p := ⟨w.heap.size + 1 + 1, 0, none⟩) (by simp; omega) (.bool false)
    have hK5 : ((W.setCell ⟨w.heap.size + 1, 0, none⟩ (.slice none 0 0)).setCell ⟨w.heap.size + 1 + 1, 0, none⟩ (.bool false)).heap[D]? = some (.deferred (some [])) := (KeepsOthers.setCell _ _ _).same D _ ((KeepsOthers.setCell _ _ _).same D _ hK rfl) rfl
    generalize (W.setCell ⟨w.heap.size + 1, 0, none⟩ (.slice none 0 0)).setCell ⟨w.heap.size + 1 + 1, 0, none⟩ (.bool false) = W5 at *
    refine ⟨by simp, .inl ⟨_, _, rfl, run_takeDeferred hK5, ?_⟩⟩
    refine ⟨_, results_cells2 rfl _ _ (w.heap.size + 1) (w.heap.size + 1 + 1) (.slice none 0 0) (.bool false) rfl rfl (load_slice _ _ _ ?_) (load_bool _ _ _ ?_), none, 0, ?_, ?_, ?_⟩
    · exact (boxed_put bR5 hK5).cell
    · exact (boxed_put bO5 hK5).cell
    · rw [HGN.out]; rfl
    · rw [HGN.out]; exact World.ownsRow_nil _ _ _ _
    · exact hB5.trans (belowK_b (w := w) (Nat.le_refl _) W5 D _ _ (by omega) hK5 rfl rfl)
  case stop =>
    rintro D c pre W hD _ ⟨rfl, r, ag, cg, hg, h2, h3, h4, h5⟩ hK
    have HG : Hid (getS (some l) slot = some r) := hg
    clear hg
    gi_wp2
    refine ⟨by simp, .inl ⟨_, _, rfl, run_takeDeferred hK, ?_⟩⟩
    refine ⟨_, results_cells2 rfl _ _ (w.heap.size + 1) (w.heap.size + 1 + 1) (.slice ag r.length cg) (.bool true) rfl rfl (load_slice _ _ _ ?_) (load_bool _ _ _ ?_), ag, cg, ?_, ?_, ?_⟩
    · exact (boxed_put h2 hK).cell
    · exact (boxed_put h4 hK).cell
    · rw [HG.out]; rfl
    · rw [HG.out]; exact ownsRow_putObj h3 _ hK rfl
    · exact h5.trans (belowK_b (w := w) (Nat.le_refl _) W D _ _ (by omega) hK rfl rfl)

/-- Get at any bytes. -/
theorem get_any (ao : Option Addr) (n cap : Nat) (bs : List UInt8) (slot : Int) (w : World) (hT : Tab w) (hR : Rd w ao n cap bs) :
    Calls Tryd.prog 6 #[.slice ao n cap, .int .i64 slot] w fun e w' => ∃ ag cg, e = .returned (.tuple #[.slice ag (sb (getS (pg bs) slot)).length cg, .bool (getS (pg bs) slot).isSome]) ∧ Go.Proofs.YtaghbkjjindjfaaDoor.Own w' w.heap.size (.slice ag (sb (getS (pg bs) slot)).length cg) (sb (getS (pg bs) slot)) ∧ Below w.heap.size w w' := by
  cases h : pg bs with
  | none =>
    refine (get_none ao n cap bs slot w hT hR h).mono ?_
    rintro e w' ⟨rfl, hb⟩
    have e0 : getS none slot = none := by unfold getS; split <;> rfl
    rw [e0]
    exact ⟨none, 0, rfl, World.ownsRow_nil _ _ _ _, hb⟩
  | some l =>
    have hn : n = 512 := by have h1 := (pg_some h).2.2.2.2; rw [hR.1] at h1; exact h1
    subst hn
    obtain ⟨b, off, rfl, _⟩ := hR.2.2.2.2 (by omega)
    exact get_page b off cap bs slot w hT hR l h
end Go.Proofs.YtaghbkjjindjfaaDoor
