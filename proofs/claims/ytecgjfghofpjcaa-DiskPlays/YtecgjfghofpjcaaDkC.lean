/-
  The contracts of disk's log, on: add, read, cut, retire, crash.
-/
import Derived.Test.YtecgjfghofpjcaaDkB
import Derived.Deep.RegionHeld2
import Derived.Deep.RegionHeld3
import Derived.Lib.LazyBuf
namespace Go.Proofs.Ytecgjfghofpjcaa
open Go.RowKit

/-- s[n:], of a row of one's own. -/
theorem slice_from {W : World} {v : Value} {g : Option Nat} {bs : List UInt8} (h : Ob W v g bs) (n : Nat) (hn : n ≤ bs.length) (hb : bs.length ≤ 16777216) :
    ∃ v', (∃ ao cap, v' = .slice ao (bs.length - n) cap) ∧ (∀ w, (Instr.slice 32 v (some (.int .i64 (n : Int))) none none).run Try.prog w = .ok v' w) ∧ ∀ w, Ob w v g bs → Ob w v' g (bs.drop n) := by
  have hi : (n : Int).toNat = n := by omega
  rcases h with ⟨rfl, rfl, rfl⟩ | ⟨b, o, cap, cur, rfl, rfl, h3, h4, h5, h6, h7⟩
  · obtain rfl : n = 0 := by simpa using hn
    refine ⟨.slice none 0 0, ⟨none, 0, rfl⟩, fun w => ?_, fun w h => h⟩
    simp [Instr.slice, Instr.sliceBounds, Instr.sliceBound, asIntOf, run_underlying Try.underlying32]
  · by_cases hc : cap - n = 0
    · refine ⟨.slice (some ⟨b, o, none⟩) (bs.length - n) (cap - n), ⟨_, _, rfl⟩, fun w => ?_, fun w h => h.drop n hn o (.inr ⟨by omega, rfl⟩)⟩
      simp [Instr.slice, Instr.sliceBounds, Instr.sliceBound, asIntOf, run_underlying Try.underlying32, hc, hn]
      intro h; omega
    · refine ⟨.slice (some ⟨b, o + n, none⟩) (bs.length - n) (cap - n), ⟨_, _, rfl⟩, fun w => ?_, fun w h => h.drop n hn (o + n) (.inl rfl)⟩
      simp [Instr.slice, Instr.sliceBounds, Instr.sliceBound, asIntOf, run_underlying Try.underlying32, hn]
      rw [if_neg (by omega), Addr.add_lit]

theorem Ob.blk {w : World} {ao : Option Addr} {n cap : Nat} {g : Option Nat} {bs : List UInt8} (h : Ob w (.slice ao n cap) g bs) {b off : Nat} (e : ao = some ⟨b, off, none⟩) : g = some b := by
  rcases h with ⟨h1, _⟩ | ⟨b', o, cap', cur, h1, h2, _⟩
  · cases h1; cases e
  · cases h1; cases e; exact h2

/-- s[:n:n]. -/
theorem slice_cut {W : World} {v : Value} {g : Option Nat} {bs : List UInt8} (h : Ob W v g bs) (n : Nat) (hn : n ≤ bs.length) (hb : bs.length ≤ 16777216) :
    ∃ v', (∃ ao, v' = .slice ao n n) ∧ (∀ w, (Instr.slice 32 v none (some (.int .i64 (n : Int))) (some (.int .i64 (n : Int)))).run Try.prog w = .ok v' w) ∧ ∀ w, Ob w v g bs → Ob w v' g (bs.take n) := by
  rcases h with ⟨rfl, rfl, rfl⟩ | ⟨b, o, cap, cur, rfl, rfl, h3, h4, h5, h6, h7⟩
  · obtain rfl : n = 0 := by simpa using hn
    refine ⟨.slice none 0 0, ⟨none, rfl⟩, fun w => ?_, fun w h => by simpa using h⟩
    simp [Instr.slice, Instr.sliceBounds, Instr.sliceBound, asIntOf, run_underlying Try.underlying32]
  · refine ⟨.slice (some ⟨b, o, none⟩) n n, ⟨_, rfl⟩, fun w => ?_, fun w h => h.cut n hn⟩
    have h8 : n ≤ cap := by omega
    simp [Instr.slice, Instr.sliceBounds, Instr.sliceBound, asIntOf, run_underlying Try.underlying32, h8]
    intro _; rw [Addr.add_lit]; rfl

set_option maxRecDepth 20000 in
theorem add_any (L : Nat) (g : Option Nat) (l : Lo) (x : Value) (xs : List UInt8) (w : World) (h : Lg w L g l) (ao : Option Addr) (m cap : Nat) (hx : x = .slice ao m cap) (hr : Rd w ao m cap xs) (hm : (l.bytes.length : Int) + xs.length ≤ l.most) :
    Calls Try.prog 38 #[.pointer (some ⟨L, 0, none⟩), x] w fun e w' => (∃ v, e = .returned v) ∧ ∃ g', Lg w' L g' { l with bytes := l.bytes ++ xs } ∧ Chg (fun k => k = L ∨ some k = g) w w' ∧ (g' = g ∨ g' = some w.heap.size) := by
  obtain ⟨ok, sv, hL, ho⟩ := h
  have hxl := hr.1
  have hl := ok.len'
  have hm2 := ok.m2
  obtain ⟨i0, hi, hz0, hz1, hz2⟩ := info_parts (show (Try.prog.info? 5).map (fun i => (i.zero, i.size, i.bytes)) = some (some (.int .u8 0), 1, 1) by kernel_rfl)
  obtain ⟨v', w1, g', hrun, ho1, hc1, hg⟩ := run_append_ob (P := Try.prog) 32 32 32 i0 _ Try.underlying32 hi hz0 hz1 hz2 rfl sv g l.bytes ho x m xs (by rw [hx]; exact src_of_rd Try.underlying32 hr) (by omega)
  have hL1 : w1.heap[L]? = _ := (hc1.block L (bl_lt hL) (fun e => ob_ne hL ho (by decide) e.symm)).trans hL
  have f2 := bl_open hL1 2
  have k2 : w1.cell? ⟨L, 2, none⟩ = some sv := bl_cell hL1 2 _ rfl
  have c2 : w.cell? ⟨L, 2, none⟩ = some sv := bl_cell hL 2 _ rfl
  have hL2 := bl_set hL1 2 v'
  have ho2 := ho1.set hL1 (by decide) 2 v'
  have hC : Chg (fun k => k = L ∨ some k = g) w (w1.setCell ⟨L, 2, none⟩ v') := hc1.trans (chg_set _ _ _ _) (fun _ _ e => .inr e) (fun _ _ e => .inl e)
  obtain ⟨a1, q1, rfl, -, -, -⟩ := ho1.form
  obtain ⟨a0, q0, rfl, -, -, -⟩ := ho.form
  subst hx
  rw [List.length_append] at hL2 ho2 hC hrun
  have FIN : Hid (Lg (w1.setCell ⟨L, 2, none⟩ (.slice a1 (l.bytes.length + xs.length) q1)) L g' { l with bytes := l.bytes ++ xs } ∧ Chg (fun k => k = L ∨ some k = g) w (w1.setCell ⟨L, 2, none⟩ (.slice a1 (l.bytes.length + xs.length) q1)) ∧ (g' = g ∨ g' = some w.heap.size)) :=
    ⟨⟨⟨ok.m1, ok.m2, ok.b1, ok.b2, by simp; omega, by have := ok.sure; simp; omega⟩, _, hL2, ho2⟩, hC, hg⟩
  clear ho1 hL1 hL ho hL2 ho2 hC hg hc1 hr hxl hl hm hm2 ok
  go_enter Try.func38, Try.ntmps38
  go_wp2_with (at_builtin; refine wpList_append_run rfl _ _ _ _ rfl _ _ rfl rfl hrun ?_)
  go_end0
  exact ⟨⟨_, rfl⟩, g', FIN.out⟩

set_option maxRecDepth 20000 in
theorem bclone_any (ao : Option Addr) (n cap : Nat) (bs : List UInt8) (w : World) (hr : Rd w ao n cap bs) (hn : n ≤ 16777216) :
    Calls Try.prog 59 #[.slice ao n cap] w fun e w' => ∃ ao' cap', e = .returned (.slice ao' n cap') ∧ Rd w' ao' n cap' bs ∧ Below w.heap.size w w' ∧ ∀ b off, ao' = some ⟨b, off, none⟩ → w.heap.size ≤ b := by
  obtain ⟨i0, hi, hz0, hz1, hz2⟩ := info_parts (show (Try.prog.info? 5).map (fun i => (i.zero, i.size, i.bytes)) = some (some (.int .u8 0), 1, 1) by kernel_rfl)
  have hl := hr.1
  cases ao with
  | none =>
    obtain ⟨rfl, rfl⟩ := hr.2.2.2.1 rfl
    clear hi hz0 hz1 hz2
    have q0 := run_eql_slice_nil (P := Try.prog) w 32 5 none 0 0 Try.underlying32
    go_enter Try.func59, Try.ntmps59
    go_wp2
    go_ret
    exact ⟨none, 0, rfl, hr, Below.refl _ _, fun b off e => by cases e⟩
  | some a =>
    have ho : Ob (w.alloc (.cells #[] 5)) (.slice (some ⟨w.heap.size, 0, none⟩) 0 0) (some w.heap.size) [] := .inr ⟨w.heap.size, 0, 0, #[], rfl, rfl, heap_alloc_new w _, Nat.le_refl _, Nat.zero_le _, Nat.le_refl _, fun i h => by simp at h⟩
    have b0 : Below w.heap.size w (w.alloc (.cells #[] 5)) := (Below.refl _ _).alloc (Nat.le_refl _) _
    obtain ⟨v', w1, g', hrun, ho1, hc1, hg⟩ := run_append_ob (P := Try.prog) 32 32 32 i0 _ Try.underlying32 hi hz0 hz1 hz2 rfl _ _ _ ho _ n bs (src_of_rd Try.underlying32 (hr.later b0)) (by simp; omega)
    obtain ⟨a1, q1, rfl, hr1, -, -⟩ := ho1.form
    have hnw : Hid (∀ b off, a1 = some ⟨b, off, none⟩ → w.heap.size ≤ b) := fun b off e => by
      have h1 := ho1.blk e
      rcases hg with h2 | h2 <;> rw [h2] at h1 <;> cases h1 <;> simp
    have hb1 : Below w.heap.size w w1 := b0.trans (hc1.below (by simp) (fun k e => by cases e; exact Nat.le_refl _))
    simp only [List.nil_append, hl] at hrun hr1
    clear ho ho1 hc1 hg b0 hi hz0 hz1 hz2
    have hl' : Hid (bs.length = n) := hl
    clear hl hr
    have q0 := run_eql_slice_nil (P := Try.prog) w 32 5 (some a) n cap Try.underlying32
    go_enter Try.func59, Try.ntmps59
    go_wp2_with (at_builtin; refine wpList_append_run rfl _ _ _ _ rfl _ _ rfl rfl hrun ?_)
    go_ret
    exact ⟨a1, q1, rfl, hr1, hb1, hnw.out⟩

set_option maxRecDepth 20000 in
theorem cut_any (L : Nat) (g : Option Nat) (l : Lo) (at_ : Int) (n : Nat) (w : World) (h : Lg w L g l) (hn : n ≤ l.bytes.length) (ha : IntKind.i64.wrap (at_ - l.base) = (n : Int)) :
    Calls Try.prog 48 #[.pointer (some ⟨L, 0, none⟩), .int .i64 at_] w fun e w' => (∃ v, e = .returned v) ∧ Lg w' L g { l with bytes := l.bytes.take n, sure := min l.sure n } ∧ Chg (fun k => k = L) w w' := by
  obtain ⟨ok, sv, hL, ho⟩ := h
  obtain ⟨v', ⟨a1, rfl⟩, hrun, ho1⟩ := slice_cut ho n hn ok.len'
  have hrun := hrun w
  have ho1' := ho1 w ho
  have c1 : w.cell? ⟨L, 1, none⟩ = some (.int .i64 l.base) := bl_cell hL 1 _ rfl
  obtain ⟨a0, q0, rfl, -, -, -⟩ := ho.form
  have c2 : w.cell? ⟨L, 2, none⟩ = some (.slice a0 l.bytes.length q0) := bl_cell hL 2 _ rfl
  have c3 : w.cell? ⟨L, 3, none⟩ = some (.int .i64 (l.sure : Int)) := bl_cell hL 3 _ rfl
  have f2 := bl_open hL 2
  have f3 := bl_open hL 3
  have hL2 := bl_set (bl_set hL 2 (.slice a1 n n)) 3 (.int .i64 ((min l.sure n : Nat) : Int))
  have ho2 := (ho1'.set hL (by decide) 2 (.slice a1 n n)).set (bl_set hL 2 (.slice a1 n n)) (by decide) 3 (.int .i64 ((min l.sure n : Nat) : Int))
  have hmin : ((min l.sure n : Nat) : Int) = min (l.sure : Int) (n : Int) := by omega
  have OK : LoOk { l with bytes := l.bytes.take n, sure := min l.sure n } := ⟨ok.m1, ok.m2, ok.b1, ok.b2, by have := ok.len; simp; omega, by simp; omega⟩
  have hC : Chg (fun k => k = L) w ((w.setCell ⟨L, 2, none⟩ (.slice a1 n n)).setCell ⟨L, 3, none⟩ (.int .i64 ((min l.sure n : Nat) : Int))) := (chg_set _ _ _ _).trans (chg_set _ _ _ _) (fun _ _ e => e) (fun _ _ e => e)
  have FIN : Hid (Lg ((w.setCell ⟨L, 2, none⟩ (.slice a1 n n)).setCell ⟨L, 3, none⟩ (.int .i64 ((min l.sure n : Nat) : Int))) L g { l with bytes := l.bytes.take n, sure := min l.sure n } ∧ Chg (fun k => k = L) w ((w.setCell ⟨L, 2, none⟩ (.slice a1 n n)).setCell ⟨L, 3, none⟩ (.int .i64 ((min l.sure n : Nat) : Int)))) := ⟨⟨OK, _, hL2, ho2⟩, hC⟩
  rw [hmin] at FIN
  clear hL ho ho1 hmin ok hL2 ho2 OK hC hn ho1'
  go_enter Try.func48, Try.ntmps48
  go_wp2
  all_goals
    go_end0
    refine ⟨⟨_, rfl⟩, ?_⟩
    have F := FIN.out
  · rw [show min (l.sure : Int) (n : Int) = n by omega] at F
    exact F
  · rw [show min (l.sure : Int) (n : Int) = l.sure by omega] at F
    exact F

set_option maxRecDepth 20000 in
theorem retire_any (L : Nat) (g : Option Nat) (l : Lo) (at_ : Int) (n : Nat) (w : World) (h : Lg w L g l) (hn : n ≤ l.bytes.length) (ha : IntKind.i64.wrap (at_ - l.base) = (n : Int)) (hat1 : -9223372036854775808 ≤ at_) (hat2 : at_ ≤ 9223372036854775807) :
    Calls Try.prog 49 #[.pointer (some ⟨L, 0, none⟩), .int .i64 at_] w fun e w' => (∃ v, e = .returned v) ∧ Lg w' L g { l with base := at_, bytes := l.bytes.drop n, sure := l.sure - n } ∧ Chg (fun k => k = L) w w' := by
  obtain ⟨ok, sv, hL, ho⟩ := h
  obtain ⟨v', ⟨a1, q1, rfl⟩, hrun, ho1⟩ := slice_from ho n hn ok.len'
  have hrun := hrun w
  have ho1' := ho1 w ho
  have c1 : w.cell? ⟨L, 1, none⟩ = some (.int .i64 l.base) := bl_cell hL 1 _ rfl
  obtain ⟨a0, q0, rfl, -, -, -⟩ := ho.form
  have c2 : w.cell? ⟨L, 2, none⟩ = some (.slice a0 l.bytes.length q0) := bl_cell hL 2 _ rfl
  have c3 : w.cell? ⟨L, 3, none⟩ = some (.int .i64 (l.sure : Int)) := bl_cell hL 3 _ rfl
  have f1 := bl_open hL 1
  have f2 := bl_open hL 2
  have f3 := bl_open hL 3
  obtain ⟨k, hk⟩ : ∃ k : Int, k = ((l.sure - n : Nat) : Int) := ⟨_, rfl⟩
  have hL2 := bl_set (bl_set (bl_set hL 2 (.slice a1 (l.bytes.length - n) q1)) 1 (.int .i64 at_)) 3 (.int .i64 k)
  have ho2 := ((ho1'.set hL (by decide) 2 (.slice a1 (l.bytes.length - n) q1)).set (bl_set hL 2 (.slice a1 (l.bytes.length - n) q1)) (by decide) 1 (.int .i64 at_)).set (bl_set (bl_set hL 2 (.slice a1 (l.bytes.length - n) q1)) 1 (.int .i64 at_)) (by decide) 3 (.int .i64 k)
  have hl := ok.len'
  have hsu := ok.sure
  have hw : IntKind.i64.wrap ((l.sure : Int) - n) = (l.sure : Int) - n := by rw [IntKind.wrap_i64]; omega
  have hmax : max ((l.sure : Int) - n) 0 = k := by omega
  have OK : LoOk { l with base := at_, bytes := l.bytes.drop n, sure := l.sure - n } := ⟨ok.m1, ok.m2, hat1, hat2, by have := ok.len; simp; omega, by simp; omega⟩
  have FIN : Hid (Lg (((w.setCell ⟨L, 2, none⟩ (.slice a1 (l.bytes.length - n) q1)).setCell ⟨L, 1, none⟩ (.int .i64 at_)).setCell ⟨L, 3, none⟩ (.int .i64 k)) L g { l with base := at_, bytes := l.bytes.drop n, sure := l.sure - n }) := ⟨OK, _, by rw [← hk]; exact hL2, ho2⟩
  clear hL ho ho1 ok hL2 ho2 OK hn ho1' hsu hl hk
  go_enter Try.func49, Try.ntmps49
  go_wp2
  all_goals
    go_end0
    refine ⟨⟨_, rfl⟩, ?_, ((chg_set _ _ _ _).trans (chg_set _ _ _ _) (fun _ _ e => e) (fun _ _ e => e)).trans (chg_set _ _ _ _) (fun _ _ e => e) (fun _ _ e => e)⟩
    have F := FIN.out
  · obtain rfl : k = 0 := by omega
    exact F
  · obtain rfl : k = (l.sure : Int) - n := by omega
    exact F

set_option maxRecDepth 20000 in
theorem read_any (L : Nat) (g : Option Nat) (l : Lo) (at_ : Int) (n : Nat) (w : World) (h : Lg w L g l) (hn : n ≤ l.bytes.length) (ha : IntKind.i64.wrap (at_ - l.base) = (n : Int)) :
    Calls Try.prog 44 #[.pointer (some ⟨L, 0, none⟩), .int .i64 at_] w fun e w' => ∃ ao cap, e = .returned (.slice ao (l.bytes.length - n) cap) ∧ Rd w' ao (l.bytes.length - n) cap (l.bytes.drop n) ∧ Below w.heap.size w w' ∧ ∀ b off, ao = some ⟨b, off, none⟩ → w.heap.size ≤ b := by
  obtain ⟨ok, sv, hL, ho⟩ := h
  have hl := ok.len'
  obtain ⟨v', ⟨a1, q1, rfl⟩, hrun, ho1⟩ := slice_from ho n hn hl
  have HRD : Hid (∀ W, Below w.heap.size w W → Rd W a1 (l.bytes.length - n) q1 (l.bytes.drop n)) := fun W hW => by
    have h1 := ho1 W (ho.kept (fun b hb => hW.block b (ho.lt hb)))
    obtain ⟨ao, cap, e, hr, -, -⟩ := h1.form
    rw [List.length_drop] at e hr
    cases e
    exact hr
  have c1 : w.cell? ⟨L, 1, none⟩ = some (.int .i64 l.base) := bl_cell hL 1 _ rfl
  obtain ⟨a0, q0, rfl, -, -, -⟩ := ho.form
  have c2 : w.cell? ⟨L, 2, none⟩ = some (.slice a0 l.bytes.length q0) := bl_cell hL 2 _ rfl
  have HL : Hid (l.bytes.length ≤ 16777216) := hl
  have hLt := bl_lt hL
  clear hL ho ho1 ok hl
  go_enter Try.func44, Try.ntmps44
  go_wp2
  go_region_held2 (fun W => W.cell? ⟨L, 1, none⟩ = some (.int .i64 l.base) ∧ W.cell? ⟨L, 2, none⟩ = some (.slice a0 l.bytes.length q0)) (first | go_keep | exact ⟨(hb2.cell (p := ⟨L, 1, none⟩) hLt).trans c1, (hb2.cell (p := ⟨L, 2, none⟩) hLt).trans c2⟩)
    (first | (go_at_call 59; refine (bclone_any _ _ _ _ _ (HRD.out _ ((Below.refl _ _).drew)) (by have := HL.out; omega)).mono ?_; rintro e w' ⟨a2, q2, rfl, hr2, hb2, hN2⟩))
  go_wp2
  go_ret
  exact ⟨a2, q2, rfl, hr2, ⟨hb2.os, hb2.tape, hb2.output, hb2.size, hb2.block⟩, hN2⟩
end Go.Proofs.Ytecgjfghofpjcaa
