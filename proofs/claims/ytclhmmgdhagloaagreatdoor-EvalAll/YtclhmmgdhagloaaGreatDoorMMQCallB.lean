/-
  eval.called.
  What must come: longstoplaw07.knows; on its road eval.Function at 'length' and one Text.
  eval.negOf: from kind to kind.
  eval.Unary.
  The walk of EvalRight.
  Two good texts joined are a good text. Nothing of the program is in it.
  What an op comes to may be, or is nothing.
  What functions lean on: eval.pointAt, rounded, isFunction.
  eval.apart, firstKnown, size.
  eval.called, name by name.
  eval.called, name by name.
-/
import Derived.Test.YtclhmmgdhagloaaGreatDoorMJQNums
import Derived.Test.YtclhmmgdhagloaaGreatDoorMLQFun0
import Derived.Deep.Cut
import Derived.Test.YtclhmmgdhagloaaGreatDoorDNeg
import Derived.Test.YtclhmmgdhagloaaGreatDoorMIHRef4
import Derived.Test.YtclhmmgdhagloaaGreatDoorMBVOrd1
import Derived.Lib.ValidLaws
import Derived.Lib.DecodeN
import Derived.Test.YtclhmmgdhagloaaGreatDoorDResc
import Derived.Test.YtclhmmgdhagloaaGreatDoorMCLByte
namespace Go.Proofs.YtclhmmgdhagloaaGreatDoor
open Go.RowKit Go.Shelf
attribute [local go_sem] cell?_more frozen?_more setCell_more more_lt more_more more_drew more_drewN setCell_drewN alloc_drewN

/-- The box of the answer. -/
theorem res_box (w : World) : ∃ w0, w0 = w.alloc (.cells #[.int .i64 0, .int .i64 0, .int .i64 0, .string ⟨#[]⟩] 42) ∧ Box w0 w.heap.size nul ∧ Below w.heap.size w w0 :=
  ⟨_, rfl, Box.new w 0 0 0 [], (Below.refl _ w).alloc (Nat.le_refl _) _⟩

def qcO0 : Oper := { dst := some 8, op := Op.move (Operand.tmp 1), type := 48, pos := "function.go:57", after := #[], guard := none }
def qcO1 : Oper := { dst := some 9, op := Op.indexAddr 48 (Operand.tmp 8) (Operand.const (Value.int IntKind.i64 0)), type := 0, pos := "function.go:57", after := #[{ on := 0, ground := Ground.data }], guard := none }
def qcO2 : Oper := { dst := some 10, op := Op.load 42 (Operand.tmp 9), type := 42, pos := "function.go:57", after := #[{ on := 1, ground := Ground.data }], guard := none }
def qcO3 : Oper := { dst := some 11, op := Op.move (Operand.tmp 1), type := 48, pos := "function.go:57", after := #[{ on := 11, ground := Ground.gcOnly Departure.lateStores }], guard := none }
def qcO4 : Oper := { dst := some 12, op := Op.move (Operand.tmp 1), type := 48, pos := "function.go:57", after := #[], guard := none }
def qcO5 : Oper := { dst := some 13, op := Op.call { callee := Callee.builtin Builtin.len, args := #[Operand.tmp 12], argTypes := #[48] }, type := 3, pos := "function.go:57", after := #[{ on := 4, ground := Ground.data }], guard := none }
def qcO6 : Oper := { dst := some 14, op := Op.binOp BinOp.sub 3 (Operand.tmp 13) (Operand.const (Value.int IntKind.i64 1)) 3, type := 3, pos := "function.go:57", after := #[{ on := 5, ground := Ground.data }, { on := 11, ground := Ground.gcOnly Departure.lateStores }], guard := none }
def qcO7 : Oper := { dst := some 15, op := Op.indexAddr 48 (Operand.tmp 11) (Operand.tmp 14), type := 0, pos := "function.go:57", after := #[{ on := 3, ground := Ground.data }, { on := 6, ground := Ground.data }, { on := 11, ground := Ground.gcOnly Departure.lateStores }], guard := none }
def qcO8 : Oper := { dst := some 16, op := Op.load 42 (Operand.tmp 15), type := 42, pos := "function.go:57", after := #[{ on := 7, ground := Ground.data }, { on := 11, ground := Ground.gcOnly Departure.lateStores }], guard := none }
def qcO9 : Oper := { dst := some 6, op := Op.alloc 42, type := 0, pos := "function.go:57", after := #[], guard := none }
def qcO10 : Oper := { dst := some 7, op := Op.alloc 42, type := 0, pos := "function.go:57", after := #[], guard := none }
def qcO11 : Oper := { dst := none, op := Op.store 42 (Operand.tmp 6) (Operand.tmp 10), type := 0, pos := "function.go:57", after := #[{ on := 9, ground := Ground.data }, { on := 2, ground := Ground.data }, { on := 0, ground := Ground.phase }, { on := 1, ground := Ground.phase }, { on := 2, ground := Ground.phase }, { on := 3, ground := Ground.textOnly Departure.lateStores }, { on := 4, ground := Ground.textOnly Departure.lateStores }, { on := 5, ground := Ground.textOnly Departure.lateStoresUnsure }, { on := 6, ground := Ground.textOnly Departure.lateStores }, { on := 7, ground := Ground.textOnly Departure.lateStores }, { on := 8, ground := Ground.textOnly Departure.lateStores }, { on := 9, ground := Ground.phase }, { on := 10, ground := Ground.phase }], guard := none }
def qcO12 : Oper := { dst := none, op := Op.store 42 (Operand.tmp 7) (Operand.tmp 16), type := 0, pos := "function.go:57", after := #[{ on := 10, ground := Ground.data }, { on := 8, ground := Ground.data }, { on := 11, ground := Ground.chain }, { on := 0, ground := Ground.phase }, { on := 1, ground := Ground.phase }, { on := 2, ground := Ground.phase }, { on := 3, ground := Ground.phase }, { on := 4, ground := Ground.phase }, { on := 5, ground := Ground.phase }, { on := 6, ground := Ground.phase }, { on := 7, ground := Ground.phase }, { on := 8, ground := Ground.phase }, { on := 9, ground := Ground.phase }, { on := 10, ground := Ground.phase }, { on := 11, ground := Ground.phase }], guard := none }


set_option maxRecDepth 20000 in
set_option maxHeartbeats 2000000 in
theorem called_length (bl off cap : Nat) (an am : Int) (ab : List UInt8) (w : World) (hg : bl < w.heap.size) (c0 : w.cell? ⟨bl, off, none⟩ = some (.int .i64 3)) (c1 : w.cell? ⟨bl, off + 1, none⟩ = some (.int .i64 an)) (c2 : w.cell? ⟨bl, off + 2, none⟩ = some (.int .i64 am)) (c3 : w.cell? ⟨bl, off + 3, none⟩ = some (.string ⟨ab.toArray⟩)) 
    :
    Calls Tryz.prog 88 #[.string ⟨#[108, 101, 110, 103, 116, 104]⟩, .slice (some ⟨bl, off, none⟩) 1 cap] w fun e w' => e = .returned (rs (wholeR (ab.length : Int) 0)) ∧ Below w.heap.size w w' := by
  obtain ⟨w0, hw0, bxr, Bw⟩ := res_box w
  have z0 : IntKind.i64.wrap 0 = 0 := by rw [IntKind.wrap_i64]; rfl
  go_enter Tryz.func88, Tryz.ntmps88
  go_wp2_with fail
  rw [← hw0]
  clear hw0
  rw [← Bw.cell (p := ⟨bl, off, none⟩) hg] at c0
  rw [← Bw.cell (p := ⟨bl, off + 1, none⟩) hg] at c1
  rw [← Bw.cell (p := ⟨bl, off + 2, none⟩) hg] at c2
  rw [← Bw.cell (p := ⟨bl, off + 3, none⟩) hg] at c3
  replace hg : bl < w0.heap.size := Nat.lt_of_lt_of_le hg Bw.size
  go_cut [6, 7] from 8 (fun s0 s1 wx => ∃ p q : Nat, s0 = .pointer (some ⟨p, 0, none⟩) ∧ s1 = .pointer (some ⟨q, 0, none⟩) ∧ (wx.cell? ⟨p, 0, none⟩ = some (.int .i64 3) ∧ wx.cell? ⟨p, 1, none⟩ = some (.int .i64 an) ∧ wx.cell? ⟨p, 2, none⟩ = some (.int .i64 am) ∧ wx.cell? ⟨p, 3, none⟩ = some (.string ⟨ab.toArray⟩)) ∧ (wx.cell? ⟨q, 0, none⟩ = some (.int .i64 3) ∧ wx.cell? ⟨q, 1, none⟩ = some (.int .i64 an) ∧ wx.cell? ⟨q, 2, none⟩ = some (.int .i64 am) ∧ wx.cell? ⟨q, 3, none⟩ = some (.string ⟨ab.toArray⟩)) ∧ w0.heap.size ≤ p ∧ w0.heap.size ≤ q ∧ Grew w0 wx)
  case first =>
    refine wp_region_held_drew (S := (fun W => W.cell? ⟨bl, off, none⟩ = some (.int .i64 3) ∧ W.cell? ⟨bl, off + 1, none⟩ = some (.int .i64 an) ∧ W.cell? ⟨bl, off + 2, none⟩ = some (.int .i64 am) ∧ W.cell? ⟨bl, off + 3, none⟩ = some (.string ⟨ab.toArray⟩))) (by kernel_rfl) ?_ (fun hHeld => ?_)
    · ((try dsimp only); (simp (maxDischargeDepth := 12) [go_sem, c0, c1, c2, c3]))
    refine wpAnyH_take (i := 0) (oi := qcO0) (v := ?_) rfl (by kernel_rfl) (by kernel_rfl) (by kernel_rfl) (fun _ _ _ h => h) (Or.inl ⟨by rfl, ?_⟩) (by assumption) ?_
    rotate_left
    · (intro W hSw; (try dsimp only at hSw); try simp only [qcO0]; first | (go_simp; done) | (go_simp; with_reducible rfl))
    try simp only [qcO0, Act.put, List.setIfInBounds_toArray, List.set_cons_zero, List.set_cons_succ]
    refine wpAnyH_take (i := 1) (oi := qcO1) (v := ?_) rfl (by kernel_rfl) (by kernel_rfl) (by kernel_rfl) (fun _ _ _ h => h) (Or.inl ⟨by rfl, ?_⟩) (by assumption) ?_
    rotate_left
    · (intro W hSw; (try dsimp only at hSw); try simp only [qcO1]; first | (go_simp; done) | (go_simp; with_reducible rfl))
    try simp only [qcO1, Act.put, List.setIfInBounds_toArray, List.set_cons_zero, List.set_cons_succ]
    refine wpAnyH_take (i := 2) (oi := qcO2) (v := ?_) rfl (by kernel_rfl) (by kernel_rfl) (by kernel_rfl) (fun _ _ _ h => h) (Or.inl ⟨by rfl, ?_⟩) (by assumption) ?_
    rotate_left
    · (intro W hSw; (try dsimp only at hSw); try simp only [qcO2]; first | (go_simp; done) | (go_simp; with_reducible rfl))
    try simp only [qcO2, Act.put, List.setIfInBounds_toArray, List.set_cons_zero, List.set_cons_succ]
    refine wpAnyH_take (i := 3) (oi := qcO3) (v := ?_) rfl (by kernel_rfl) (by kernel_rfl) (by kernel_rfl) (fun _ _ _ h => h) (Or.inl ⟨by rfl, ?_⟩) (by assumption) ?_
    rotate_left
    · (intro W hSw; (try dsimp only at hSw); try simp only [qcO3]; first | (go_simp; done) | (go_simp; with_reducible rfl))
    try simp only [qcO3, Act.put, List.setIfInBounds_toArray, List.set_cons_zero, List.set_cons_succ]
    refine wpAnyH_take (i := 4) (oi := qcO4) (v := ?_) rfl (by kernel_rfl) (by kernel_rfl) (by kernel_rfl) (fun _ _ _ h => h) (Or.inl ⟨by rfl, ?_⟩) (by assumption) ?_
    rotate_left
    · (intro W hSw; (try dsimp only at hSw); try simp only [qcO4]; first | (go_simp; done) | (go_simp; with_reducible rfl))
    try simp only [qcO4, Act.put, List.setIfInBounds_toArray, List.set_cons_zero, List.set_cons_succ]
    refine wpAnyH_take (i := 5) (oi := qcO5) (v := ?_) rfl (by kernel_rfl) (by kernel_rfl) (by kernel_rfl) (fun _ _ _ h => h) (Or.inl ⟨by rfl, ?_⟩) (by assumption) ?_
    rotate_left
    · (intro W hSw; (try dsimp only at hSw); try simp only [qcO5]; first | (go_simp; done) | (go_simp; with_reducible rfl))
    try simp only [qcO5, Act.put, List.setIfInBounds_toArray, List.set_cons_zero, List.set_cons_succ]
    refine wpAnyH_take (i := 6) (oi := qcO6) (v := ?_) rfl (by kernel_rfl) (by kernel_rfl) (by kernel_rfl) (fun _ _ _ h => h) (Or.inl ⟨by rfl, ?_⟩) (by assumption) ?_
    rotate_left
    · (intro W hSw; (try dsimp only at hSw); try simp only [qcO6]; first | (go_simp; done) | (go_simp; with_reducible rfl))
    try simp only [qcO6, Act.put, List.setIfInBounds_toArray, List.set_cons_zero, List.set_cons_succ]
    refine wpAnyH_take (i := 7) (oi := qcO7) (v := ?_) rfl (by kernel_rfl) (by kernel_rfl) (by kernel_rfl) (fun _ _ _ h => h) (Or.inl ⟨by rfl, ?_⟩) (by assumption) ?_
    rotate_left
    · (intro W hSw; (try dsimp only at hSw); try simp only [qcO7]; first | (go_simp; done) | (go_simp; with_reducible rfl))
    try simp only [qcO7, Act.put, List.setIfInBounds_toArray, List.set_cons_zero, List.set_cons_succ]
    refine wpAnyH_take (i := 8) (oi := qcO8) (v := ?_) rfl (by kernel_rfl) (by kernel_rfl) (by kernel_rfl) (fun _ _ _ h => h) (Or.inl ⟨by rfl, ?_⟩) (by assumption) ?_
    rotate_left
    · (intro W hSw; (try dsimp only at hSw); try simp only [qcO8]; first | (go_simp; done) | (go_simp; with_reducible rfl))
    try simp only [qcO8, Act.put, List.setIfInBounds_toArray, List.set_cons_zero, List.set_cons_succ]
    refine wpAnyH_ready (rs := [9, 10]) (by kernel_rfl) (by simp) ?_
    refine AllReadyH.cons (o := qcO9) rfl (fun K hK => ?_) (AllReadyH.cons (o := qcO10) rfl (fun K hK => ?_) AllReadyH.nil)
    ·
      try simp only [qcO9]
      go_simp
      refine hK.out _ _ ?_ (fun hHeld => ?_)
      · ((try dsimp only); (simp (maxDischargeDepth := 12) [go_sem, c0, c1, c2, c3, hg]))
      clear hK K
      try simp only [Act.put, List.setIfInBounds_toArray, List.set_cons_zero, List.set_cons_succ]
      refine wpAnyH_ready (rs := [10]) (by kernel_rfl) (by simp) ?_
      refine AllReadyH.cons (o := qcO10) rfl (fun K hK => ?_) AllReadyH.nil
      try simp only [qcO10]
      go_simp
      refine hK.out _ _ ?_ (fun hHeld => ?_)
      · ((try dsimp only); (simp (maxDischargeDepth := 12) [go_sem, c0, c1, c2, c3, hg]))
      clear hK K
      try simp only [Act.put, List.setIfInBounds_toArray, List.set_cons_zero, List.set_cons_succ]
      refine wpAnyH_ready (rs := [11]) (by kernel_rfl) (by simp) ?_
      refine AllReadyH.cons (o := qcO11) rfl (fun K hK => ?_) AllReadyH.nil
      try simp only [qcO11]
      go_simp
      refine hK.out _ _ ?_ (fun hHeld => ?_)
      · ((try dsimp only); (simp (maxDischargeDepth := 12) [go_sem, c0, c1, c2, c3, hg]))
      clear hK K
      try simp only [Act.put, List.setIfInBounds_toArray, List.set_cons_zero, List.set_cons_succ]
      refine wpAnyH_ready (rs := [12]) (by kernel_rfl) (by simp) ?_
      refine AllReadyH.cons (o := qcO12) rfl (fun K hK => ?_) AllReadyH.nil
      try simp only [qcO12]
      go_simp
      refine hK.out _ _ ?_ (fun hHeld => ?_)
      · ((try dsimp only); (simp (maxDischargeDepth := 12) [go_sem, c0, c1, c2, c3, hg]))
      clear hK K
      try simp only [Act.put, List.setIfInBounds_toArray, List.set_cons_zero, List.set_cons_succ]
      refine wpAnyH_done (by kernel_rfl) ?_ _
      go_wp2_with fail
      go_meet
      exact ⟨_, _, rfl, rfl, ⟨by simp (maxDischargeDepth := 12) [go_sem], by simp (maxDischargeDepth := 12) [go_sem], by simp (maxDischargeDepth := 12) [go_sem], by simp (maxDischargeDepth := 12) [go_sem]⟩, ⟨by simp (maxDischargeDepth := 12) [go_sem], by simp (maxDischargeDepth := 12) [go_sem], by simp (maxDischargeDepth := 12) [go_sem], by simp (maxDischargeDepth := 12) [go_sem]⟩, by simp, by simp, (by repeat (first | assumption | exact Grew.refl _ | apply Grew.drew | apply Grew.drewN | apply Grew.alloc | apply Grew.more))⟩
    ·
      try simp only [qcO10]
      go_simp
      refine hK.out _ _ ?_ (fun hHeld => ?_)
      · ((try dsimp only); (simp (maxDischargeDepth := 12) [go_sem, c0, c1, c2, c3, hg]))
      clear hK K
      try simp only [Act.put, List.setIfInBounds_toArray, List.set_cons_zero, List.set_cons_succ]
      refine wpAnyH_ready (rs := [9]) (by kernel_rfl) (by simp) ?_
      refine AllReadyH.cons (o := qcO9) rfl (fun K hK => ?_) AllReadyH.nil
      try simp only [qcO9]
      go_simp
      refine hK.out _ _ ?_ (fun hHeld => ?_)
      · ((try dsimp only); (simp (maxDischargeDepth := 12) [go_sem, c0, c1, c2, c3, hg]))
      clear hK K
      try simp only [Act.put, List.setIfInBounds_toArray, List.set_cons_zero, List.set_cons_succ]
      refine wpAnyH_ready (rs := [11]) (by kernel_rfl) (by simp) ?_
      refine AllReadyH.cons (o := qcO11) rfl (fun K hK => ?_) AllReadyH.nil
      try simp only [qcO11]
      go_simp
      refine hK.out _ _ ?_ (fun hHeld => ?_)
      · ((try dsimp only); (simp (maxDischargeDepth := 12) [go_sem, c0, c1, c2, c3, hg]))
      clear hK K
      try simp only [Act.put, List.setIfInBounds_toArray, List.set_cons_zero, List.set_cons_succ]
      refine wpAnyH_ready (rs := [12]) (by kernel_rfl) (by simp) ?_
      refine AllReadyH.cons (o := qcO12) rfl (fun K hK => ?_) AllReadyH.nil
      try simp only [qcO12]
      go_simp
      refine hK.out _ _ ?_ (fun hHeld => ?_)
      · ((try dsimp only); (simp (maxDischargeDepth := 12) [go_sem, c0, c1, c2, c3, hg]))
      clear hK K
      try simp only [Act.put, List.setIfInBounds_toArray, List.set_cons_zero, List.set_cons_succ]
      refine wpAnyH_done (by kernel_rfl) ?_ _
      go_wp2_with fail
      go_meet
      exact ⟨_, _, rfl, rfl, ⟨by simp (maxDischargeDepth := 12) [go_sem], by simp (maxDischargeDepth := 12) [go_sem], by simp (maxDischargeDepth := 12) [go_sem], by simp (maxDischargeDepth := 12) [go_sem]⟩, ⟨by simp (maxDischargeDepth := 12) [go_sem], by simp (maxDischargeDepth := 12) [go_sem], by simp (maxDischargeDepth := 12) [go_sem], by simp (maxDischargeDepth := 12) [go_sem]⟩, by simp, by simp, (by repeat (first | assumption | exact Grew.refl _ | apply Grew.drew | apply Grew.drewN | apply Grew.alloc | apply Grew.more))⟩
  rename World => w1
  obtain ⟨p, q, rfl, rfl, ⟨p0, p1, p2, p3⟩, ⟨q0, q1, q2, q3⟩, gp, gq, g⟩ := hcut
  have lp := World.block_lt_of_cell? w1 _ p0
  have lq := World.block_lt_of_cell? w1 _ q0
  have B1 := g.below
  have br := bxr.later B1
  obtain ⟨r0, r1, r2, r3⟩ := br.at4
  dsimp only [nul] at r0 r1 r2 r3
  simp only [Nat.zero_add] at r1 r2 r3
  have f0 := br.free 0
  have f1 := br.free 1
  have f2 := br.free 2
  have f3 := br.free 3
  have lt1 := br.lt
  have Be := below_trans Bw B1
  have lr := bxr.lt
  have np : ¬ w.heap.size = p := by omega
  have nq : ¬ w.heap.size = q := by omega
  clear gp gq lr
  clear br bxr g c0 c1 c2 c3 hg
  go_wp2_with (first
    | (go_at_call 142; refine (qwhole_any _ _ _).mono ?_; rintro e w2 ⟨rfl, os2, n2, rfl⟩))
  refine bodyPost_ret_by (v := rs (wholeR (ab.length : Int) 0)) ?_ rfl ⟨rfl, ?_⟩
  · simp [results, Tryz.results88, go_sem, r0, r1, r2, r3, lt1]
  · refine below_trans (Be.setCell (p := ⟨w.heap.size, 0, none⟩) (Nat.le_refl _) (.int .i64 (wholeR (ab.length : Int) 0).1.k) |>.setCell (p := ⟨w.heap.size, 1, none⟩) (Nat.le_refl _) (.int .i64 (wholeR (ab.length : Int) 0).1.n) |>.setCell (p := ⟨w.heap.size, 2, none⟩) (Nat.le_refl _) (.int .i64 (wholeR (ab.length : Int) 0).1.m) |>.setCell (p := ⟨w.heap.size, 3, none⟩) (Nat.le_refl _) (.string ⟨(wholeR (ab.length : Int) 0).1.b.toArray⟩)) (Grew.below ?_)
    repeat (first | assumption | exact Grew.refl _ | apply Grew.drew | apply Grew.drewN | apply Grew.alloc | apply Grew.more)
end Go.Proofs.YtclhmmgdhagloaaGreatDoor

namespace Go.Proofs.YtclhmmgdhagloaaGreatDoor
open Go.RowKit Go.Shelf
attribute [local go_sem] cell?_more frozen?_more setCell_more more_lt more_more more_drew more_drewN setCell_drewN alloc_drewN cell?_drawTo frozen?_drawTo heap_drawTo setCell_drawTo alloc_drawTo drewN_drawTo drew_drawTo drawTo_drewN drawTo_drew drawTo_drawTo more_drawTo

set_option maxHeartbeats 1000000 in
theorem isf_len1 (w : World) : Calls Tryz.prog 85 #[.string ⟨#[108, 101, 110, 103, 116, 104]⟩, .int .i64 1] w fun e w' => e = .returned (.bool true) ∧ Below w.heap.size w w' := by
  go_enter Tryz.func85, Tryz.ntmps85
  go_wp2
  all_goals go_ret
  all_goals exact ⟨rfl, Below.refl _ _⟩

set_option maxHeartbeats 1000000 in
theorem fun_length (ao : Option Addr) (cap : Nat) (rk rn rm re : Int) (rb : ByteArray) (w : World) (A : Tells 47 #[.slice ao 1 cap] w (.bool true)) (I : Tells 85 #[.string ⟨#[108, 101, 110, 103, 116, 104]⟩, .int .i64 1] w (.bool true))
    (C : Tells 87 #[.slice ao 1 cap, va 0 0 0 ⟨#[]⟩] w (.bool false)) (F : Tells 88 #[.string ⟨#[108, 101, 110, 103, 116, 104]⟩, .slice ao 1 cap] w (.tuple #[va rk rn rm rb, .int .i64 re])) :
    Calls Tryz.prog 46 #[.string ⟨#[108, 101, 110, 103, 116, 104]⟩, .slice ao 1 cap] w fun e w' => e = .returned (.tuple #[va rk rn rm rb, .int .i64 re]) ∧ Below w.heap.size w w' := by
  obtain ⟨w0, hw0, bxr, Bw⟩ := res_box w
  go_enter Tryz.func46, Tryz.ntmps46
  go_upto_region 1 with fail
  rw [← hw0]
  clear hw0
  have B0 : Below w0.heap.size w0 w0 := Below.refl _ _
  go_wp2_with fail
  refine (A _ (below_trans Bw B0)).mono ?_
  rintro e w1 ⟨rfl, c⟩
  have B1 := below_trans B0 c
  clear c
  go_wp2_with fail
  refine (I _ (below_trans Bw B1)).mono ?_
  rintro e w2 ⟨rfl, c⟩
  have B2 := below_trans B1 c
  clear c
  go_wp2_with fail
  refine (C _ (below_trans Bw B2)).mono ?_
  rintro e w3 ⟨rfl, c⟩
  have B3 := below_trans B2 c
  clear c
  go_wp2_with fail
  refine (F _ (below_trans Bw B3)).mono ?_
  rintro e w4 ⟨rfl, c⟩
  have B4 := below_trans B3 c
  clear c
  have br := bxr.later B4
  obtain ⟨r0, r1, r2, r3⟩ := br.at4
  dsimp only [nul] at r0 r1 r2 r3
  simp only [Nat.zero_add] at r1 r2 r3
  have f0 := br.free 0
  have f1 := br.free 1
  have f2 := br.free 2
  have f3 := br.free 3
  have lt1 := br.lt
  have Be := below_trans Bw B4
  go_wp2
  refine bodyPost_ret_by (v := .tuple #[va rk rn rm rb, .int .i64 re]) ?_ rfl ⟨rfl, ?_⟩
  · simp [results, Tryz.results46, go_sem, r0, r1, r2, r3]
  · exact (Be.setCell (p := ⟨w.heap.size, 0, none⟩) (Nat.le_refl _) (.int .i64 rk) |>.setCell (p := ⟨w.heap.size, 1, none⟩) (Nat.le_refl _) (.int .i64 rn) |>.setCell (p := ⟨w.heap.size, 2, none⟩) (Nat.le_refl _) (.int .i64 rm) |>.setCell (p := ⟨w.heap.size, 3, none⟩) (Nat.le_refl _) (.string rb))

theorem qnum7_any (n : Int) (w : World) : Calls Tryz.prog 31 #[.int .i64 n] w fun e w' => e = .returned (.int .i64 n) ∧ w = w' := by
  go_enter Tryz.func31, Tryz.ntmps31
  go_wp2
  go_ret
  exact ⟨rfl, rfl⟩

theorem qints7_any (n : Int) (w : World) : Calls Tryz.prog 45 #[.int .i64 n] w fun e w' => e = .returned (va 1 n 0 ⟨#[]⟩) ∧ Grew w w' := by
  go_enter Tryz.func45, Tryz.ntmps45
  go_wp2
  refine bodyPost_ret_by (v := va 1 n 0 ⟨#[]⟩) ?_ rfl ⟨rfl, ?_⟩
  · simp [results, Tryz.results45, go_sem]
  · repeat (first | exact Grew.refl _ | apply Grew.drew | apply Grew.drewN | apply Grew.alloc | apply Grew.more)

theorem vr_of {v : Va} (h : vok Lib.validD v) : vr v = true := (vr_iff v).2 h
theorem know1 : binR 7 (vI 1) (vD 30 1) = (vD 333333 6, 0) := by
  have h1 : vr (vI 1) = true := vr_of (by simp [vok, vI])
  have h2 : vr (vD 30 1) = true := vr_of (by simp [vok, vD])
  unfold binR
  rw [if_neg (by simp [h1, h2]), if_neg (by decide), if_neg (by simp [vI, vD]), if_neg (by simp [vI, vD]), if_pos (by simp [isn, vI, vD])]
  unfold numsR
  rw [if_neg (by decide), if_neg (by decide), if_neg (by decide), if_pos rfl, if_neg (by simp [vD])]
  rfl
theorem know2 : binR 17 nul (vB false) = (vB false, 0) := by
  have h1 : vr nul = true := vr_of (by simp [vok, nul])
  have h2 : vr (vB false) = true := vr_of (by simp [vok, vB])
  have t1 : tB nul = true := by
    show (vr nul && _) = true
    rw [h1]; rfl
  have t2 : tB (vB false) = true := by
    show (vr (vB false) && _) = true
    rw [h2]; rfl
  have n1 : tN nul = 2 := by
    unfold tN truN
    rw [if_neg (by simp [nul])]
  have n2 : tN (vB false) = 0 := by
    unfold tN truN
    rw [if_pos ⟨h2, rfl⟩]; rfl
  unfold binR
  rw [if_neg (by simp [h1, h2]), if_pos (.inl rfl)]
  unfold truR
  rw [t1, t2, n1, n2]
  rfl
theorem vr_abc : vr ⟨3, 0, 0, [97, 98, 99]⟩ = true := vr_of (by
  have : Lib.validD [97, 98, 99] = true := by kernel_rfl
  simp [vok, this])

set_option maxHeartbeats 4000000 in
theorem knows7_any (w : World) (hT : Tabs w) (hP : Pw w) : Calls Tryz.prog 22 #[] w fun e w' => e = .returned (.bool true) ∧ Below w.heap.size w w' := by
  have K1 : Tells 44 #[.int .i64 7, va 1 1 0 ⟨#[]⟩, va 2 30 1 ⟨#[]⟩] w (.tuple #[va 2 333333 6 ⟨#[]⟩, .int .i64 0]) := fun W h => by
    have := qbin_any 7 (vI 1) (vD 30 1) W (hT.later h) (hP.below h) ⟨⟨by decide, by decide⟩, ⟨by decide, by decide⟩⟩ ⟨⟨by decide, by decide⟩, ⟨by decide, by decide⟩⟩
    rw [know1] at this
    exact this
  have K2 : Tells 44 #[.int .i64 17, va 0 0 0 ⟨#[]⟩, va 4 0 0 ⟨#[]⟩] w (.tuple #[va 4 0 0 ⟨#[]⟩, .int .i64 0]) := fun W h => by
    have := qbin_any 17 nul (vB false) W (hT.later h) (hP.below h) ⟨⟨by decide, by decide⟩, ⟨by decide, by decide⟩⟩ ⟨⟨by decide, by decide⟩, ⟨by decide, by decide⟩⟩
    rw [know2] at this
    exact this
  have K3 : ∀ (bl cap : Nat) (W : World), Below w.heap.size w W → At4 W bl 0 ⟨3, 0, 0, [97, 98, 99]⟩ →
      Calls Tryz.prog 46 #[.string ⟨#[108, 101, 110, 103, 116, 104]⟩, .slice (some ⟨bl, 0, none⟩) 1 cap] W fun e w' => e = .returned (.tuple #[va 1 3 0 ⟨#[]⟩, .int .i64 0]) ∧ Below W.heap.size W w' := by
    intro bl cap W h h4
    have hv : Vs W (some ⟨bl, 0, none⟩) [⟨3, 0, 0, [97, 98, 99]⟩] := fun _ => ⟨bl, 0, rfl, fun i hi => by
      have : i = 0 := by simpa using hi
      subst this
      exact h4⟩
    refine fun_length _ _ _ _ _ _ _ W (fun W' h' => ?_) (fun W' _ => isf_len1 W') (fun W' h' => ?_) (fun W' h' => ?_)
    · have := qall_any (some ⟨bl, 0, none⟩) cap [⟨3, 0, 0, [97, 98, 99]⟩] W' ((hT.later h).later h') (hv.later h') (by decide)
      rwa [show ([⟨3, 0, 0, [97, 98, 99]⟩] : List Va).all vr = true by rw [List.all_cons, vr_abc]; rfl] at this
    · have := qcont_any (some ⟨bl, 0, none⟩) cap [⟨3, 0, 0, [97, 98, 99]⟩] W' (hv.later h') (by decide)
      rwa [show ([⟨3, 0, 0, [97, 98, 99]⟩] : List Va).any zq = false by rfl] at this
    · obtain ⟨c0, c1, c2, c3⟩ := h4.later h'
      exact called_length bl 0 cap 0 0 [97, 98, 99] W' (h4.later h').lt c0 c1 c2 c3
  have H1 := fun W => qints7_any 1 W
  have N := fun n W => qnum7_any n W
  clear hT hP
  have G : Below w.heap.size w w := Below.refl _ _
  go_enter Tryz.func22, Tryz.ntmps22
  go_upto_region 1 with fail
  go_cut [1, 2] from 7 (fun s0 s1 wx => ∃ p : Nat, s0 = .pointer (some ⟨p, 0, none⟩) ∧ s1 = .int .i64 0 ∧ At4 wx p 0 ⟨2, 333333, 6, []⟩ ∧ Below w.heap.size w wx)
  case first =>
    clear K2 K3 N
    go_wp2_with (first
      | (go_at_call 45; refine (H1 _).mono ?_; rintro e wc ⟨rfl, osc, nc, rfl⟩)
      | (go_at_call 44; refine (K1 _ (Grown.below (by repeat (first | assumption | exact Grown.refl _ | apply Grown.drew | apply Grown.drewN | apply Grown.alloc | apply Grown.more | apply Grown.drawTo)))).mono ?_; rintro e wc ⟨rfl, bc⟩; obtain ⟨osc, dc, rfl⟩ := wide bc; clear bc))
    all_goals go_meet
    all_goals exact ⟨_, rfl, rfl, ⟨by simp (maxDischargeDepth := 12) [go_sem], by simp (maxDischargeDepth := 12) [go_sem], by simp (maxDischargeDepth := 12) [go_sem], by simp (maxDischargeDepth := 12) [go_sem]⟩, Grown.below (by repeat (first | assumption | exact Grown.refl _ | apply Grown.drew | apply Grown.drewN | apply Grown.alloc | apply Grown.more | apply Grown.drawTo))⟩
  rename World => v1
  obtain ⟨p1, rfl, rfl, hp1, gv1⟩ := hcut
  replace K1 := K1.later gv1
  replace K2 := K2.later gv1
  replace G := below_trans G gv1
  clear gv1
  go_upto_region 2 with fail
  obtain ⟨k0a, k0b, k0c, k0d⟩ := id hp1
  have k0l := hp1.lt
  simp only [Nat.zero_add] at k0b k0c k0d
  go_cut [3, 4] from 7 (fun s0 s1 wx => ∃ p : Nat, s0 = .pointer (some ⟨p, 0, none⟩) ∧ s1 = .int .i64 0 ∧ At4 wx p 0 ⟨4, 0, 0, []⟩ ∧ Below v1.heap.size v1 wx)
  case first =>
    clear K1 K3 N
    go_wp2_with (first
      | (go_at_call 44; refine (K2 _ (Grown.below (by repeat (first | assumption | exact Grown.refl _ | apply Grown.drew | apply Grown.drewN | apply Grown.alloc | apply Grown.more | apply Grown.drawTo)))).mono ?_; rintro e wc ⟨rfl, bc⟩; obtain ⟨osc, dc, rfl⟩ := wide bc; clear bc))
    all_goals go_meet
    all_goals exact ⟨_, rfl, rfl, ⟨by simp (maxDischargeDepth := 12) [go_sem], by simp (maxDischargeDepth := 12) [go_sem], by simp (maxDischargeDepth := 12) [go_sem], by simp (maxDischargeDepth := 12) [go_sem]⟩, Grown.below (by repeat (first | assumption | exact Grown.refl _ | apply Grown.drew | apply Grown.drewN | apply Grown.alloc | apply Grown.more | apply Grown.drawTo))⟩
  rename World => v2
  obtain ⟨p2, rfl, rfl, hp2, gv2⟩ := hcut
  clear k0a k0b k0c k0d k0l
  replace hp1 := hp1.later gv2
  replace K1 := K1.later gv2
  replace K2 := K2.later gv2
  replace G := below_trans G gv2
  clear gv2
  go_upto_region 3 with fail
  obtain ⟨k0a, k0b, k0c, k0d⟩ := id hp1
  have k0l := hp1.lt
  simp only [Nat.zero_add] at k0b k0c k0d
  obtain ⟨k1a, k1b, k1c, k1d⟩ := id hp2
  have k1l := hp2.lt
  simp only [Nat.zero_add] at k1b k1c k1d
  go_cut [5, 6] from 7 (fun s0 s1 wx => ∃ p : Nat, s0 = .pointer (some ⟨p, 0, none⟩) ∧ s1 = .int .i64 0 ∧ At4 wx p 0 ⟨1, 3, 0, []⟩ ∧ Below v2.heap.size v2 wx)
  case first =>
    clear K1 K2 N
    go_wp2_with (first
      | (go_at_call 46; refine (K3 _ _ _ (below_trans G (Grown.below (by repeat (first | assumption | exact Grown.refl _ | apply Grown.drew | apply Grown.drewN | apply Grown.alloc | apply Grown.more | apply Grown.drawTo)))) ⟨by simp (maxDischargeDepth := 12) [go_sem], by simp (maxDischargeDepth := 12) [go_sem], by simp (maxDischargeDepth := 12) [go_sem], by simp (maxDischargeDepth := 12) [go_sem]⟩).mono ?_; rintro e wc ⟨rfl, bc⟩; obtain ⟨osc, dc, rfl⟩ := wide bc; clear bc))
    all_goals go_meet
    all_goals exact ⟨_, rfl, rfl, ⟨by simp (maxDischargeDepth := 12) [go_sem], by simp (maxDischargeDepth := 12) [go_sem], by simp (maxDischargeDepth := 12) [go_sem], by simp (maxDischargeDepth := 12) [go_sem]⟩, Grown.below (by repeat (first | assumption | exact Grown.refl _ | apply Grown.drew | apply Grown.drewN | apply Grown.alloc | apply Grown.more | apply Grown.drawTo))⟩
  rename World => v3
  obtain ⟨p3, rfl, rfl, hp3, gv3⟩ := hcut
  clear k0a k0b k0c k0d k0l k1a k1b k1c k1d k1l
  replace hp1 := hp1.later gv3
  replace hp2 := hp2.later gv3
  replace K1 := K1.later gv3
  replace K2 := K2.later gv3
  replace G := below_trans G gv3
  clear gv3
  obtain ⟨k0a, k0b, k0c, k0d⟩ := id hp1
  have k0l := hp1.lt
  simp only [Nat.zero_add] at k0b k0c k0d
  obtain ⟨k1a, k1b, k1c, k1d⟩ := id hp2
  have k1l := hp2.lt
  simp only [Nat.zero_add] at k1b k1c k1d
  obtain ⟨k2a, k2b, k2c, k2d⟩ := id hp3
  have k2l := hp3.lt
  simp only [Nat.zero_add] at k2b k2c k2d
  clear K1 K2 K3 H1
  go_wp2_with (go_at_call 31; refine (N _ _).mono ?_; rintro e wc ⟨rfl, rfl⟩)
  go_ret
  exact ⟨rfl, G⟩
end Go.Proofs.YtclhmmgdhagloaaGreatDoor

namespace Go.Proofs.YtclhmmgdhagloaaGreatDoor
open Go.RowKit Go.Shelf
attribute [local go_sem] cell?_more frozen?_more setCell_more more_lt more_more more_drew more_drewN setCell_drewN alloc_drewN

set_option maxHeartbeats 2000000 in
theorem qneg_null (an am : Int) (ab : ByteArray) (w : World)  :
    Calls Tryz.prog 170 #[va 0 an am ab] w fun e w' => e = .returned (.tuple #[va 0 0 0 ⟨#[]⟩, .int .i64 0]) ∧ Grew w w' := by
  go_enter Tryz.func170, Tryz.ntmps170
  go_wp2_with fail
  refine wp_scope_on 5 ?_
  go_wp2
  refine onward_ret (by intro l h; cases h) ?_
  refine bodyPost_ret_by (v := .tuple #[va 0 0 0 ⟨#[]⟩, .int .i64 0]) ?_ rfl ⟨rfl, (by repeat (first | assumption | exact Grew.refl _ | apply Grew.drew | apply Grew.drewN | apply Grew.alloc | apply Grew.more))⟩
  simp [results, Tryz.results170, go_sem]

set_option maxHeartbeats 2000000 in
theorem qneg_int (an am : Int) (ab : ByteArray) (w : World) (z x : Int) (D : ∀ W, Grew w W → Calls Tryz.prog 144 #[.int .i64 0, .int .i64 an] W fun e w' => e = .returned (.tuple #[.int .i64 z, .int .i64 x]) ∧ Grew W w') :
    Calls Tryz.prog 170 #[va 1 an am ab] w fun e w' => e = .returned (rs (wholeR z x)) ∧ Grew w w' := by
  have H := fun n x W => qwhole_any n x W
  go_enter Tryz.func170, Tryz.ntmps170
  go_wp2_with fail
  refine wp_scope_on 5 ?_
  go_wp2_with fail
  refine goto_on (n := 4) rfl ?_
  go_wp2_with (first
    | (go_at_call 144; refine (D _ (by repeat (first | assumption | exact Grew.refl _ | apply Grew.drew | apply Grew.drewN | apply Grew.alloc | apply Grew.more))).mono ?_; rintro e w1 ⟨rfl, os1, n1, rfl⟩)
    | (go_at_call 142; refine (H _ _ _).mono ?_; rintro e w1 ⟨rfl, os2, n2, rfl⟩))
  refine onward_ret (by intro l h; cases h) ?_
  refine bodyPost_ret_by (v := rs (wholeR z x)) ?_ rfl ⟨rfl, (by repeat (first | assumption | exact Grew.refl _ | apply Grew.drew | apply Grew.drewN | apply Grew.alloc | apply Grew.more))⟩
  simp [results, Tryz.results170, go_sem]

set_option maxHeartbeats 2000000 in
theorem qneg_dec (an am : Int) (ab : ByteArray) (w : World) (z s x : Int) (D : ∀ W, Grew w W → Calls Tryz.prog 223 #[dv an am] W fun e w' => e = .returned (.tuple #[dv z s, .int .i64 x]) ∧ Grew W w') :
    Calls Tryz.prog 170 #[va 2 an am ab] w fun e w' => e = .returned (rs (exactR z s x)) ∧ Grew w w' := by
  have H := fun n s x W => qexact_any n s x W
  have U := fun k n m b W => qunits_any k n m b W
  go_enter Tryz.func170, Tryz.ntmps170
  go_wp2_with fail
  refine wp_scope_on 5 ?_
  go_wp2_with fail
  refine goto_on (n := 4) rfl ?_
  go_wp2_with fail
  refine goto_on (n := 3) rfl ?_
  go_wp2_with (first
    | (go_at_call 80; refine (U _ _ _ _ _).mono ?_; rintro e w1 ⟨rfl, os0, n0, rfl⟩)
    | (go_at_call 223; refine (D _ (by repeat (first | assumption | exact Grew.refl _ | apply Grew.drew | apply Grew.drewN | apply Grew.alloc | apply Grew.more))).mono ?_; rintro e w1 ⟨rfl, os1, n1, rfl⟩)
    | (go_at_call 149; refine (H _ _ _ _).mono ?_; rintro e w1 ⟨rfl, os2, n2, rfl⟩))
  refine onward_ret (by intro l h; cases h) ?_
  refine bodyPost_ret_by (v := rs (exactR z s x)) ?_ rfl ⟨rfl, (by repeat (first | assumption | exact Grew.refl _ | apply Grew.drew | apply Grew.drewN | apply Grew.alloc | apply Grew.more))⟩
  simp [results, Tryz.results170, go_sem]

set_option maxHeartbeats 2000000 in
theorem qneg_pt (an am : Int) (ab : ByteArray) (w : World) (x y : Int) (D : ∀ W, Calls Tryz.prog 224 #[dv an am, .int .i64 2] W fun e w' => e = .returned (dv x y) ∧ Grew W w') :
    Calls Tryz.prog 170 #[va 5 an am ab] w fun e w' => e = .returned (rs (placedR x y 0)) ∧ Grew w w' := by
  have H := fun n s x W => qplaced_any n s x W
  have U := fun k n m b W => qpoint_any k n m b W
  go_enter Tryz.func170, Tryz.ntmps170
  go_wp2_with fail
  refine wp_scope_on 5 ?_
  go_wp2_with fail
  refine goto_on (n := 4) rfl ?_
  go_wp2_with fail
  refine goto_on (n := 3) rfl ?_
  go_wp2_with fail
  refine goto_on (n := 2) rfl ?_
  go_wp2_with (first
    | (go_at_call 155; refine (U _ _ _ _ _).mono ?_; rintro e w1 ⟨rfl, os0, n0, rfl⟩)
    | (go_at_call 224; refine (D _).mono ?_; rintro e w1 ⟨rfl, os1, n1, rfl⟩)
    | (go_at_call 156; refine (H _ _ _ _).mono ?_; rintro e w1 ⟨rfl, os2, n2, rfl⟩))
  refine onward_ret (by intro l h; cases h) ?_
  refine bodyPost_ret_by (v := rs (placedR x y 0)) ?_ rfl ⟨rfl, (by repeat (first | assumption | exact Grew.refl _ | apply Grew.drew | apply Grew.drewN | apply Grew.alloc | apply Grew.more))⟩
  simp [results, Tryz.results170, go_sem]

set_option maxHeartbeats 2000000 in
theorem qneg_other (ak : Int) (an am : Int) (ab : ByteArray) (w : World) (e0 : (ak != 0) = true) (e1 : (ak != 1) = true) (e2 : (ak != 2) = true) (e5 : (ak != 5) = true) :
    Calls Tryz.prog 170 #[va ak an am ab] w fun e w' => e = .returned (.tuple #[va 0 0 0 ⟨#[]⟩, .int .i64 31]) ∧ Grew w w' := by
  go_enter Tryz.func170, Tryz.ntmps170
  go_wp2_with fail
  refine wp_scope_on 5 ?_
  go_wp2_with fail
  refine goto_on (n := 4) rfl ?_
  go_wp2_with fail
  refine goto_on (n := 3) rfl ?_
  go_wp2_with fail
  refine goto_on (n := 2) rfl ?_
  go_wp2_with fail
  refine goto_on (n := 1) rfl ?_
  go_wp2
  refine onward_ret (by intro l h; cases h) ?_
  refine bodyPost_ret_by (v := .tuple #[va 0 0 0 ⟨#[]⟩, .int .i64 31]) ?_ rfl ⟨rfl, (by repeat (first | assumption | exact Grew.refl _ | apply Grew.drew | apply Grew.drewN | apply Grew.alloc | apply Grew.more))⟩
  simp [results, Tryz.results170, go_sem]

theorem qneg_any (a : Va) (w : World) (hP : Pw w) (hr : vr a = true) (va' : vin a) : Calls Tryz.prog 170 #[vv a] w fun e w' => e = .returned (rs (negR a)) ∧ Grew w w' := by
  obtain ⟨k, n, m, b⟩ := a
  have hv := (vr_iff _).1 hr
  simp only [vok] at hv
  obtain ⟨⟨a0, a1⟩, -⟩ := va'
  simp only at a0 a1
  unfold negR
  by_cases h0 : k = 0
  · subst h0
    exact qneg_null n m _ w
  by_cases h1 : k = 1
  · subst h1
    exact qneg_int n m _ w _ _ (fun W h => qdiff_any 0 n W (hP.later h) (by decide) (by decide) a0 a1)
  by_cases h2 : k = 2
  · subst h2
    have hm : 0 ≤ m ∧ m ≤ 6 := by omega
    have hs : rightS m = true := (rightS_iff m).2 hm
    have := qneg_dec n m ⟨b.toArray⟩ w _ _ _ (fun W h => neg_any n m W (hP.later h) a0 a1)
    simp only [negU, negS, negE, hs, if_true] at this
    exact this
  by_cases h5 : k = 5
  · subst h5
    have hp : Ga.ok2 n m = true := (Ga.ok2_iff n m).2 (by omega)
    exact qneg_pt n m _ w _ _ (fun W => Ga.turn_good n m 2 W hp)
  simp only [h0, h1, h2, h5, if_false]
  exact qneg_other k n m _ w (by simpa using h0) (by simpa using h1) (by simpa using h2) (by simpa using h5)
end Go.Proofs.YtclhmmgdhagloaaGreatDoor

namespace Go.Proofs.YtclhmmgdhagloaaGreatDoor
open Go.RowKit Go.Shelf
attribute [local go_sem] cell?_more frozen?_more setCell_more more_lt more_more more_drew more_drewN setCell_drewN alloc_drewN

theorem one_boxes (w : World) (a : Va) : ∃ w0, w0 = (w.alloc (.cells #[.int .i64 a.k, .int .i64 a.n, .int .i64 a.m, .string ⟨a.b.toArray⟩] 42)).alloc (.cells #[.int .i64 0, .int .i64 0, .int .i64 0, .string ⟨#[]⟩] 42) ∧
    Box w0 w.heap.size a ∧ Box w0 (w.heap.size + 1) nul ∧ Below w.heap.size w w0 := by
  obtain ⟨h1, h2, h3⟩ := two_boxes w a nul
  exact ⟨_, rfl, h1, h2, h3⟩

set_option maxHeartbeats 2000000 in
theorem qun_low (op : Int) (ak : Int) (an am : Int) (ab : List UInt8) (w : World) (o1 : op < 3)  :
    Calls Tryz.prog 90 #[.int .i64 op, va ak an am ⟨ab.toArray⟩] w fun e w' => e = .returned (.tuple #[va 0 0 0 ⟨#[]⟩, .int .i64 1]) ∧ Below w.heap.size w w' := by
  obtain ⟨w0, hw0, bxa, bxr, Bw⟩ := one_boxes w ⟨ak, an, am, ab⟩
  dsimp only at hw0
  have B0 : Below w0.heap.size w0 w0 := Below.refl _ _
  go_enter Tryz.func90, Tryz.ntmps90
  go_upto_region 1 with fail
  rw [← hw0]
  clear hw0
  obtain ⟨a0, a1, a2, a3⟩ := bxa.at4
  dsimp only at a0 a1 a2 a3
  have br := bxr.later B0
  obtain ⟨r0, r1, r2, r3⟩ := br.at4
  dsimp only [nul] at r0 r1 r2 r3
  simp only [Nat.zero_add] at r1 r2 r3
  have f0 := br.free 0
  have f1 := br.free 1
  have f2 := br.free 2
  have f3 := br.free 3
  have lt1 := br.lt
  have Be := below_trans Bw B0
  go_wp2
  refine bodyPost_ret_by (v := .tuple #[va 0 0 0 ⟨#[]⟩, .int .i64 1]) ?_ rfl ⟨rfl, ?_⟩
  · simp [results, Tryz.results90, go_sem, r0, r1, r2, r3]
  · refine below_trans (Be.setCell (p := ⟨w.heap.size + 1, 0, none⟩) (by dsimp only; omega) (.int .i64 0) |>.setCell (p := ⟨w.heap.size + 1, 1, none⟩) (by dsimp only; omega) (.int .i64 0) |>.setCell (p := ⟨w.heap.size + 1, 2, none⟩) (by dsimp only; omega) (.int .i64 0) |>.setCell (p := ⟨w.heap.size + 1, 3, none⟩) (by dsimp only; omega) (.string ⟨#[]⟩)) (Grew.below ?_)
    repeat (first | assumption | exact Grew.refl _ | apply Grew.drew | apply Grew.drewN | apply Grew.alloc | apply Grew.more)

set_option maxHeartbeats 2000000 in
theorem qun_high (op : Int) (ak : Int) (an am : Int) (ab : List UInt8) (w : World) (o1 : ¬ op < 3) (o2 : op > 5)  :
    Calls Tryz.prog 90 #[.int .i64 op, va ak an am ⟨ab.toArray⟩] w fun e w' => e = .returned (.tuple #[va 0 0 0 ⟨#[]⟩, .int .i64 1]) ∧ Below w.heap.size w w' := by
  obtain ⟨w0, hw0, bxa, bxr, Bw⟩ := one_boxes w ⟨ak, an, am, ab⟩
  dsimp only at hw0
  have B0 : Below w0.heap.size w0 w0 := Below.refl _ _
  go_enter Tryz.func90, Tryz.ntmps90
  go_upto_region 1 with fail
  rw [← hw0]
  clear hw0
  obtain ⟨a0, a1, a2, a3⟩ := bxa.at4
  dsimp only at a0 a1 a2 a3
  have br := bxr.later B0
  obtain ⟨r0, r1, r2, r3⟩ := br.at4
  dsimp only [nul] at r0 r1 r2 r3
  simp only [Nat.zero_add] at r1 r2 r3
  have f0 := br.free 0
  have f1 := br.free 1
  have f2 := br.free 2
  have f3 := br.free 3
  have lt1 := br.lt
  have Be := below_trans Bw B0
  go_wp2
  refine bodyPost_ret_by (v := .tuple #[va 0 0 0 ⟨#[]⟩, .int .i64 1]) ?_ rfl ⟨rfl, ?_⟩
  · simp [results, Tryz.results90, go_sem, r0, r1, r2, r3]
  · refine below_trans (Be.setCell (p := ⟨w.heap.size + 1, 0, none⟩) (by dsimp only; omega) (.int .i64 0) |>.setCell (p := ⟨w.heap.size + 1, 1, none⟩) (by dsimp only; omega) (.int .i64 0) |>.setCell (p := ⟨w.heap.size + 1, 2, none⟩) (by dsimp only; omega) (.int .i64 0) |>.setCell (p := ⟨w.heap.size + 1, 3, none⟩) (by dsimp only; omega) (.string ⟨#[]⟩)) (Grew.below ?_)
    repeat (first | assumption | exact Grew.refl _ | apply Grew.drew | apply Grew.drewN | apply Grew.alloc | apply Grew.more)

set_option maxHeartbeats 2000000 in
theorem qun_bad (op : Int) (ak : Int) (an am : Int) (ab : List UInt8) (w : World) (o1 : ¬ op < 3) (o2 : ¬ op > 5) (Ra : Tells 75 #[va ak an am ⟨ab.toArray⟩] w (.bool false)) :
    Calls Tryz.prog 90 #[.int .i64 op, va ak an am ⟨ab.toArray⟩] w fun e w' => e = .returned (.tuple #[va 0 0 0 ⟨#[]⟩, .int .i64 1]) ∧ Below w.heap.size w w' := by
  obtain ⟨w0, hw0, bxa, bxr, Bw⟩ := one_boxes w ⟨ak, an, am, ab⟩
  dsimp only at hw0
  have B0 : Below w0.heap.size w0 w0 := Below.refl _ _
  go_enter Tryz.func90, Tryz.ntmps90
  go_upto_region 1 with fail
  rw [← hw0]
  clear hw0
  obtain ⟨a0, a1, a2, a3⟩ := bxa.at4
  dsimp only at a0 a1 a2 a3
  go_wp2_with fail
  refine (Ra _ (below_trans Bw B0)).mono ?_
  rintro e w1 ⟨rfl, cc⟩
  have B1 := below_trans B0 cc
  clear a0 a1 a2 a3 cc
  obtain ⟨a0, a1, a2, a3⟩ := (bxa.later B1).at4
  dsimp only at a0 a1 a2 a3
  have br := bxr.later B1
  obtain ⟨r0, r1, r2, r3⟩ := br.at4
  dsimp only [nul] at r0 r1 r2 r3
  simp only [Nat.zero_add] at r1 r2 r3
  have f0 := br.free 0
  have f1 := br.free 1
  have f2 := br.free 2
  have f3 := br.free 3
  have lt1 := br.lt
  have Be := below_trans Bw B1
  go_wp2
  refine bodyPost_ret_by (v := .tuple #[va 0 0 0 ⟨#[]⟩, .int .i64 1]) ?_ rfl ⟨rfl, ?_⟩
  · simp [results, Tryz.results90, go_sem, r0, r1, r2, r3]
  · refine below_trans (Be.setCell (p := ⟨w.heap.size + 1, 0, none⟩) (by dsimp only; omega) (.int .i64 0) |>.setCell (p := ⟨w.heap.size + 1, 1, none⟩) (by dsimp only; omega) (.int .i64 0) |>.setCell (p := ⟨w.heap.size + 1, 2, none⟩) (by dsimp only; omega) (.int .i64 0) |>.setCell (p := ⟨w.heap.size + 1, 3, none⟩) (by dsimp only; omega) (.string ⟨#[]⟩)) (Grew.below ?_)
    repeat (first | assumption | exact Grew.refl _ | apply Grew.drew | apply Grew.drewN | apply Grew.alloc | apply Grew.more)

set_option maxHeartbeats 2000000 in
theorem qun_isnull (ak : Int) (an am : Int) (ab : List UInt8) (w : World) (rn : Int) (Ra : Tells 75 #[va ak an am ⟨ab.toArray⟩] w (.bool true)) (T : Tells 56 #[.bool (ak == 0)] w (va 4 rn 0 ⟨#[]⟩)) :
    Calls Tryz.prog 90 #[.int .i64 5, va ak an am ⟨ab.toArray⟩] w fun e w' => e = .returned (.tuple #[va 4 rn 0 ⟨#[]⟩, .int .i64 0]) ∧ Below w.heap.size w w' := by
  obtain ⟨w0, hw0, bxa, bxr, Bw⟩ := one_boxes w ⟨ak, an, am, ab⟩
  dsimp only at hw0
  have B0 : Below w0.heap.size w0 w0 := Below.refl _ _
  go_enter Tryz.func90, Tryz.ntmps90
  go_upto_region 1 with fail
  rw [← hw0]
  clear hw0
  obtain ⟨a0, a1, a2, a3⟩ := bxa.at4
  dsimp only at a0 a1 a2 a3
  go_wp2_with fail
  refine (Ra _ (below_trans Bw B0)).mono ?_
  rintro e w1 ⟨rfl, cc⟩
  have B1 := below_trans B0 cc
  clear a0 a1 a2 a3 cc
  obtain ⟨a0, a1, a2, a3⟩ := (bxa.later B1).at4
  dsimp only at a0 a1 a2 a3
  go_wp2_with fail
  refine (T _ (below_trans Bw B1)).mono ?_
  rintro e w2 ⟨rfl, cc⟩
  have B2 := below_trans B1 cc
  clear a0 a1 a2 a3 cc
  obtain ⟨a0, a1, a2, a3⟩ := (bxa.later B2).at4
  dsimp only at a0 a1 a2 a3
  have br := bxr.later B2
  obtain ⟨r0, r1, r2, r3⟩ := br.at4
  dsimp only [nul] at r0 r1 r2 r3
  simp only [Nat.zero_add] at r1 r2 r3
  have f0 := br.free 0
  have f1 := br.free 1
  have f2 := br.free 2
  have f3 := br.free 3
  have lt1 := br.lt
  have Be := below_trans Bw B2
  go_wp2
  refine bodyPost_ret_by (v := .tuple #[va 4 rn 0 ⟨#[]⟩, .int .i64 0]) ?_ rfl ⟨rfl, ?_⟩
  · simp [results, Tryz.results90, go_sem, r0, r1, r2, r3]
  · refine below_trans (Be.setCell (p := ⟨w.heap.size + 1, 0, none⟩) (by dsimp only; omega) (.int .i64 4) |>.setCell (p := ⟨w.heap.size + 1, 1, none⟩) (by dsimp only; omega) (.int .i64 rn) |>.setCell (p := ⟨w.heap.size + 1, 2, none⟩) (by dsimp only; omega) (.int .i64 0) |>.setCell (p := ⟨w.heap.size + 1, 3, none⟩) (by dsimp only; omega) (.string ⟨#[]⟩)) (Grew.below ?_)
    repeat (first | assumption | exact Grew.refl _ | apply Grew.drew | apply Grew.drewN | apply Grew.alloc | apply Grew.more)

set_option maxHeartbeats 2000000 in
theorem qun_not (ak : Int) (an am : Int) (ab : List UInt8) (w : World) (rk rn rm re : Int) (rb : ByteArray) (Ra : Tells 75 #[va ak an am ⟨ab.toArray⟩] w (.bool true)) (F : Tells 169 #[va ak an am ⟨ab.toArray⟩] w (.tuple #[va rk rn rm rb, .int .i64 re])) :
    Calls Tryz.prog 90 #[.int .i64 4, va ak an am ⟨ab.toArray⟩] w fun e w' => e = .returned (.tuple #[va rk rn rm rb, .int .i64 re]) ∧ Below w.heap.size w w' := by
  obtain ⟨w0, hw0, bxa, bxr, Bw⟩ := one_boxes w ⟨ak, an, am, ab⟩
  dsimp only at hw0
  have B0 : Below w0.heap.size w0 w0 := Below.refl _ _
  go_enter Tryz.func90, Tryz.ntmps90
  go_upto_region 1 with fail
  rw [← hw0]
  clear hw0
  obtain ⟨a0, a1, a2, a3⟩ := bxa.at4
  dsimp only at a0 a1 a2 a3
  go_wp2_with fail
  refine (Ra _ (below_trans Bw B0)).mono ?_
  rintro e w1 ⟨rfl, cc⟩
  have B1 := below_trans B0 cc
  clear a0 a1 a2 a3 cc
  obtain ⟨a0, a1, a2, a3⟩ := (bxa.later B1).at4
  dsimp only at a0 a1 a2 a3
  go_wp2_with fail
  refine (F _ (below_trans Bw B1)).mono ?_
  rintro e w2 ⟨rfl, cc⟩
  have B2 := below_trans B1 cc
  clear a0 a1 a2 a3 cc
  obtain ⟨a0, a1, a2, a3⟩ := (bxa.later B2).at4
  dsimp only at a0 a1 a2 a3
  have br := bxr.later B2
  obtain ⟨r0, r1, r2, r3⟩ := br.at4
  dsimp only [nul] at r0 r1 r2 r3
  simp only [Nat.zero_add] at r1 r2 r3
  have f0 := br.free 0
  have f1 := br.free 1
  have f2 := br.free 2
  have f3 := br.free 3
  have lt1 := br.lt
  have Be := below_trans Bw B2
  go_wp2
  refine bodyPost_ret_by (v := .tuple #[va rk rn rm rb, .int .i64 re]) ?_ rfl ⟨rfl, ?_⟩
  · simp [results, Tryz.results90, go_sem, r0, r1, r2, r3]
  · refine below_trans (Be.setCell (p := ⟨w.heap.size + 1, 0, none⟩) (by dsimp only; omega) (.int .i64 rk) |>.setCell (p := ⟨w.heap.size + 1, 1, none⟩) (by dsimp only; omega) (.int .i64 rn) |>.setCell (p := ⟨w.heap.size + 1, 2, none⟩) (by dsimp only; omega) (.int .i64 rm) |>.setCell (p := ⟨w.heap.size + 1, 3, none⟩) (by dsimp only; omega) (.string rb)) (Grew.below ?_)
    repeat (first | assumption | exact Grew.refl _ | apply Grew.drew | apply Grew.drewN | apply Grew.alloc | apply Grew.more)

set_option maxHeartbeats 2000000 in
theorem qun_neg (ak : Int) (an am : Int) (ab : List UInt8) (w : World) (rk rn rm re : Int) (rb : ByteArray) (Ra : Tells 75 #[va ak an am ⟨ab.toArray⟩] w (.bool true)) (F : Tells 170 #[va ak an am ⟨ab.toArray⟩] w (.tuple #[va rk rn rm rb, .int .i64 re])) :
    Calls Tryz.prog 90 #[.int .i64 3, va ak an am ⟨ab.toArray⟩] w fun e w' => e = .returned (.tuple #[va rk rn rm rb, .int .i64 re]) ∧ Below w.heap.size w w' := by
  obtain ⟨w0, hw0, bxa, bxr, Bw⟩ := one_boxes w ⟨ak, an, am, ab⟩
  dsimp only at hw0
  have B0 : Below w0.heap.size w0 w0 := Below.refl _ _
  go_enter Tryz.func90, Tryz.ntmps90
  go_upto_region 1 with fail
  rw [← hw0]
  clear hw0
  obtain ⟨a0, a1, a2, a3⟩ := bxa.at4
  dsimp only at a0 a1 a2 a3
  go_wp2_with fail
  refine (Ra _ (below_trans Bw B0)).mono ?_
  rintro e w1 ⟨rfl, cc⟩
  have B1 := below_trans B0 cc
  clear a0 a1 a2 a3 cc
  obtain ⟨a0, a1, a2, a3⟩ := (bxa.later B1).at4
  dsimp only at a0 a1 a2 a3
  go_wp2_with fail
  refine (F _ (below_trans Bw B1)).mono ?_
  rintro e w2 ⟨rfl, cc⟩
  have B2 := below_trans B1 cc
  clear a0 a1 a2 a3 cc
  obtain ⟨a0, a1, a2, a3⟩ := (bxa.later B2).at4
  dsimp only at a0 a1 a2 a3
  have br := bxr.later B2
  obtain ⟨r0, r1, r2, r3⟩ := br.at4
  dsimp only [nul] at r0 r1 r2 r3
  simp only [Nat.zero_add] at r1 r2 r3
  have f0 := br.free 0
  have f1 := br.free 1
  have f2 := br.free 2
  have f3 := br.free 3
  have lt1 := br.lt
  have Be := below_trans Bw B2
  go_wp2
  refine bodyPost_ret_by (v := .tuple #[va rk rn rm rb, .int .i64 re]) ?_ rfl ⟨rfl, ?_⟩
  · simp [results, Tryz.results90, go_sem, r0, r1, r2, r3]
  · refine below_trans (Be.setCell (p := ⟨w.heap.size + 1, 0, none⟩) (by dsimp only; omega) (.int .i64 rk) |>.setCell (p := ⟨w.heap.size + 1, 1, none⟩) (by dsimp only; omega) (.int .i64 rn) |>.setCell (p := ⟨w.heap.size + 1, 2, none⟩) (by dsimp only; omega) (.int .i64 rm) |>.setCell (p := ⟨w.heap.size + 1, 3, none⟩) (by dsimp only; omega) (.string rb)) (Grew.below ?_)
    repeat (first | assumption | exact Grew.refl _ | apply Grew.drew | apply Grew.drewN | apply Grew.alloc | apply Grew.more)

theorem qun_any (op : Int) (a : Va) (w : World) (hT : Tabs w) (hP : Pw w) (va' : vin a) :
    Calls Tryz.prog 90 #[.int .i64 op, vv a] w fun e w' => e = .returned (rs (unR op a)) ∧ Below w.heap.size w w' := by
  have Ra : Tells 75 #[vv a] w (.bool (vr a)) := fun W h => vright_any a.k a.n a.m ⟨a.b.toArray⟩ W (hT.later h)
  unfold unR
  by_cases o1 : op < 3
  · rw [if_pos (by omega)]
    exact qun_low op a.k a.n a.m a.b w o1
  by_cases o2 : op > 5
  · rw [if_pos (by omega)]
    exact qun_high op a.k a.n a.m a.b w o1 o2
  cases hr : vr a
  · rw [hr] at Ra
    rw [if_pos (by simp)]
    exact qun_bad op a.k a.n a.m a.b w o1 o2 Ra
  rw [hr] at Ra
  rw [if_neg (by simp; omega)]
  by_cases h5 : op = 5
  · subst h5
    rw [if_pos rfl]
    exact qun_isnull a.k a.n a.m a.b w _ Ra (fun W _ => (qtruth_any (a.k == 0) W).mono fun _ _ h => ⟨h.1, h.2.below⟩)
  rw [if_neg h5]
  by_cases h4 : op = 4
  · subst h4
    rw [if_pos rfl]
    exact qun_not a.k a.n a.m a.b w _ _ _ _ _ Ra (fun W _ => (qnot_any a W).mono fun _ _ h => ⟨h.1, h.2.below⟩)
  rw [if_neg h4]
  obtain rfl : op = 3 := by omega
  exact qun_neg a.k a.n a.m a.b w _ _ _ _ _ Ra (fun W h => (qneg_any a W (hP.below h) hr va').mono fun _ _ h => ⟨h.1, h.2.below⟩)
end Go.Proofs.YtclhmmgdhagloaaGreatDoor

namespace Go.Proofs.YtclhmmgdhagloaaGreatDoor
open Go.RowKit Go.Shelf
attribute [local go_sem] cell?_more frozen?_more setCell_more more_lt more_more more_drew more_drewN setCell_drewN alloc_drewN cell?_drawTo frozen?_drawTo heap_drawTo setCell_drawTo alloc_drawTo drewN_drawTo drew_drawTo drawTo_drewN drawTo_drew drawTo_drawTo more_drawTo

end Go.Proofs.YtclhmmgdhagloaaGreatDoor

namespace Go.Proofs.YtclhmmgdhagloaaGreatDoor
open Go.Lib

theorem decN_app (n n' b0 b1 b2 b3 c1 c2 c3 : Nat) (h0n : 0 < n) (hn : n ≤ n') (e1 : 1 < n → c1 = b1) (e2 : 2 < n → c2 = b2) (e3 : 3 < n → c3 = b3)
    (h : ¬ ((decodeN n b0 b1 b2 b3).1 = 65533 ∧ (decodeN n b0 b1 b2 b3).2 = 1)) :
    decodeN n' b0 c1 c2 c3 = decodeN n b0 b1 b2 b3 ∧ (decodeN n b0 b1 b2 b3).2 ≤ n ∧ 0 < (decodeN n b0 b1 b2 b3).2 := by
  by_cases h0 : b0 < 128
  · simp only [decodeN, if_pos h0]
    exact ⟨trivial, h0n, by decide⟩
  by_cases h6 : b0 / 32 = 6 ∧ (1 < n ∧ b1 / 64 = 2)
  · obtain rfl := e1 h6.2.1
    have h6' : b0 / 32 = 6 ∧ (1 < n' ∧ c1 / 64 = 2) := ⟨h6.1, by omega, h6.2.2⟩
    simp only [decodeN, if_neg h0, if_pos h6, if_pos h6']
    refine ⟨trivial, ?_⟩
    split <;> simp <;> omega
  by_cases h14 : b0 / 16 = 14 ∧ (1 < n ∧ b1 / 64 = 2) ∧ (2 < n ∧ b2 / 64 = 2)
  · obtain rfl := e1 h14.2.1.1
    obtain rfl := e2 h14.2.2.1
    have h6' : ¬ (b0 / 32 = 6 ∧ (1 < n' ∧ c1 / 64 = 2)) := by omega
    have h14' : b0 / 16 = 14 ∧ (1 < n' ∧ c1 / 64 = 2) ∧ (2 < n' ∧ c2 / 64 = 2) := ⟨h14.1, ⟨by omega, h14.2.1.2⟩, by omega, h14.2.2.2⟩
    simp only [decodeN, if_neg h0, if_neg h6, if_neg h6', if_pos h14, if_pos h14']
    refine ⟨trivial, ?_⟩
    split <;> simp <;> omega
  by_cases h30 : b0 / 8 = 30 ∧ (1 < n ∧ b1 / 64 = 2) ∧ (2 < n ∧ b2 / 64 = 2) ∧ (3 < n ∧ b3 / 64 = 2)
  · obtain rfl := e1 h30.2.1.1
    obtain rfl := e2 h30.2.2.1.1
    obtain rfl := e3 h30.2.2.2.1
    have h6' : ¬ (b0 / 32 = 6 ∧ (1 < n' ∧ c1 / 64 = 2)) := by omega
    have h14' : ¬ (b0 / 16 = 14 ∧ (1 < n' ∧ c1 / 64 = 2) ∧ (2 < n' ∧ c2 / 64 = 2)) := by omega
    have h30' : b0 / 8 = 30 ∧ (1 < n' ∧ c1 / 64 = 2) ∧ (2 < n' ∧ c2 / 64 = 2) ∧ (3 < n' ∧ c3 / 64 = 2) := ⟨h30.1, ⟨by omega, h30.2.1.2⟩, ⟨by omega, h30.2.2.1.2⟩, by omega, h30.2.2.2.2⟩
    simp only [decodeN, if_neg h0, if_neg h6, if_neg h6', if_neg h14, if_neg h14', if_pos h30, if_pos h30']
    refine ⟨trivial, ?_⟩
    split <;> simp <;> omega
  · exfalso
    apply h
    simp only [decodeN, if_neg h0, if_neg h6, if_neg h14, if_neg h30]
    exact ⟨trivial, trivial⟩

theorem validD_append : ∀ (n : Nat) (l r : List UInt8), l.length ≤ n → validD l = true → validD r = true → validD (l ++ r) = true := by
  intro n
  induction n with
  | zero =>
    intro l r hl _ hr
    obtain rfl : l = [] := List.length_eq_zero_iff.1 (by omega)
    exact hr
  | succ n ih =>
    intro l r hl hv hr
    by_cases hne : l = []
    · subst hne; exact hr
    · have hp : 0 < l.length := List.length_pos_iff.2 hne
      rw [validD_step l hne] at hv
      split at hv
      · cases hv
      · rename_i h
        have h' := h
        rw [decodeL_N] at h'
        have hg : ∀ i, i < l.length → (l ++ r).getD i 0 = l.getD i 0 := fun i hi => by simp [List.getD, List.getElem?_append_left hi]
        obtain ⟨e, hle, hlt⟩ := decN_app l.length (l ++ r).length (l.getD 0 0).toNat (l.getD 1 0).toNat (l.getD 2 0).toNat (l.getD 3 0).toNat ((l ++ r).getD 1 0).toNat ((l ++ r).getD 2 0).toNat ((l ++ r).getD 3 0).toNat hp (by simp) (fun h => by rw [hg 1 h]) (fun h => by rw [hg 2 h]) (fun h => by rw [hg 3 h]) h'
        have ed : decodeL (l ++ r) = decodeL l := by rw [decodeL_N, decodeL_N, hg 0 hp]; exact e
        rw [← decodeL_N] at hle hlt
        rw [validD_step (l ++ r) (by simp [hne]), ed, if_neg h, List.drop_append_of_le_length hle]
        exact ih _ _ (by rw [List.length_drop]; omega) hv hr
end Go.Proofs.YtclhmmgdhagloaaGreatDoor

namespace Go.Proofs.YtclhmmgdhagloaaGreatDoor
open Go.RowKit Go.Shelf

/-- What is answered may be, or is nothing. -/
def okR (r : Va × Int) : Prop := vr r.1 = true ∧ (r.2 = 0 ∨ r.1 = nul)
theorem vr_nul : vr nul = true := vr_of (by simp [vok, nul])
theorem ok_nul (e : Int) : okR (nul, e) := ⟨vr_nul, .inr rfl⟩
theorem ok_int (z : Int) : okR (vI z, 0) := ⟨vr_of (by simp [vok, vI]), .inl rfl⟩
theorem ok_bool (b : Bool) : okR (vB b, 0) := ⟨vr_of (by cases b <;> simp [vok, vB]), .inl rfl⟩
theorem ok_pt (x y : Int) (h : Ga.ok2 x y = true) : okR (vP x y, 0) := ⟨vr_of (by have := (Ga.ok2_iff x y).1 h; simp [vok, vP]; omega), .inl rfl⟩
theorem ok_of (t : Int) : okR (vO t, 0) := by
  unfold vO
  split
  · rename_i h
    exact ⟨vr_of (by simp [vok]; omega), .inl rfl⟩
  · exact ok_nul 0
theorem ok_whole (z e : Int) : okR (wholeR z e) := by
  unfold wholeR
  split
  · exact ok_int z
  · exact ok_nul e
theorem ok_dec (z s : Int) (h : 0 ≤ s ∧ s ≤ 6) : okR (decR z s) := by
  unfold decR exactR
  split
  · refine ⟨vr_of ?_, .inl rfl⟩
    have : 0 ≤ fs z s ∧ fs z s ≤ 6 := by unfold fs; split <;> omega
    simp [vok, vD]; omega
  · exact ok_nul _
theorem ok_ptR (x y : Int) : okR (ptR x y) := by
  unfold ptR placedR Ga.tX Ga.tY Ga.tE
  by_cases h : Ga.ok2 x y = true
  · simp only [h, if_true]
    exact ok_pt x y h
  · simp only [h]
    exact ok_nul 32
theorem ok_cmp (op c : Int) : okR (cmpR op c) := by
  unfold cmpR
  repeat' split
  all_goals first | exact ok_bool _ | exact ok_nul _

theorem ok_bin (op : Int) (a b : Va) : okR (binR op a b) := by
  unfold binR
  split
  · exact ok_nul 1
  rename_i hg
  have hr : vr a = true ∧ vr b = true := by
    rcases Decidable.not_not.1 hg with ⟨_, _, h1, h2⟩
    exact ⟨h1, h2⟩
  have va' := (vr_iff a).1 hr.1
  have vb' := (vr_iff b).1 hr.2
  split
  · unfold truR
    repeat' split
    all_goals first | exact ok_of _ | exact ok_nul _
  split
  · exact ok_nul 0
  split
  · unfold intsR
    repeat' split
    all_goals first | exact ok_whole _ _ | exact ok_cmp _ _
  obtain ⟨ak, an, am, ab⟩ := a
  obtain ⟨bk, bn, bm, bb⟩ := b
  simp only [vok] at va' vb'
  split
  · rename_i hn
    simp only [isn] at hn
    have sa : 0 ≤ am ∧ am ≤ 6 := by omega
    have sb : 0 ≤ bm ∧ bm ≤ 6 := by omega
    unfold numsR
    have g1 : 0 ≤ gsc am bm ∧ gsc am bm ≤ 6 := by unfold gsc; split <;> omega
    have g2 : 0 ≤ psc am bm ∧ psc am bm ≤ 6 := by unfold psc; split <;> omega
    repeat' split
    all_goals first | exact ok_dec _ _ g1 | exact ok_dec _ _ g2 | exact ok_dec _ _ ⟨by decide, by decide⟩ | exact ok_nul _ | exact ok_cmp _ _
  split
  · rename_i h5
    simp only at h5
    have pa : (-1048576 ≤ an ∧ an ≤ 1048576) ∧ (-1048576 ≤ am ∧ am ≤ 1048576) := by omega
    have pb : (-1048576 ≤ bn ∧ bn ≤ 1048576) ∧ (-1048576 ≤ bm ∧ bm ≤ 1048576) := by omega
    have q1 : ¬ (bn = 0 ∧ bm = 0) → okR (vP (Ga.qX an am bn bm) (Ga.qY an am bn bm), 0) := fun hz => by
      have := Ga.quo_ok an am bn bm pa.1 pa.2 (Ga.norm_pos hz)
      exact ok_pt _ _ ((Ga.ok2_iff _ _).2 ⟨this.1.1, this.1.2, this.2.1, this.2.2⟩)
    have q2 : ¬ (bn = 0 ∧ bm = 0) → okR (vP (Ga.rX an am bn bm) (Ga.rY an am bn bm), 0) := fun hz => by
      have := Ga.rest_ok an am bn bm pb.1 pb.2 (Ga.norm_pos hz)
      exact ok_pt _ _ ((Ga.ok2_iff _ _).2 ⟨this.1.1, this.1.2, this.2.1, this.2.2⟩)
    unfold ptsR
    simp only
    by_cases hz : bn = 0 ∧ bm = 0
    · rw [if_pos hz, if_pos hz]
      repeat' split
      all_goals first | exact ok_ptR _ _ | exact ok_nul _ | exact ok_cmp _ _
    · rw [if_neg hz, if_neg hz]
      repeat' split
      all_goals first | exact ok_ptR _ _ | exact q1 hz | exact q2 hz | exact ok_cmp _ _
  split
  · rename_i h3
    simp only at h3
    unfold txtR
    simp only
    split
    · split
      · exact ok_nul 32
      · rename_i ho
        refine ⟨vr_of ?_, .inl rfl⟩
        have ga : Lib.validD ab = true := by rcases va' with h | h | h | h | h | h <;> first | omega | exact h.2.2.2.2
        have gb : Lib.validD bb = true := by rcases vb' with h | h | h | h | h | h <;> first | omega | exact h.2.2.2.2
        have := validD_append ab.length ab bb (Nat.le_refl _) ga gb
        simp [vok, vT, this]
        omega
    · exact ok_cmp _ _
  split
  · exact ok_cmp _ _
  · exact ok_nul 31

theorem ok_un (op : Int) (a : Va) : okR (unR op a) := by
  unfold unR
  split
  · exact ok_nul 1
  rename_i hg
  have hr : vr a = true := (Decidable.not_not.1 hg).2.2
  have va' := (vr_iff a).1 hr
  split
  · exact ok_bool _
  split
  · unfold notR
    split
    · exact ok_of _
    · exact ok_nul _
  obtain ⟨ak, an, am, ab⟩ := a
  simp only [vok] at va'
  unfold negR
  simp only
  split
  · exact ok_nul 0
  split
  · exact ok_whole _ _
  split
  · exact ok_dec _ _ (by omega)
  split
  · exact ok_pt _ _ ((Ga.ok2_iff _ _).2 (by omega))
  · exact ok_nul 31

end Go.Proofs.YtclhmmgdhagloaaGreatDoor

namespace Go.Proofs.YtclhmmgdhagloaaGreatDoor
open Go.RowKit Go.Shelf
attribute [local go_sem] cell?_more frozen?_more setCell_more more_lt more_more more_drew more_drewN setCell_drewN alloc_drewN

def ptAtR (x y : Int) : Va × Int := if Ga.ok2 x y = true then (vP x y, 0) else (nul, 32)
set_option maxHeartbeats 1000000 in
theorem qpointAt_any (x y : Int) (w : World) : Calls Tryz.prog 167 #[dv x y] w fun e w' => e = .returned (rs (ptAtR x y)) ∧ Grew w w' := by
  have R := fun W => Ga.right_any x y W
  have H := fun W => qplaced_any x y 0 W
  unfold ptAtR
  cases h : Ga.ok2 x y
  · rw [h] at R
    rw [if_neg (by simp)]
    clear h H
    go_enter Tryz.func167, Tryz.ntmps167
    go_wp2_with (go_at_call 189; refine (R _).mono ?_; rintro e w1 ⟨rfl, os1, n1, rfl⟩)
    refine bodyPost_ret_by (v := rs (nul, 32)) ?_ rfl ⟨rfl, (by repeat (first | assumption | exact Grew.refl _ | apply Grew.drew | apply Grew.drewN | apply Grew.alloc | apply Grew.more))⟩
    simp [results, Tryz.results167, go_sem, nul]
  · rw [h] at R
    rw [if_pos rfl]
    clear h
    go_enter Tryz.func167, Tryz.ntmps167
    go_wp2_with (first
      | (go_at_call 189; refine (R _).mono ?_; rintro e w1 ⟨rfl, os1, n1, rfl⟩)
      | (go_at_call 156; refine (H _).mono ?_; rintro e w1 ⟨rfl, os2, n2, rfl⟩))
    refine bodyPost_ret_by (v := rs (vP x y, 0)) ?_ rfl ⟨rfl, (by repeat (first | assumption | exact Grew.refl _ | apply Grew.drew | apply Grew.drewN | apply Grew.alloc | apply Grew.more))⟩
    simp [results, Tryz.results167, go_sem, placedR]

def rndR (u s t : Int) : Va × Int := if rightS t = true then exactR (rU u s t) (rS u s t) (rE u s t) else (nul, 32)
set_option maxHeartbeats 1000000 in
theorem qrounded_any (u s t : Int) (w : World) (hP : Pw w) (u0 : -9223372036854775808 ≤ u) (u1 : u ≤ 9223372036854775807) : Calls Tryz.prog 168 #[dv u s, .int .i64 t] w fun e w' => e = .returned (rs (rndR u s t)) ∧ Grew w w' := by
  have R := fun W => right_any 0 t W
  have C : ∀ W, Grew w W → _ := fun W (h : Grew w W) => rescale_any u s t W (hP.later h) u0 u1
  have H := fun W => qexact_any (rU u s t) (rS u s t) (rE u s t) W
  clear hP u0 u1
  unfold rndR
  cases h : rightS t
  · rw [h] at R
    rw [if_neg (by simp)]
    clear h H C
    go_enter Tryz.func168, Tryz.ntmps168
    go_wp2_with (go_at_call 201; refine (R _).mono ?_; rintro e w1 ⟨rfl, os1, n1, rfl⟩)
    refine bodyPost_ret_by (v := rs (nul, 32)) ?_ rfl ⟨rfl, (by repeat (first | assumption | exact Grew.refl _ | apply Grew.drew | apply Grew.drewN | apply Grew.alloc | apply Grew.more))⟩
    simp [results, Tryz.results168, go_sem, nul]
  · rw [h] at R
    rw [if_pos rfl]
    clear h
    go_enter Tryz.func168, Tryz.ntmps168
    go_wp2_with (first
      | (go_at_call 201; refine (R _).mono ?_; rintro e w1 ⟨rfl, os1, n1, rfl⟩)
      | (go_at_call 222; refine (C _ (by repeat (first | assumption | exact Grew.refl _ | apply Grew.drew | apply Grew.drewN | apply Grew.alloc | apply Grew.more))).mono ?_; rintro e w1 ⟨rfl, os2, n2, rfl⟩)
      | (go_at_call 149; refine (H _).mono ?_; rintro e w1 ⟨rfl, os3, n3, rfl⟩))
    refine bodyPost_ret_by (v := rs (exactR (rU u s t) (rS u s t) (rE u s t))) ?_ rfl ⟨rfl, (by repeat (first | assumption | exact Grew.refl _ | apply Grew.drew | apply Grew.drewN | apply Grew.alloc | apply Grew.more))⟩
    simp [results, Tryz.results168, go_sem]

/-- The functions' names. -/
def sLength : List UInt8 := [108, 101, 110, 103, 116, 104]
def sAbs : List UInt8 := [97, 98, 115]
def sNorm : List UInt8 := [110, 111, 114, 109]
def sPx : List UInt8 := [112, 120]
def sPy : List UInt8 := [112, 121]
def sPoint : List UInt8 := [112, 111, 105, 110, 116]
def sRound : List UInt8 := [114, 111, 117, 110, 100]
def sCoalesce : List UInt8 := [99, 111, 97, 108, 101, 115, 99, 101]
/-- Is there such a function, of so many? -/
def isF (nm : List UInt8) (n : Nat) : Bool :=
  if nm = sLength ∨ nm = sAbs ∨ nm = sNorm ∨ nm = sPx ∨ nm = sPy then n == 1 else if nm = sPoint ∨ nm = sRound then n == 2 else if nm = sCoalesce then decide (1 ≤ n ∧ n ≤ 4) else false

theorem isf_length (c : Int) (w : World) : Calls Tryz.prog 85 #[.string ⟨#[108, 101, 110, 103, 116, 104]⟩, .int .i64 c] w fun e w' => e = .returned (.bool (c == 1)) ∧ w = w' := by
  go_enter Tryz.func85, Tryz.ntmps85
  go_wp2
  all_goals go_ret
  all_goals exact ⟨rfl, rfl⟩

theorem isf_abs (c : Int) (w : World) : Calls Tryz.prog 85 #[.string ⟨#[97, 98, 115]⟩, .int .i64 c] w fun e w' => e = .returned (.bool (c == 1)) ∧ w = w' := by
  go_enter Tryz.func85, Tryz.ntmps85
  go_wp2
  all_goals go_ret
  all_goals exact ⟨rfl, rfl⟩

theorem isf_norm (c : Int) (w : World) : Calls Tryz.prog 85 #[.string ⟨#[110, 111, 114, 109]⟩, .int .i64 c] w fun e w' => e = .returned (.bool (c == 1)) ∧ w = w' := by
  go_enter Tryz.func85, Tryz.ntmps85
  go_wp2
  all_goals go_ret
  all_goals exact ⟨rfl, rfl⟩

theorem isf_px (c : Int) (w : World) : Calls Tryz.prog 85 #[.string ⟨#[112, 120]⟩, .int .i64 c] w fun e w' => e = .returned (.bool (c == 1)) ∧ w = w' := by
  go_enter Tryz.func85, Tryz.ntmps85
  go_wp2
  all_goals go_ret
  all_goals exact ⟨rfl, rfl⟩

theorem isf_py (c : Int) (w : World) : Calls Tryz.prog 85 #[.string ⟨#[112, 121]⟩, .int .i64 c] w fun e w' => e = .returned (.bool (c == 1)) ∧ w = w' := by
  go_enter Tryz.func85, Tryz.ntmps85
  go_wp2
  all_goals go_ret
  all_goals exact ⟨rfl, rfl⟩

theorem isf_point (c : Int) (w : World) : Calls Tryz.prog 85 #[.string ⟨#[112, 111, 105, 110, 116]⟩, .int .i64 c] w fun e w' => e = .returned (.bool (c == 2)) ∧ w = w' := by
  go_enter Tryz.func85, Tryz.ntmps85
  go_wp2
  all_goals go_ret
  all_goals exact ⟨rfl, rfl⟩

theorem isf_round (c : Int) (w : World) : Calls Tryz.prog 85 #[.string ⟨#[114, 111, 117, 110, 100]⟩, .int .i64 c] w fun e w' => e = .returned (.bool (c == 2)) ∧ w = w' := by
  go_enter Tryz.func85, Tryz.ntmps85
  go_wp2
  all_goals go_ret
  all_goals exact ⟨rfl, rfl⟩

theorem isf_coal_lo (c : Int) (w : World) (h : ¬ (1 : Int) ≤ c) : Calls Tryz.prog 85 #[.string ⟨#[99, 111, 97, 108, 101, 115, 99, 101]⟩, .int .i64 c] w fun e w' => e = .returned (.bool false) ∧ w = w' := by
  go_enter Tryz.func85, Tryz.ntmps85
  go_wp2
  all_goals go_ret
  all_goals exact ⟨rfl, rfl⟩

theorem isf_coal_hi (c : Int) (w : World) (h0 : (1 : Int) ≤ c) (h : ¬ c ≤ 4) : Calls Tryz.prog 85 #[.string ⟨#[99, 111, 97, 108, 101, 115, 99, 101]⟩, .int .i64 c] w fun e w' => e = .returned (.bool false) ∧ w = w' := by
  go_enter Tryz.func85, Tryz.ntmps85
  go_wp2
  all_goals go_ret
  all_goals exact ⟨rfl, rfl⟩

theorem isf_coal_ok (c : Int) (w : World) (h0 : (1 : Int) ≤ c) (h : c ≤ 4) : Calls Tryz.prog 85 #[.string ⟨#[99, 111, 97, 108, 101, 115, 99, 101]⟩, .int .i64 c] w fun e w' => e = .returned (.bool true) ∧ w = w' := by
  go_enter Tryz.func85, Tryz.ntmps85
  go_wp2
  all_goals go_ret
  all_goals exact ⟨rfl, rfl⟩

theorem isf_other (B : ByteArray) (c : Int) (w : World) (e0 : (B.toList == [108, 101, 110, 103, 116, 104]) = false) (e1 : (B.toList == [97, 98, 115]) = false) (e2 : (B.toList == [110, 111, 114, 109]) = false) (e3 : (B.toList == [112, 120]) = false) (e4 : (B.toList == [112, 121]) = false) (e5 : (B.toList == [112, 111, 105, 110, 116]) = false) (e6 : (B.toList == [114, 111, 117, 110, 100]) = false) (e7 : (B.toList == [99, 111, 97, 108, 101, 115, 99, 101]) = false) : Calls Tryz.prog 85 #[.string B, .int .i64 c] w fun e w' => e = .returned (.bool false) ∧ w = w' := by
  go_enter Tryz.func85, Tryz.ntmps85
  go_wp2
  all_goals go_ret
  all_goals exact ⟨rfl, rfl⟩
end Go.Proofs.YtclhmmgdhagloaaGreatDoor

namespace Go.Proofs.YtclhmmgdhagloaaGreatDoor
open Go.RowKit Go.Shelf
attribute [local go_sem] cell?_more frozen?_more setCell_more more_lt more_more more_drew more_drewN setCell_drewN alloc_drewN cell?_drawTo frozen?_drawTo heap_drawTo setCell_drawTo alloc_drawTo drewN_drawTo drew_drawTo drawTo_drewN drawTo_drew drawTo_drawTo more_drawTo

set_option maxHeartbeats 1000000 in
theorem qapart_any (k n m : Int) (B : ByteArray) (w : World) (hB : B.size ≤ 140737488351232) : Calls Tryz.prog 50 #[va k n m B] w fun e w' => e = .returned (va k n m B) ∧ Below w.heap.size w w' := by
  have C := fun W => clone_any B W hB
  clear hB
  go_enter Tryz.func50, Tryz.ntmps50
  go_wp2_with (go_at_call 38; refine (C _).mono ?_; rintro e wc ⟨rfl, bc⟩; obtain ⟨osc, dc, rfl⟩ := wide bc; clear bc)
  refine bodyPost_ret_by (v := va k n m B) ?_ rfl ⟨rfl, Grown.below (by repeat (first | assumption | exact Grown.refl _ | apply Grown.drew | apply Grown.drewN | apply Grown.alloc | apply Grown.more | apply Grown.drawTo))⟩
  simp [results, Tryz.results50, go_sem]

/-- The first that is not null. -/
def firstK : List Va → Va
  | [] => nul
  | x :: l => if (x.k == 0) = true then firstK l else x

set_option maxHeartbeats 1000000 in
theorem qfirst_any (ao : Option Addr) (cap : Nat) (l : List Va) (w : World) (hv : Vs w ao l) (hl : l.length ≤ 9223372036854775807) (hb : ∀ x ∈ l, x.b.length ≤ 140737488351232) :
    Calls Tryz.prog 86 #[.slice ao l.length cap] w fun e w' => e = .returned (vv (firstK l)) ∧ Below w.heap.size w w' := by
  obtain ⟨E, hE⟩ : ∃ E, E = firstK l := ⟨_, rfl⟩
  rw [← hE]
  have HE : Hid (E = firstK (l.drop 0)) := hE
  obtain ⟨n, hn⟩ : ∃ n, l.length = n := ⟨_, rfl⟩
  rw [hn] at hl ⊢
  have HN : Hid (l.length = n) := hn
  clear hE hn
  obtain ⟨w0, hw0, bxr, Bw⟩ := res_box w
  go_enter Tryz.func86, Tryz.ntmps86
  go_upto_region 1 with fail
  rw [← hw0]
  clear hw0
  go_wp2
  replace hv := hv.later Bw
  go_loopw [7] (fun r wr => ∃ k : Nat, r = .int .i64 (k : Int) ∧ k ≤ n ∧ Below w0.heap.size w0 wr ∧ Hid (E = firstK (l.drop k))) (fun r _ => n - (intOf r).toNat)
  case atStart => exact ⟨0, rfl, Nat.zero_le _, Below.refl _ _, HE⟩
  case round =>
    obtain ⟨k, rfl, hk, hB, hA⟩ := hrel
    have sB := hB.size
    have br := bxr.later hB
    obtain ⟨r0, r1, r2, r3⟩ := br.at4
    dsimp only [nul] at r0 r1 r2 r3
    simp only [Nat.zero_add] at r1 r2 r3
    have f0 := br.free 0
    have f1 := br.free 1
    have f2 := br.free 2
    have f3 := br.free 3
    have lt1 := br.lt
    have Be := below_trans Bw hB
    by_cases hlt : k < n
    · have hlt' : (k : Int) < (n : Int) := by omega
      have hkl : k < l.length := by rw [HN.out]; exact hlt
      obtain ⟨b, off, rfl, hc⟩ := hv (by omega)
      obtain ⟨c0, c1, c2, c3⟩ := ((hc k (by omega)).later hB)
      have hg := (hc k (by omega)).lt
      have hg' : b < wr.heap.size := by omega
      have hdr : l.drop k = l[k] :: l.drop (k + 1) := List.drop_eq_getElem_cons hkl
      have hlen := hb l[k] (List.getElem_mem _)
      obtain ⟨⟨vk, vn, vm, vb⟩, he⟩ : ∃ v : Va, v = l[k] := ⟨_, rfl⟩
      rw [← he] at c0 c1 c2 c3 hdr hlen
      have HST : Hid (E = firstK (⟨vk, vn, vm, vb⟩ :: l.drop (k + 1))) := by
        show E = _
        rw [hA.out, hdr]
      have A := fun W => qapart_any vk vn vm ⟨vb.toArray⟩ W (by show vb.toArray.size ≤ _; simpa using hlen)
      clear hc he hdr hA hlen br bxr HE
      by_cases hz : vk = 0
      · subst hz
        go_wp2
        go_roundw
        case rel => exact ⟨k + 1, by go_num, by omega, below_trans hB (Grew.below (by repeat (first | assumption | exact Grew.refl _ | apply Grew.drew | apply Grew.drewN | apply Grew.alloc | apply Grew.more))), HST.out⟩
        case measure => simp [intOf]; omega
      · have hz' : (vk != 0) = true := by simpa using hz
        have hE' : E = ⟨vk, vn, vm, vb⟩ := by
          have := HST.out
          rw [firstK, if_neg (by simpa using hz)] at this
          exact this
        subst hE'
        clear HST
        go_wp2_with (go_at_call 50; refine (A _).mono ?_; rintro e wc ⟨rfl, bc⟩; obtain ⟨osc, dc, rfl⟩ := wide bc; clear bc)
        refine bodyPost_ret_by (v := va vk vn vm ⟨vb.toArray⟩) ?_ rfl ⟨rfl, ?_⟩
        · simp [results, Tryz.results86, go_sem, r0, r1, r2, r3, lt1]
        · refine below_trans (Be.setCell (p := ⟨w.heap.size, 0, none⟩) (Nat.le_refl _) (.int .i64 vk) |>.setCell (p := ⟨w.heap.size, 1, none⟩) (Nat.le_refl _) (.int .i64 vn) |>.setCell (p := ⟨w.heap.size, 2, none⟩) (Nat.le_refl _) (.int .i64 vm) |>.setCell (p := ⟨w.heap.size, 3, none⟩) (Nat.le_refl _) (.string ⟨vb.toArray⟩)) (Grown.below ?_)
          repeat (first | assumption | exact Grown.refl _ | apply Grown.drew | apply Grown.drewN | apply Grown.alloc | apply Grown.more | apply Grown.drawTo)
    · have hlt' : ¬ (k : Int) < (n : Int) := by omega
      have hE' : E = nul := by
        rw [hA.out, List.drop_eq_nil_of_le (by rw [HN.out]; omega)]; rfl
      subst hE'
      clear hA HE
      go_wp2
      refine bodyPost_ret_by (v := vv nul) ?_ rfl ⟨rfl, (Be.setCell (p := ⟨w.heap.size, 0, none⟩) (Nat.le_refl _) _ |>.setCell (p := ⟨w.heap.size, 1, none⟩) (Nat.le_refl _) _ |>.setCell (p := ⟨w.heap.size, 2, none⟩) (Nat.le_refl _) _ |>.setCell (p := ⟨w.heap.size, 3, none⟩) (Nat.le_refl _) _)⟩
      simp [results, Tryz.results86, go_sem, r0, r1, r2, r3, nul]

set_option maxRecDepth 20000 in
set_option maxHeartbeats 4000000 in
theorem qsize_walk (ak an am : Int) (ab : List UInt8) (bk bn bm be : Int) (bb : List UInt8) (c : Int) (w : World) (U : Tells 90 #[.int .i64 3, va ak an am ⟨ab.toArray⟩] w (.tuple #[va bk bn bm ⟨bb.toArray⟩, .int .i64 be]))
    (C : be = 0 → ∀ W, Below w.heap.size w W → Calls Tryz.prog 154 #[dv an am, dv bn bm] W fun e w' => e = .returned (.int .i64 c) ∧ Grew W w') (r : Va × Int) (hr : Hid (r = if be = 0 then (if c < 0 then (⟨bk, bn, bm, bb⟩, 0) else (⟨ak, an, am, ab⟩, 0)) else (nul, be))) :
    Calls Tryz.prog 165 #[va ak an am ⟨ab.toArray⟩] w fun e w' => e = .returned (rs r) ∧ Below w.heap.size w w' := by
  obtain ⟨w0, hw0, bxa, bxr, G⟩ := one_boxes w ⟨ak, an, am, ab⟩
  dsimp only at hw0
  have UU := fun k n m b W => qunits_any k n m b W
  replace U := U.later G
  have ha := bxa.at4
  have C' : Hid (be = 0 → ∀ W, Below w0.heap.size w0 W → Calls Tryz.prog 154 #[dv an am, dv bn bm] W fun e w' => e = .returned (.int .i64 c) ∧ Grew W w') := fun h W hW => C h W (below_trans G hW)
  clear C
  go_enter Tryz.func165, Tryz.ntmps165
  go_upto_region 1 with fail
  rw [← hw0]
  clear hw0
  obtain ⟨k0a, k0b, k0c, k0d⟩ := id ha
  have k0l := ha.lt
  simp only [Nat.zero_add] at k0b k0c k0d
  go_cut [4, 5] from 6 (fun s0 s1 wx => ∃ p : Nat, s0 = .pointer (some ⟨p, 0, none⟩) ∧ s1 = .int .i64 be ∧ At4 wx p 0 ⟨bk, bn, bm, bb⟩ ∧ Below w0.heap.size w0 wx)
  case first =>
    clear UU C' hr
    go_wp2_with (first
      | (go_at_call 90; refine (U _ (Grown.below (by repeat (first | assumption | exact Grown.refl _ | apply Grown.drew | apply Grown.drewN | apply Grown.alloc | apply Grown.more | apply Grown.drawTo)))).mono ?_; rintro e wc ⟨rfl, bc⟩; obtain ⟨osc, dc, rfl⟩ := wide bc; clear bc))
    all_goals go_meet
    all_goals exact ⟨_, rfl, rfl, ⟨by simp (maxDischargeDepth := 12) [go_sem], by simp (maxDischargeDepth := 12) [go_sem], by simp (maxDischargeDepth := 12) [go_sem], by simp (maxDischargeDepth := 12) [go_sem]⟩, Grown.below (by repeat (first | assumption | exact Grown.refl _ | apply Grown.drew | apply Grown.drewN | apply Grown.alloc | apply Grown.more | apply Grown.drawTo))⟩
  rename World => v1
  obtain ⟨p1, rfl, rfl, hp1, gv1⟩ := hcut
  clear k0a k0b k0c k0d k0l
  replace ha := ha.later gv1
  replace U := U.later gv1
  have br := bxr.later gv1
  have C1 : Hid (be = 0 → ∀ W, Grew v1 W → Calls Tryz.prog 154 #[dv an am, dv bn bm] W fun e w' => e = .returned (.int .i64 c) ∧ Grew W w') := fun h W hW => C'.out h W (below_trans gv1 hW.below)
  replace G := below_trans G gv1
  clear gv1 C' U bxa bxr
  obtain ⟨r0, r1, r2, r3⟩ := br.at4
  dsimp only [nul] at r0 r1 r2 r3
  simp only [Nat.zero_add] at r1 r2 r3
  have f0 := br.free 0
  have f1 := br.free 1
  have f2 := br.free 2
  have f3 := br.free 3
  have lt1 := br.lt
  obtain ⟨A0, A1, A2, A3⟩ := id ha
  have Al := ha.lt
  obtain ⟨B0, B1, B2, B3⟩ := id hp1
  have Bl := hp1.lt
  dsimp only at A0 A1 A2 A3 B0 B1 B2 B3
  simp only [Nat.zero_add] at A1 A2 A3 B1 B2 B3
  clear br ha hp1
  by_cases hz : be = 0
  · subst hz
    have C := C1.out rfl
    have hr' := hr.out
    rw [if_pos rfl] at hr'
    clear C1 hr
    by_cases hc : c < 0
    · rw [if_pos hc] at hr'
      subst hr'
      go_wp2_with fail
      go_region_held2 (fun W => W.cell? ⟨w.heap.size, 0, none⟩ = some (.int .i64 ak) ∧ W.cell? ⟨w.heap.size, 1, none⟩ = some (.int .i64 an) ∧ W.cell? ⟨w.heap.size, 2, none⟩ = some (.int .i64 am) ∧ W.cell? ⟨w.heap.size, 3, none⟩ = some (.string ⟨ab.toArray⟩) ∧
          W.cell? ⟨p1, 0, none⟩ = some (.int .i64 bk) ∧ W.cell? ⟨p1, 1, none⟩ = some (.int .i64 bn) ∧ W.cell? ⟨p1, 2, none⟩ = some (.int .i64 bm) ∧ W.cell? ⟨p1, 3, none⟩ = some (.string ⟨bb.toArray⟩)) (simp (maxDischargeDepth := 12) [go_sem, A0, A1, A2, A3, B0, B1, B2, B3, Al, Bl]) (first
        | (go_at_call 80; refine (UU _ _ _ _ _).mono ?_; rintro e wc ⟨rfl, os1, n1, rfl⟩)
        | (go_at_call 154; refine (C _ (by repeat (first | assumption | exact Grew.refl _ | apply Grew.drew | apply Grew.drewN | apply Grew.alloc | apply Grew.more))).mono ?_; rintro e wc ⟨rfl, os2, n2, rfl⟩))
      go_wp2
      refine bodyPost_ret_by (v := rs (⟨bk, bn, bm, bb⟩, 0)) ?_ rfl ⟨rfl, ?_⟩
      · simp [results, Tryz.results165, go_sem, r0, r1, r2, r3, lt1]
      · refine below_trans (G.setCell (p := ⟨w.heap.size + 1, 0, none⟩) (by dsimp only; omega) (.int .i64 bk) |>.setCell (p := ⟨w.heap.size + 1, 1, none⟩) (by dsimp only; omega) (.int .i64 bn) |>.setCell (p := ⟨w.heap.size + 1, 2, none⟩) (by dsimp only; omega) (.int .i64 bm) |>.setCell (p := ⟨w.heap.size + 1, 3, none⟩) (by dsimp only; omega) (.string ⟨bb.toArray⟩)) (Grew.below ?_)
        repeat (first | assumption | exact Grew.refl _ | apply Grew.drew | apply Grew.drewN | apply Grew.alloc | apply Grew.more)
    · rw [if_neg hc] at hr'
      subst hr'
      go_wp2_with fail
      go_region_held2 (fun W => W.cell? ⟨w.heap.size, 0, none⟩ = some (.int .i64 ak) ∧ W.cell? ⟨w.heap.size, 1, none⟩ = some (.int .i64 an) ∧ W.cell? ⟨w.heap.size, 2, none⟩ = some (.int .i64 am) ∧ W.cell? ⟨w.heap.size, 3, none⟩ = some (.string ⟨ab.toArray⟩) ∧
          W.cell? ⟨p1, 0, none⟩ = some (.int .i64 bk) ∧ W.cell? ⟨p1, 1, none⟩ = some (.int .i64 bn) ∧ W.cell? ⟨p1, 2, none⟩ = some (.int .i64 bm) ∧ W.cell? ⟨p1, 3, none⟩ = some (.string ⟨bb.toArray⟩)) (simp (maxDischargeDepth := 12) [go_sem, A0, A1, A2, A3, B0, B1, B2, B3, Al, Bl]) (first
        | (go_at_call 80; refine (UU _ _ _ _ _).mono ?_; rintro e wc ⟨rfl, os1, n1, rfl⟩)
        | (go_at_call 154; refine (C _ (by repeat (first | assumption | exact Grew.refl _ | apply Grew.drew | apply Grew.drewN | apply Grew.alloc | apply Grew.more))).mono ?_; rintro e wc ⟨rfl, os2, n2, rfl⟩))
      go_wp2
      refine bodyPost_ret_by (v := rs (⟨ak, an, am, ab⟩, 0)) ?_ rfl ⟨rfl, ?_⟩
      · simp [results, Tryz.results165, go_sem, r0, r1, r2, r3, lt1]
      · refine below_trans (G.setCell (p := ⟨w.heap.size + 1, 0, none⟩) (by dsimp only; omega) (.int .i64 ak) |>.setCell (p := ⟨w.heap.size + 1, 1, none⟩) (by dsimp only; omega) (.int .i64 an) |>.setCell (p := ⟨w.heap.size + 1, 2, none⟩) (by dsimp only; omega) (.int .i64 am) |>.setCell (p := ⟨w.heap.size + 1, 3, none⟩) (by dsimp only; omega) (.string ⟨ab.toArray⟩)) (Grew.below ?_)
        repeat (first | assumption | exact Grew.refl _ | apply Grew.drew | apply Grew.drewN | apply Grew.alloc | apply Grew.more)
  · have hr' := hr.out
    rw [if_neg hz] at hr'
    subst hr'
    have hz' : (be != 0) = true := by simpa using hz
    clear C1 hr
    go_wp2
    refine bodyPost_ret_by (v := rs (nul, be)) ?_ rfl ⟨rfl, ?_⟩
    · simp [results, Tryz.results165, go_sem, r0, r1, r2, r3, nul]
    · refine below_trans (G.setCell (p := ⟨w.heap.size + 1, 0, none⟩) (by dsimp only; omega) (.int .i64 0) |>.setCell (p := ⟨w.heap.size + 1, 1, none⟩) (by dsimp only; omega) (.int .i64 0) |>.setCell (p := ⟨w.heap.size + 1, 2, none⟩) (by dsimp only; omega) (.int .i64 0) |>.setCell (p := ⟨w.heap.size + 1, 3, none⟩) (by dsimp only; omega) (.string ⟨#[]⟩)) (Grew.below ?_)
      repeat (first | assumption | exact Grew.refl _ | apply Grew.drew | apply Grew.drewN | apply Grew.alloc | apply Grew.more)
end Go.Proofs.YtclhmmgdhagloaaGreatDoor

namespace Go.Proofs.YtclhmmgdhagloaaGreatDoor
open Go.RowKit Go.Shelf
attribute [local go_sem] cell?_more frozen?_more setCell_more more_lt more_more more_drew more_drewN setCell_drewN alloc_drewN cell?_drawTo frozen?_drawTo heap_drawTo setCell_drawTo alloc_drawTo drewN_drawTo drew_drawTo drawTo_drewN drawTo_drew drawTo_drawTo more_drawTo

set_option maxRecDepth 20000 in
set_option maxHeartbeats 2000000 in
theorem called_length_no (ak : Int) (bl off cap : Nat) (an am : Int) (ab : List UInt8) (w : World) (hg : bl < w.heap.size) (c0 : w.cell? ⟨bl, off, none⟩ = some (.int .i64 ak)) (c1 : w.cell? ⟨bl, off + 1, none⟩ = some (.int .i64 an)) (c2 : w.cell? ⟨bl, off + 2, none⟩ = some (.int .i64 am)) (c3 : w.cell? ⟨bl, off + 3, none⟩ = some (.string ⟨ab.toArray⟩)) (e3 : (ak == 3) = false)
    :
    Calls Tryz.prog 88 #[.string ⟨#[108, 101, 110, 103, 116, 104]⟩, .slice (some ⟨bl, off, none⟩) 1 cap] w fun e w' => e = .returned (.tuple #[va 0 0 0 ⟨#[]⟩, .int .i64 31]) ∧ Below w.heap.size w w' := by
  obtain ⟨w0, hw0, bxr, Bw⟩ := res_box w
  have z0 : IntKind.i64.wrap 0 = 0 := by rw [IntKind.wrap_i64]; rfl
  go_enter Tryz.func88, Tryz.ntmps88
  go_wp2_with fail
  rw [← hw0]
  clear hw0
  rw [← Bw.cell (p := ⟨bl, off, none⟩) hg] at c0
  rw [← Bw.cell (p := ⟨bl, off + 1, none⟩) hg] at c1
  rw [← Bw.cell (p := ⟨bl, off + 2, none⟩) hg] at c2
  rw [← Bw.cell (p := ⟨bl, off + 3, none⟩) hg] at c3
  replace hg : bl < w0.heap.size := Nat.lt_of_lt_of_le hg Bw.size
  go_cut [6, 7] from 8 (fun s0 s1 wx => ∃ p q : Nat, s0 = .pointer (some ⟨p, 0, none⟩) ∧ s1 = .pointer (some ⟨q, 0, none⟩) ∧ (wx.cell? ⟨p, 0, none⟩ = some (.int .i64 ak) ∧ wx.cell? ⟨p, 1, none⟩ = some (.int .i64 an) ∧ wx.cell? ⟨p, 2, none⟩ = some (.int .i64 am) ∧ wx.cell? ⟨p, 3, none⟩ = some (.string ⟨ab.toArray⟩)) ∧ (wx.cell? ⟨q, 0, none⟩ = some (.int .i64 ak) ∧ wx.cell? ⟨q, 1, none⟩ = some (.int .i64 an) ∧ wx.cell? ⟨q, 2, none⟩ = some (.int .i64 am) ∧ wx.cell? ⟨q, 3, none⟩ = some (.string ⟨ab.toArray⟩)) ∧ w0.heap.size ≤ p ∧ w0.heap.size ≤ q ∧ Grew w0 wx)
  case first =>
    refine wp_region_held_drew (S := (fun W => W.cell? ⟨bl, off, none⟩ = some (.int .i64 ak) ∧ W.cell? ⟨bl, off + 1, none⟩ = some (.int .i64 an) ∧ W.cell? ⟨bl, off + 2, none⟩ = some (.int .i64 am) ∧ W.cell? ⟨bl, off + 3, none⟩ = some (.string ⟨ab.toArray⟩))) (by kernel_rfl) ?_ (fun hHeld => ?_)
    · ((try dsimp only); (simp (maxDischargeDepth := 12) [go_sem, c0, c1, c2, c3]))
    refine wpAnyH_take (i := 0) (oi := qcO0) (v := ?_) rfl (by kernel_rfl) (by kernel_rfl) (by kernel_rfl) (fun _ _ _ h => h) (Or.inl ⟨by rfl, ?_⟩) (by assumption) ?_
    rotate_left
    · (intro W hSw; (try dsimp only at hSw); try simp only [qcO0]; first | (go_simp; done) | (go_simp; with_reducible rfl))
    try simp only [qcO0, Act.put, List.setIfInBounds_toArray, List.set_cons_zero, List.set_cons_succ]
    refine wpAnyH_take (i := 1) (oi := qcO1) (v := ?_) rfl (by kernel_rfl) (by kernel_rfl) (by kernel_rfl) (fun _ _ _ h => h) (Or.inl ⟨by rfl, ?_⟩) (by assumption) ?_
    rotate_left
    · (intro W hSw; (try dsimp only at hSw); try simp only [qcO1]; first | (go_simp; done) | (go_simp; with_reducible rfl))
    try simp only [qcO1, Act.put, List.setIfInBounds_toArray, List.set_cons_zero, List.set_cons_succ]
    refine wpAnyH_take (i := 2) (oi := qcO2) (v := ?_) rfl (by kernel_rfl) (by kernel_rfl) (by kernel_rfl) (fun _ _ _ h => h) (Or.inl ⟨by rfl, ?_⟩) (by assumption) ?_
    rotate_left
    · (intro W hSw; (try dsimp only at hSw); try simp only [qcO2]; first | (go_simp; done) | (go_simp; with_reducible rfl))
    try simp only [qcO2, Act.put, List.setIfInBounds_toArray, List.set_cons_zero, List.set_cons_succ]
    refine wpAnyH_take (i := 3) (oi := qcO3) (v := ?_) rfl (by kernel_rfl) (by kernel_rfl) (by kernel_rfl) (fun _ _ _ h => h) (Or.inl ⟨by rfl, ?_⟩) (by assumption) ?_
    rotate_left
    · (intro W hSw; (try dsimp only at hSw); try simp only [qcO3]; first | (go_simp; done) | (go_simp; with_reducible rfl))
    try simp only [qcO3, Act.put, List.setIfInBounds_toArray, List.set_cons_zero, List.set_cons_succ]
    refine wpAnyH_take (i := 4) (oi := qcO4) (v := ?_) rfl (by kernel_rfl) (by kernel_rfl) (by kernel_rfl) (fun _ _ _ h => h) (Or.inl ⟨by rfl, ?_⟩) (by assumption) ?_
    rotate_left
    · (intro W hSw; (try dsimp only at hSw); try simp only [qcO4]; first | (go_simp; done) | (go_simp; with_reducible rfl))
    try simp only [qcO4, Act.put, List.setIfInBounds_toArray, List.set_cons_zero, List.set_cons_succ]
    refine wpAnyH_take (i := 5) (oi := qcO5) (v := ?_) rfl (by kernel_rfl) (by kernel_rfl) (by kernel_rfl) (fun _ _ _ h => h) (Or.inl ⟨by rfl, ?_⟩) (by assumption) ?_
    rotate_left
    · (intro W hSw; (try dsimp only at hSw); try simp only [qcO5]; first | (go_simp; done) | (go_simp; with_reducible rfl))
    try simp only [qcO5, Act.put, List.setIfInBounds_toArray, List.set_cons_zero, List.set_cons_succ]
    refine wpAnyH_take (i := 6) (oi := qcO6) (v := ?_) rfl (by kernel_rfl) (by kernel_rfl) (by kernel_rfl) (fun _ _ _ h => h) (Or.inl ⟨by rfl, ?_⟩) (by assumption) ?_
    rotate_left
    · (intro W hSw; (try dsimp only at hSw); try simp only [qcO6]; first | (go_simp; done) | (go_simp; with_reducible rfl))
    try simp only [qcO6, Act.put, List.setIfInBounds_toArray, List.set_cons_zero, List.set_cons_succ]
    refine wpAnyH_take (i := 7) (oi := qcO7) (v := ?_) rfl (by kernel_rfl) (by kernel_rfl) (by kernel_rfl) (fun _ _ _ h => h) (Or.inl ⟨by rfl, ?_⟩) (by assumption) ?_
    rotate_left
    · (intro W hSw; (try dsimp only at hSw); try simp only [qcO7]; first | (go_simp; done) | (go_simp; with_reducible rfl))
    try simp only [qcO7, Act.put, List.setIfInBounds_toArray, List.set_cons_zero, List.set_cons_succ]
    refine wpAnyH_take (i := 8) (oi := qcO8) (v := ?_) rfl (by kernel_rfl) (by kernel_rfl) (by kernel_rfl) (fun _ _ _ h => h) (Or.inl ⟨by rfl, ?_⟩) (by assumption) ?_
    rotate_left
    · (intro W hSw; (try dsimp only at hSw); try simp only [qcO8]; first | (go_simp; done) | (go_simp; with_reducible rfl))
    try simp only [qcO8, Act.put, List.setIfInBounds_toArray, List.set_cons_zero, List.set_cons_succ]
    refine wpAnyH_ready (rs := [9, 10]) (by kernel_rfl) (by simp) ?_
    refine AllReadyH.cons (o := qcO9) rfl (fun K hK => ?_) (AllReadyH.cons (o := qcO10) rfl (fun K hK => ?_) AllReadyH.nil)
    ·
      try simp only [qcO9]
      go_simp
      refine hK.out _ _ ?_ (fun hHeld => ?_)
      · ((try dsimp only); (simp (maxDischargeDepth := 12) [go_sem, c0, c1, c2, c3, hg]))
      clear hK K
      try simp only [Act.put, List.setIfInBounds_toArray, List.set_cons_zero, List.set_cons_succ]
      refine wpAnyH_ready (rs := [10]) (by kernel_rfl) (by simp) ?_
      refine AllReadyH.cons (o := qcO10) rfl (fun K hK => ?_) AllReadyH.nil
      try simp only [qcO10]
      go_simp
      refine hK.out _ _ ?_ (fun hHeld => ?_)
      · ((try dsimp only); (simp (maxDischargeDepth := 12) [go_sem, c0, c1, c2, c3, hg]))
      clear hK K
      try simp only [Act.put, List.setIfInBounds_toArray, List.set_cons_zero, List.set_cons_succ]
      refine wpAnyH_ready (rs := [11]) (by kernel_rfl) (by simp) ?_
      refine AllReadyH.cons (o := qcO11) rfl (fun K hK => ?_) AllReadyH.nil
      try simp only [qcO11]
      go_simp
      refine hK.out _ _ ?_ (fun hHeld => ?_)
      · ((try dsimp only); (simp (maxDischargeDepth := 12) [go_sem, c0, c1, c2, c3, hg]))
      clear hK K
      try simp only [Act.put, List.setIfInBounds_toArray, List.set_cons_zero, List.set_cons_succ]
      refine wpAnyH_ready (rs := [12]) (by kernel_rfl) (by simp) ?_
      refine AllReadyH.cons (o := qcO12) rfl (fun K hK => ?_) AllReadyH.nil
      try simp only [qcO12]
      go_simp
      refine hK.out _ _ ?_ (fun hHeld => ?_)
      · ((try dsimp only); (simp (maxDischargeDepth := 12) [go_sem, c0, c1, c2, c3, hg]))
      clear hK K
      try simp only [Act.put, List.setIfInBounds_toArray, List.set_cons_zero, List.set_cons_succ]
      refine wpAnyH_done (by kernel_rfl) ?_ _
      go_wp2_with fail
      go_meet
      exact ⟨_, _, rfl, rfl, ⟨by simp (maxDischargeDepth := 12) [go_sem], by simp (maxDischargeDepth := 12) [go_sem], by simp (maxDischargeDepth := 12) [go_sem], by simp (maxDischargeDepth := 12) [go_sem]⟩, ⟨by simp (maxDischargeDepth := 12) [go_sem], by simp (maxDischargeDepth := 12) [go_sem], by simp (maxDischargeDepth := 12) [go_sem], by simp (maxDischargeDepth := 12) [go_sem]⟩, by simp, by simp, (by repeat (first | assumption | exact Grew.refl _ | apply Grew.drew | apply Grew.drewN | apply Grew.alloc | apply Grew.more))⟩
    ·
      try simp only [qcO10]
      go_simp
      refine hK.out _ _ ?_ (fun hHeld => ?_)
      · ((try dsimp only); (simp (maxDischargeDepth := 12) [go_sem, c0, c1, c2, c3, hg]))
      clear hK K
      try simp only [Act.put, List.setIfInBounds_toArray, List.set_cons_zero, List.set_cons_succ]
      refine wpAnyH_ready (rs := [9]) (by kernel_rfl) (by simp) ?_
      refine AllReadyH.cons (o := qcO9) rfl (fun K hK => ?_) AllReadyH.nil
      try simp only [qcO9]
      go_simp
      refine hK.out _ _ ?_ (fun hHeld => ?_)
      · ((try dsimp only); (simp (maxDischargeDepth := 12) [go_sem, c0, c1, c2, c3, hg]))
      clear hK K
      try simp only [Act.put, List.setIfInBounds_toArray, List.set_cons_zero, List.set_cons_succ]
      refine wpAnyH_ready (rs := [11]) (by kernel_rfl) (by simp) ?_
      refine AllReadyH.cons (o := qcO11) rfl (fun K hK => ?_) AllReadyH.nil
      try simp only [qcO11]
      go_simp
      refine hK.out _ _ ?_ (fun hHeld => ?_)
      · ((try dsimp only); (simp (maxDischargeDepth := 12) [go_sem, c0, c1, c2, c3, hg]))
      clear hK K
      try simp only [Act.put, List.setIfInBounds_toArray, List.set_cons_zero, List.set_cons_succ]
      refine wpAnyH_ready (rs := [12]) (by kernel_rfl) (by simp) ?_
      refine AllReadyH.cons (o := qcO12) rfl (fun K hK => ?_) AllReadyH.nil
      try simp only [qcO12]
      go_simp
      refine hK.out _ _ ?_ (fun hHeld => ?_)
      · ((try dsimp only); (simp (maxDischargeDepth := 12) [go_sem, c0, c1, c2, c3, hg]))
      clear hK K
      try simp only [Act.put, List.setIfInBounds_toArray, List.set_cons_zero, List.set_cons_succ]
      refine wpAnyH_done (by kernel_rfl) ?_ _
      go_wp2_with fail
      go_meet
      exact ⟨_, _, rfl, rfl, ⟨by simp (maxDischargeDepth := 12) [go_sem], by simp (maxDischargeDepth := 12) [go_sem], by simp (maxDischargeDepth := 12) [go_sem], by simp (maxDischargeDepth := 12) [go_sem]⟩, ⟨by simp (maxDischargeDepth := 12) [go_sem], by simp (maxDischargeDepth := 12) [go_sem], by simp (maxDischargeDepth := 12) [go_sem], by simp (maxDischargeDepth := 12) [go_sem]⟩, by simp, by simp, (by repeat (first | assumption | exact Grew.refl _ | apply Grew.drew | apply Grew.drewN | apply Grew.alloc | apply Grew.more))⟩
  rename World => w1
  obtain ⟨p, q, rfl, rfl, ⟨p0, p1, p2, p3⟩, ⟨q0, q1, q2, q3⟩, gp, gq, g⟩ := hcut
  have lp := World.block_lt_of_cell? w1 _ p0
  have lq := World.block_lt_of_cell? w1 _ q0
  have B1 := g.below
  have br := bxr.later B1
  obtain ⟨r0, r1, r2, r3⟩ := br.at4
  dsimp only [nul] at r0 r1 r2 r3
  simp only [Nat.zero_add] at r1 r2 r3
  have f0 := br.free 0
  have f1 := br.free 1
  have f2 := br.free 2
  have f3 := br.free 3
  have lt1 := br.lt
  have Be := below_trans Bw B1
  have lr := bxr.lt
  have np : ¬ w.heap.size = p := by omega
  have nq : ¬ w.heap.size = q := by omega
  clear gp gq lr
  clear br bxr g c0 c1 c2 c3 hg
  go_wp2
  refine bodyPost_ret_by (v := .tuple #[va 0 0 0 ⟨#[]⟩, .int .i64 31]) ?_ rfl ⟨rfl, ?_⟩
  · simp [results, Tryz.results88, go_sem, r0, r1, r2, r3]
  · refine below_trans (Be.setCell (p := ⟨w.heap.size, 0, none⟩) (Nat.le_refl _) (.int .i64 0) |>.setCell (p := ⟨w.heap.size, 1, none⟩) (Nat.le_refl _) (.int .i64 0) |>.setCell (p := ⟨w.heap.size, 2, none⟩) (Nat.le_refl _) (.int .i64 0) |>.setCell (p := ⟨w.heap.size, 3, none⟩) (Nat.le_refl _) (.string ⟨#[]⟩)) (Grew.below ?_)
    repeat (first | assumption | exact Grew.refl _ | apply Grew.drew | apply Grew.drewN | apply Grew.alloc | apply Grew.more)


set_option maxRecDepth 20000 in
set_option maxHeartbeats 2000000 in
theorem called_abs_no (ak : Int) (bl off cap : Nat) (an am : Int) (ab : List UInt8) (w : World) (hg : bl < w.heap.size) (c0 : w.cell? ⟨bl, off, none⟩ = some (.int .i64 ak)) (c1 : w.cell? ⟨bl, off + 1, none⟩ = some (.int .i64 an)) (c2 : w.cell? ⟨bl, off + 2, none⟩ = some (.int .i64 am)) (c3 : w.cell? ⟨bl, off + 3, none⟩ = some (.string ⟨ab.toArray⟩)) (e1 : (ak == 1) = false) (e2 : (ak == 2) = false)
    :
    Calls Tryz.prog 88 #[.string ⟨#[97, 98, 115]⟩, .slice (some ⟨bl, off, none⟩) 1 cap] w fun e w' => e = .returned (.tuple #[va 0 0 0 ⟨#[]⟩, .int .i64 31]) ∧ Below w.heap.size w w' := by
  obtain ⟨w0, hw0, bxr, Bw⟩ := res_box w
  have z0 : IntKind.i64.wrap 0 = 0 := by rw [IntKind.wrap_i64]; rfl
  go_enter Tryz.func88, Tryz.ntmps88
  go_wp2_with fail
  rw [← hw0]
  clear hw0
  rw [← Bw.cell (p := ⟨bl, off, none⟩) hg] at c0
  rw [← Bw.cell (p := ⟨bl, off + 1, none⟩) hg] at c1
  rw [← Bw.cell (p := ⟨bl, off + 2, none⟩) hg] at c2
  rw [← Bw.cell (p := ⟨bl, off + 3, none⟩) hg] at c3
  replace hg : bl < w0.heap.size := Nat.lt_of_lt_of_le hg Bw.size
  go_cut [6, 7] from 8 (fun s0 s1 wx => ∃ p q : Nat, s0 = .pointer (some ⟨p, 0, none⟩) ∧ s1 = .pointer (some ⟨q, 0, none⟩) ∧ (wx.cell? ⟨p, 0, none⟩ = some (.int .i64 ak) ∧ wx.cell? ⟨p, 1, none⟩ = some (.int .i64 an) ∧ wx.cell? ⟨p, 2, none⟩ = some (.int .i64 am) ∧ wx.cell? ⟨p, 3, none⟩ = some (.string ⟨ab.toArray⟩)) ∧ (wx.cell? ⟨q, 0, none⟩ = some (.int .i64 ak) ∧ wx.cell? ⟨q, 1, none⟩ = some (.int .i64 an) ∧ wx.cell? ⟨q, 2, none⟩ = some (.int .i64 am) ∧ wx.cell? ⟨q, 3, none⟩ = some (.string ⟨ab.toArray⟩)) ∧ w0.heap.size ≤ p ∧ w0.heap.size ≤ q ∧ Grew w0 wx)
  case first =>
    refine wp_region_held_drew (S := (fun W => W.cell? ⟨bl, off, none⟩ = some (.int .i64 ak) ∧ W.cell? ⟨bl, off + 1, none⟩ = some (.int .i64 an) ∧ W.cell? ⟨bl, off + 2, none⟩ = some (.int .i64 am) ∧ W.cell? ⟨bl, off + 3, none⟩ = some (.string ⟨ab.toArray⟩))) (by kernel_rfl) ?_ (fun hHeld => ?_)
    · ((try dsimp only); (simp (maxDischargeDepth := 12) [go_sem, c0, c1, c2, c3]))
    refine wpAnyH_take (i := 0) (oi := qcO0) (v := ?_) rfl (by kernel_rfl) (by kernel_rfl) (by kernel_rfl) (fun _ _ _ h => h) (Or.inl ⟨by rfl, ?_⟩) (by assumption) ?_
    rotate_left
    · (intro W hSw; (try dsimp only at hSw); try simp only [qcO0]; first | (go_simp; done) | (go_simp; with_reducible rfl))
    try simp only [qcO0, Act.put, List.setIfInBounds_toArray, List.set_cons_zero, List.set_cons_succ]
    refine wpAnyH_take (i := 1) (oi := qcO1) (v := ?_) rfl (by kernel_rfl) (by kernel_rfl) (by kernel_rfl) (fun _ _ _ h => h) (Or.inl ⟨by rfl, ?_⟩) (by assumption) ?_
    rotate_left
    · (intro W hSw; (try dsimp only at hSw); try simp only [qcO1]; first | (go_simp; done) | (go_simp; with_reducible rfl))
    try simp only [qcO1, Act.put, List.setIfInBounds_toArray, List.set_cons_zero, List.set_cons_succ]
    refine wpAnyH_take (i := 2) (oi := qcO2) (v := ?_) rfl (by kernel_rfl) (by kernel_rfl) (by kernel_rfl) (fun _ _ _ h => h) (Or.inl ⟨by rfl, ?_⟩) (by assumption) ?_
    rotate_left
    · (intro W hSw; (try dsimp only at hSw); try simp only [qcO2]; first | (go_simp; done) | (go_simp; with_reducible rfl))
    try simp only [qcO2, Act.put, List.setIfInBounds_toArray, List.set_cons_zero, List.set_cons_succ]
    refine wpAnyH_take (i := 3) (oi := qcO3) (v := ?_) rfl (by kernel_rfl) (by kernel_rfl) (by kernel_rfl) (fun _ _ _ h => h) (Or.inl ⟨by rfl, ?_⟩) (by assumption) ?_
    rotate_left
    · (intro W hSw; (try dsimp only at hSw); try simp only [qcO3]; first | (go_simp; done) | (go_simp; with_reducible rfl))
    try simp only [qcO3, Act.put, List.setIfInBounds_toArray, List.set_cons_zero, List.set_cons_succ]
    refine wpAnyH_take (i := 4) (oi := qcO4) (v := ?_) rfl (by kernel_rfl) (by kernel_rfl) (by kernel_rfl) (fun _ _ _ h => h) (Or.inl ⟨by rfl, ?_⟩) (by assumption) ?_
    rotate_left
    · (intro W hSw; (try dsimp only at hSw); try simp only [qcO4]; first | (go_simp; done) | (go_simp; with_reducible rfl))
    try simp only [qcO4, Act.put, List.setIfInBounds_toArray, List.set_cons_zero, List.set_cons_succ]
    refine wpAnyH_take (i := 5) (oi := qcO5) (v := ?_) rfl (by kernel_rfl) (by kernel_rfl) (by kernel_rfl) (fun _ _ _ h => h) (Or.inl ⟨by rfl, ?_⟩) (by assumption) ?_
    rotate_left
    · (intro W hSw; (try dsimp only at hSw); try simp only [qcO5]; first | (go_simp; done) | (go_simp; with_reducible rfl))
    try simp only [qcO5, Act.put, List.setIfInBounds_toArray, List.set_cons_zero, List.set_cons_succ]
    refine wpAnyH_take (i := 6) (oi := qcO6) (v := ?_) rfl (by kernel_rfl) (by kernel_rfl) (by kernel_rfl) (fun _ _ _ h => h) (Or.inl ⟨by rfl, ?_⟩) (by assumption) ?_
    rotate_left
    · (intro W hSw; (try dsimp only at hSw); try simp only [qcO6]; first | (go_simp; done) | (go_simp; with_reducible rfl))
    try simp only [qcO6, Act.put, List.setIfInBounds_toArray, List.set_cons_zero, List.set_cons_succ]
    refine wpAnyH_take (i := 7) (oi := qcO7) (v := ?_) rfl (by kernel_rfl) (by kernel_rfl) (by kernel_rfl) (fun _ _ _ h => h) (Or.inl ⟨by rfl, ?_⟩) (by assumption) ?_
    rotate_left
    · (intro W hSw; (try dsimp only at hSw); try simp only [qcO7]; first | (go_simp; done) | (go_simp; with_reducible rfl))
    try simp only [qcO7, Act.put, List.setIfInBounds_toArray, List.set_cons_zero, List.set_cons_succ]
    refine wpAnyH_take (i := 8) (oi := qcO8) (v := ?_) rfl (by kernel_rfl) (by kernel_rfl) (by kernel_rfl) (fun _ _ _ h => h) (Or.inl ⟨by rfl, ?_⟩) (by assumption) ?_
    rotate_left
    · (intro W hSw; (try dsimp only at hSw); try simp only [qcO8]; first | (go_simp; done) | (go_simp; with_reducible rfl))
    try simp only [qcO8, Act.put, List.setIfInBounds_toArray, List.set_cons_zero, List.set_cons_succ]
    refine wpAnyH_ready (rs := [9, 10]) (by kernel_rfl) (by simp) ?_
    refine AllReadyH.cons (o := qcO9) rfl (fun K hK => ?_) (AllReadyH.cons (o := qcO10) rfl (fun K hK => ?_) AllReadyH.nil)
    ·
      try simp only [qcO9]
      go_simp
      refine hK.out _ _ ?_ (fun hHeld => ?_)
      · ((try dsimp only); (simp (maxDischargeDepth := 12) [go_sem, c0, c1, c2, c3, hg]))
      clear hK K
      try simp only [Act.put, List.setIfInBounds_toArray, List.set_cons_zero, List.set_cons_succ]
      refine wpAnyH_ready (rs := [10]) (by kernel_rfl) (by simp) ?_
      refine AllReadyH.cons (o := qcO10) rfl (fun K hK => ?_) AllReadyH.nil
      try simp only [qcO10]
      go_simp
      refine hK.out _ _ ?_ (fun hHeld => ?_)
      · ((try dsimp only); (simp (maxDischargeDepth := 12) [go_sem, c0, c1, c2, c3, hg]))
      clear hK K
      try simp only [Act.put, List.setIfInBounds_toArray, List.set_cons_zero, List.set_cons_succ]
      refine wpAnyH_ready (rs := [11]) (by kernel_rfl) (by simp) ?_
      refine AllReadyH.cons (o := qcO11) rfl (fun K hK => ?_) AllReadyH.nil
      try simp only [qcO11]
      go_simp
      refine hK.out _ _ ?_ (fun hHeld => ?_)
      · ((try dsimp only); (simp (maxDischargeDepth := 12) [go_sem, c0, c1, c2, c3, hg]))
      clear hK K
      try simp only [Act.put, List.setIfInBounds_toArray, List.set_cons_zero, List.set_cons_succ]
      refine wpAnyH_ready (rs := [12]) (by kernel_rfl) (by simp) ?_
      refine AllReadyH.cons (o := qcO12) rfl (fun K hK => ?_) AllReadyH.nil
      try simp only [qcO12]
      go_simp
      refine hK.out _ _ ?_ (fun hHeld => ?_)
      · ((try dsimp only); (simp (maxDischargeDepth := 12) [go_sem, c0, c1, c2, c3, hg]))
      clear hK K
      try simp only [Act.put, List.setIfInBounds_toArray, List.set_cons_zero, List.set_cons_succ]
      refine wpAnyH_done (by kernel_rfl) ?_ _
      go_wp2_with fail
      go_meet
      exact ⟨_, _, rfl, rfl, ⟨by simp (maxDischargeDepth := 12) [go_sem], by simp (maxDischargeDepth := 12) [go_sem], by simp (maxDischargeDepth := 12) [go_sem], by simp (maxDischargeDepth := 12) [go_sem]⟩, ⟨by simp (maxDischargeDepth := 12) [go_sem], by simp (maxDischargeDepth := 12) [go_sem], by simp (maxDischargeDepth := 12) [go_sem], by simp (maxDischargeDepth := 12) [go_sem]⟩, by simp, by simp, (by repeat (first | assumption | exact Grew.refl _ | apply Grew.drew | apply Grew.drewN | apply Grew.alloc | apply Grew.more))⟩
    ·
      try simp only [qcO10]
      go_simp
      refine hK.out _ _ ?_ (fun hHeld => ?_)
      · ((try dsimp only); (simp (maxDischargeDepth := 12) [go_sem, c0, c1, c2, c3, hg]))
      clear hK K
      try simp only [Act.put, List.setIfInBounds_toArray, List.set_cons_zero, List.set_cons_succ]
      refine wpAnyH_ready (rs := [9]) (by kernel_rfl) (by simp) ?_
      refine AllReadyH.cons (o := qcO9) rfl (fun K hK => ?_) AllReadyH.nil
      try simp only [qcO9]
      go_simp
      refine hK.out _ _ ?_ (fun hHeld => ?_)
      · ((try dsimp only); (simp (maxDischargeDepth := 12) [go_sem, c0, c1, c2, c3, hg]))
      clear hK K
      try simp only [Act.put, List.setIfInBounds_toArray, List.set_cons_zero, List.set_cons_succ]
      refine wpAnyH_ready (rs := [11]) (by kernel_rfl) (by simp) ?_
      refine AllReadyH.cons (o := qcO11) rfl (fun K hK => ?_) AllReadyH.nil
      try simp only [qcO11]
      go_simp
      refine hK.out _ _ ?_ (fun hHeld => ?_)
      · ((try dsimp only); (simp (maxDischargeDepth := 12) [go_sem, c0, c1, c2, c3, hg]))
      clear hK K
      try simp only [Act.put, List.setIfInBounds_toArray, List.set_cons_zero, List.set_cons_succ]
      refine wpAnyH_ready (rs := [12]) (by kernel_rfl) (by simp) ?_
      refine AllReadyH.cons (o := qcO12) rfl (fun K hK => ?_) AllReadyH.nil
      try simp only [qcO12]
      go_simp
      refine hK.out _ _ ?_ (fun hHeld => ?_)
      · ((try dsimp only); (simp (maxDischargeDepth := 12) [go_sem, c0, c1, c2, c3, hg]))
      clear hK K
      try simp only [Act.put, List.setIfInBounds_toArray, List.set_cons_zero, List.set_cons_succ]
      refine wpAnyH_done (by kernel_rfl) ?_ _
      go_wp2_with fail
      go_meet
      exact ⟨_, _, rfl, rfl, ⟨by simp (maxDischargeDepth := 12) [go_sem], by simp (maxDischargeDepth := 12) [go_sem], by simp (maxDischargeDepth := 12) [go_sem], by simp (maxDischargeDepth := 12) [go_sem]⟩, ⟨by simp (maxDischargeDepth := 12) [go_sem], by simp (maxDischargeDepth := 12) [go_sem], by simp (maxDischargeDepth := 12) [go_sem], by simp (maxDischargeDepth := 12) [go_sem]⟩, by simp, by simp, (by repeat (first | assumption | exact Grew.refl _ | apply Grew.drew | apply Grew.drewN | apply Grew.alloc | apply Grew.more))⟩
  rename World => w1
  obtain ⟨p, q, rfl, rfl, ⟨p0, p1, p2, p3⟩, ⟨q0, q1, q2, q3⟩, gp, gq, g⟩ := hcut
  have lp := World.block_lt_of_cell? w1 _ p0
  have lq := World.block_lt_of_cell? w1 _ q0
  have B1 := g.below
  have br := bxr.later B1
  obtain ⟨r0, r1, r2, r3⟩ := br.at4
  dsimp only [nul] at r0 r1 r2 r3
  simp only [Nat.zero_add] at r1 r2 r3
  have f0 := br.free 0
  have f1 := br.free 1
  have f2 := br.free 2
  have f3 := br.free 3
  have lt1 := br.lt
  have Be := below_trans Bw B1
  have lr := bxr.lt
  have np : ¬ w.heap.size = p := by omega
  have nq : ¬ w.heap.size = q := by omega
  clear gp gq lr
  clear br bxr g c0 c1 c2 c3 hg
  go_wp2_with (first
    | (go_at_call 78; refine (qnumber_any _ _ _ _ _).mono ?_; rintro e w2 ⟨rfl, os0, n0, rfl⟩))
  refine bodyPost_ret_by (v := .tuple #[va 0 0 0 ⟨#[]⟩, .int .i64 31]) ?_ rfl ⟨rfl, ?_⟩
  · simp [results, Tryz.results88, go_sem, r0, r1, r2, r3, lt1]
  · refine below_trans (Be.setCell (p := ⟨w.heap.size, 0, none⟩) (Nat.le_refl _) (.int .i64 0) |>.setCell (p := ⟨w.heap.size, 1, none⟩) (Nat.le_refl _) (.int .i64 0) |>.setCell (p := ⟨w.heap.size, 2, none⟩) (Nat.le_refl _) (.int .i64 0) |>.setCell (p := ⟨w.heap.size, 3, none⟩) (Nat.le_refl _) (.string ⟨#[]⟩)) (Grew.below ?_)
    repeat (first | assumption | exact Grew.refl _ | apply Grew.drew | apply Grew.drewN | apply Grew.alloc | apply Grew.more)


set_option maxRecDepth 20000 in
set_option maxHeartbeats 2000000 in
theorem called_px (bl off cap : Nat) (an am : Int) (ab : List UInt8) (w : World) (hg : bl < w.heap.size) (c0 : w.cell? ⟨bl, off, none⟩ = some (.int .i64 5)) (c1 : w.cell? ⟨bl, off + 1, none⟩ = some (.int .i64 an)) (c2 : w.cell? ⟨bl, off + 2, none⟩ = some (.int .i64 am)) (c3 : w.cell? ⟨bl, off + 3, none⟩ = some (.string ⟨ab.toArray⟩)) 
    :
    Calls Tryz.prog 88 #[.string ⟨#[112, 120]⟩, .slice (some ⟨bl, off, none⟩) 1 cap] w fun e w' => e = .returned (rs (wholeR an 0)) ∧ Below w.heap.size w w' := by
  obtain ⟨w0, hw0, bxr, Bw⟩ := res_box w
  have z0 : IntKind.i64.wrap 0 = 0 := by rw [IntKind.wrap_i64]; rfl
  go_enter Tryz.func88, Tryz.ntmps88
  go_wp2_with fail
  rw [← hw0]
  clear hw0
  rw [← Bw.cell (p := ⟨bl, off, none⟩) hg] at c0
  rw [← Bw.cell (p := ⟨bl, off + 1, none⟩) hg] at c1
  rw [← Bw.cell (p := ⟨bl, off + 2, none⟩) hg] at c2
  rw [← Bw.cell (p := ⟨bl, off + 3, none⟩) hg] at c3
  replace hg : bl < w0.heap.size := Nat.lt_of_lt_of_le hg Bw.size
  go_cut [6, 7] from 8 (fun s0 s1 wx => ∃ p q : Nat, s0 = .pointer (some ⟨p, 0, none⟩) ∧ s1 = .pointer (some ⟨q, 0, none⟩) ∧ (wx.cell? ⟨p, 0, none⟩ = some (.int .i64 5) ∧ wx.cell? ⟨p, 1, none⟩ = some (.int .i64 an) ∧ wx.cell? ⟨p, 2, none⟩ = some (.int .i64 am) ∧ wx.cell? ⟨p, 3, none⟩ = some (.string ⟨ab.toArray⟩)) ∧ (wx.cell? ⟨q, 0, none⟩ = some (.int .i64 5) ∧ wx.cell? ⟨q, 1, none⟩ = some (.int .i64 an) ∧ wx.cell? ⟨q, 2, none⟩ = some (.int .i64 am) ∧ wx.cell? ⟨q, 3, none⟩ = some (.string ⟨ab.toArray⟩)) ∧ w0.heap.size ≤ p ∧ w0.heap.size ≤ q ∧ Grew w0 wx)
  case first =>
    refine wp_region_held_drew (S := (fun W => W.cell? ⟨bl, off, none⟩ = some (.int .i64 5) ∧ W.cell? ⟨bl, off + 1, none⟩ = some (.int .i64 an) ∧ W.cell? ⟨bl, off + 2, none⟩ = some (.int .i64 am) ∧ W.cell? ⟨bl, off + 3, none⟩ = some (.string ⟨ab.toArray⟩))) (by kernel_rfl) ?_ (fun hHeld => ?_)
    · ((try dsimp only); (simp (maxDischargeDepth := 12) [go_sem, c0, c1, c2, c3]))
    refine wpAnyH_take (i := 0) (oi := qcO0) (v := ?_) rfl (by kernel_rfl) (by kernel_rfl) (by kernel_rfl) (fun _ _ _ h => h) (Or.inl ⟨by rfl, ?_⟩) (by assumption) ?_
    rotate_left
    · (intro W hSw; (try dsimp only at hSw); try simp only [qcO0]; first | (go_simp; done) | (go_simp; with_reducible rfl))
    try simp only [qcO0, Act.put, List.setIfInBounds_toArray, List.set_cons_zero, List.set_cons_succ]
    refine wpAnyH_take (i := 1) (oi := qcO1) (v := ?_) rfl (by kernel_rfl) (by kernel_rfl) (by kernel_rfl) (fun _ _ _ h => h) (Or.inl ⟨by rfl, ?_⟩) (by assumption) ?_
    rotate_left
    · (intro W hSw; (try dsimp only at hSw); try simp only [qcO1]; first | (go_simp; done) | (go_simp; with_reducible rfl))
    try simp only [qcO1, Act.put, List.setIfInBounds_toArray, List.set_cons_zero, List.set_cons_succ]
    refine wpAnyH_take (i := 2) (oi := qcO2) (v := ?_) rfl (by kernel_rfl) (by kernel_rfl) (by kernel_rfl) (fun _ _ _ h => h) (Or.inl ⟨by rfl, ?_⟩) (by assumption) ?_
    rotate_left
    · (intro W hSw; (try dsimp only at hSw); try simp only [qcO2]; first | (go_simp; done) | (go_simp; with_reducible rfl))
    try simp only [qcO2, Act.put, List.setIfInBounds_toArray, List.set_cons_zero, List.set_cons_succ]
    refine wpAnyH_take (i := 3) (oi := qcO3) (v := ?_) rfl (by kernel_rfl) (by kernel_rfl) (by kernel_rfl) (fun _ _ _ h => h) (Or.inl ⟨by rfl, ?_⟩) (by assumption) ?_
    rotate_left
    · (intro W hSw; (try dsimp only at hSw); try simp only [qcO3]; first | (go_simp; done) | (go_simp; with_reducible rfl))
    try simp only [qcO3, Act.put, List.setIfInBounds_toArray, List.set_cons_zero, List.set_cons_succ]
    refine wpAnyH_take (i := 4) (oi := qcO4) (v := ?_) rfl (by kernel_rfl) (by kernel_rfl) (by kernel_rfl) (fun _ _ _ h => h) (Or.inl ⟨by rfl, ?_⟩) (by assumption) ?_
    rotate_left
    · (intro W hSw; (try dsimp only at hSw); try simp only [qcO4]; first | (go_simp; done) | (go_simp; with_reducible rfl))
    try simp only [qcO4, Act.put, List.setIfInBounds_toArray, List.set_cons_zero, List.set_cons_succ]
    refine wpAnyH_take (i := 5) (oi := qcO5) (v := ?_) rfl (by kernel_rfl) (by kernel_rfl) (by kernel_rfl) (fun _ _ _ h => h) (Or.inl ⟨by rfl, ?_⟩) (by assumption) ?_
    rotate_left
    · (intro W hSw; (try dsimp only at hSw); try simp only [qcO5]; first | (go_simp; done) | (go_simp; with_reducible rfl))
    try simp only [qcO5, Act.put, List.setIfInBounds_toArray, List.set_cons_zero, List.set_cons_succ]
    refine wpAnyH_take (i := 6) (oi := qcO6) (v := ?_) rfl (by kernel_rfl) (by kernel_rfl) (by kernel_rfl) (fun _ _ _ h => h) (Or.inl ⟨by rfl, ?_⟩) (by assumption) ?_
    rotate_left
    · (intro W hSw; (try dsimp only at hSw); try simp only [qcO6]; first | (go_simp; done) | (go_simp; with_reducible rfl))
    try simp only [qcO6, Act.put, List.setIfInBounds_toArray, List.set_cons_zero, List.set_cons_succ]
    refine wpAnyH_take (i := 7) (oi := qcO7) (v := ?_) rfl (by kernel_rfl) (by kernel_rfl) (by kernel_rfl) (fun _ _ _ h => h) (Or.inl ⟨by rfl, ?_⟩) (by assumption) ?_
    rotate_left
    · (intro W hSw; (try dsimp only at hSw); try simp only [qcO7]; first | (go_simp; done) | (go_simp; with_reducible rfl))
    try simp only [qcO7, Act.put, List.setIfInBounds_toArray, List.set_cons_zero, List.set_cons_succ]
    refine wpAnyH_take (i := 8) (oi := qcO8) (v := ?_) rfl (by kernel_rfl) (by kernel_rfl) (by kernel_rfl) (fun _ _ _ h => h) (Or.inl ⟨by rfl, ?_⟩) (by assumption) ?_
    rotate_left
    · (intro W hSw; (try dsimp only at hSw); try simp only [qcO8]; first | (go_simp; done) | (go_simp; with_reducible rfl))
    try simp only [qcO8, Act.put, List.setIfInBounds_toArray, List.set_cons_zero, List.set_cons_succ]
    refine wpAnyH_ready (rs := [9, 10]) (by kernel_rfl) (by simp) ?_
    refine AllReadyH.cons (o := qcO9) rfl (fun K hK => ?_) (AllReadyH.cons (o := qcO10) rfl (fun K hK => ?_) AllReadyH.nil)
    ·
      try simp only [qcO9]
      go_simp
      refine hK.out _ _ ?_ (fun hHeld => ?_)
      · ((try dsimp only); (simp (maxDischargeDepth := 12) [go_sem, c0, c1, c2, c3, hg]))
      clear hK K
      try simp only [Act.put, List.setIfInBounds_toArray, List.set_cons_zero, List.set_cons_succ]
      refine wpAnyH_ready (rs := [10]) (by kernel_rfl) (by simp) ?_
      refine AllReadyH.cons (o := qcO10) rfl (fun K hK => ?_) AllReadyH.nil
      try simp only [qcO10]
      go_simp
      refine hK.out _ _ ?_ (fun hHeld => ?_)
      · ((try dsimp only); (simp (maxDischargeDepth := 12) [go_sem, c0, c1, c2, c3, hg]))
      clear hK K
      try simp only [Act.put, List.setIfInBounds_toArray, List.set_cons_zero, List.set_cons_succ]
      refine wpAnyH_ready (rs := [11]) (by kernel_rfl) (by simp) ?_
      refine AllReadyH.cons (o := qcO11) rfl (fun K hK => ?_) AllReadyH.nil
      try simp only [qcO11]
      go_simp
      refine hK.out _ _ ?_ (fun hHeld => ?_)
      · ((try dsimp only); (simp (maxDischargeDepth := 12) [go_sem, c0, c1, c2, c3, hg]))
      clear hK K
      try simp only [Act.put, List.setIfInBounds_toArray, List.set_cons_zero, List.set_cons_succ]
      refine wpAnyH_ready (rs := [12]) (by kernel_rfl) (by simp) ?_
      refine AllReadyH.cons (o := qcO12) rfl (fun K hK => ?_) AllReadyH.nil
      try simp only [qcO12]
      go_simp
      refine hK.out _ _ ?_ (fun hHeld => ?_)
      · ((try dsimp only); (simp (maxDischargeDepth := 12) [go_sem, c0, c1, c2, c3, hg]))
      clear hK K
      try simp only [Act.put, List.setIfInBounds_toArray, List.set_cons_zero, List.set_cons_succ]
      refine wpAnyH_done (by kernel_rfl) ?_ _
      go_wp2_with fail
      go_meet
      exact ⟨_, _, rfl, rfl, ⟨by simp (maxDischargeDepth := 12) [go_sem], by simp (maxDischargeDepth := 12) [go_sem], by simp (maxDischargeDepth := 12) [go_sem], by simp (maxDischargeDepth := 12) [go_sem]⟩, ⟨by simp (maxDischargeDepth := 12) [go_sem], by simp (maxDischargeDepth := 12) [go_sem], by simp (maxDischargeDepth := 12) [go_sem], by simp (maxDischargeDepth := 12) [go_sem]⟩, by simp, by simp, (by repeat (first | assumption | exact Grew.refl _ | apply Grew.drew | apply Grew.drewN | apply Grew.alloc | apply Grew.more))⟩
    ·
      try simp only [qcO10]
      go_simp
      refine hK.out _ _ ?_ (fun hHeld => ?_)
      · ((try dsimp only); (simp (maxDischargeDepth := 12) [go_sem, c0, c1, c2, c3, hg]))
      clear hK K
      try simp only [Act.put, List.setIfInBounds_toArray, List.set_cons_zero, List.set_cons_succ]
      refine wpAnyH_ready (rs := [9]) (by kernel_rfl) (by simp) ?_
      refine AllReadyH.cons (o := qcO9) rfl (fun K hK => ?_) AllReadyH.nil
      try simp only [qcO9]
      go_simp
      refine hK.out _ _ ?_ (fun hHeld => ?_)
      · ((try dsimp only); (simp (maxDischargeDepth := 12) [go_sem, c0, c1, c2, c3, hg]))
      clear hK K
      try simp only [Act.put, List.setIfInBounds_toArray, List.set_cons_zero, List.set_cons_succ]
      refine wpAnyH_ready (rs := [11]) (by kernel_rfl) (by simp) ?_
      refine AllReadyH.cons (o := qcO11) rfl (fun K hK => ?_) AllReadyH.nil
      try simp only [qcO11]
      go_simp
      refine hK.out _ _ ?_ (fun hHeld => ?_)
      · ((try dsimp only); (simp (maxDischargeDepth := 12) [go_sem, c0, c1, c2, c3, hg]))
      clear hK K
      try simp only [Act.put, List.setIfInBounds_toArray, List.set_cons_zero, List.set_cons_succ]
      refine wpAnyH_ready (rs := [12]) (by kernel_rfl) (by simp) ?_
      refine AllReadyH.cons (o := qcO12) rfl (fun K hK => ?_) AllReadyH.nil
      try simp only [qcO12]
      go_simp
      refine hK.out _ _ ?_ (fun hHeld => ?_)
      · ((try dsimp only); (simp (maxDischargeDepth := 12) [go_sem, c0, c1, c2, c3, hg]))
      clear hK K
      try simp only [Act.put, List.setIfInBounds_toArray, List.set_cons_zero, List.set_cons_succ]
      refine wpAnyH_done (by kernel_rfl) ?_ _
      go_wp2_with fail
      go_meet
      exact ⟨_, _, rfl, rfl, ⟨by simp (maxDischargeDepth := 12) [go_sem], by simp (maxDischargeDepth := 12) [go_sem], by simp (maxDischargeDepth := 12) [go_sem], by simp (maxDischargeDepth := 12) [go_sem]⟩, ⟨by simp (maxDischargeDepth := 12) [go_sem], by simp (maxDischargeDepth := 12) [go_sem], by simp (maxDischargeDepth := 12) [go_sem], by simp (maxDischargeDepth := 12) [go_sem]⟩, by simp, by simp, (by repeat (first | assumption | exact Grew.refl _ | apply Grew.drew | apply Grew.drewN | apply Grew.alloc | apply Grew.more))⟩
  rename World => w1
  obtain ⟨p, q, rfl, rfl, ⟨p0, p1, p2, p3⟩, ⟨q0, q1, q2, q3⟩, gp, gq, g⟩ := hcut
  have lp := World.block_lt_of_cell? w1 _ p0
  have lq := World.block_lt_of_cell? w1 _ q0
  have B1 := g.below
  have br := bxr.later B1
  obtain ⟨r0, r1, r2, r3⟩ := br.at4
  dsimp only [nul] at r0 r1 r2 r3
  simp only [Nat.zero_add] at r1 r2 r3
  have f0 := br.free 0
  have f1 := br.free 1
  have f2 := br.free 2
  have f3 := br.free 3
  have lt1 := br.lt
  have Be := below_trans Bw B1
  have lr := bxr.lt
  have np : ¬ w.heap.size = p := by omega
  have nq : ¬ w.heap.size = q := by omega
  clear gp gq lr
  clear br bxr g c0 c1 c2 c3 hg
  go_wp2_with (first
    | (go_at_call 142; refine (qwhole_any _ _ _).mono ?_; rintro e w2 ⟨rfl, os2, n2, rfl⟩))
  refine bodyPost_ret_by (v := rs (wholeR an 0)) ?_ rfl ⟨rfl, ?_⟩
  · simp [results, Tryz.results88, go_sem, r0, r1, r2, r3, lt1]
  · refine below_trans (Be.setCell (p := ⟨w.heap.size, 0, none⟩) (Nat.le_refl _) (.int .i64 (wholeR an 0).1.k) |>.setCell (p := ⟨w.heap.size, 1, none⟩) (Nat.le_refl _) (.int .i64 (wholeR an 0).1.n) |>.setCell (p := ⟨w.heap.size, 2, none⟩) (Nat.le_refl _) (.int .i64 (wholeR an 0).1.m) |>.setCell (p := ⟨w.heap.size, 3, none⟩) (Nat.le_refl _) (.string ⟨(wholeR an 0).1.b.toArray⟩)) (Grew.below ?_)
    repeat (first | assumption | exact Grew.refl _ | apply Grew.drew | apply Grew.drewN | apply Grew.alloc | apply Grew.more)


set_option maxRecDepth 20000 in
set_option maxHeartbeats 2000000 in
theorem called_py_no (ak : Int) (bl off cap : Nat) (an am : Int) (ab : List UInt8) (w : World) (hg : bl < w.heap.size) (c0 : w.cell? ⟨bl, off, none⟩ = some (.int .i64 ak)) (c1 : w.cell? ⟨bl, off + 1, none⟩ = some (.int .i64 an)) (c2 : w.cell? ⟨bl, off + 2, none⟩ = some (.int .i64 am)) (c3 : w.cell? ⟨bl, off + 3, none⟩ = some (.string ⟨ab.toArray⟩)) (e5 : (ak == 5) = false)
    :
    Calls Tryz.prog 88 #[.string ⟨#[112, 121]⟩, .slice (some ⟨bl, off, none⟩) 1 cap] w fun e w' => e = .returned (.tuple #[va 0 0 0 ⟨#[]⟩, .int .i64 31]) ∧ Below w.heap.size w w' := by
  obtain ⟨w0, hw0, bxr, Bw⟩ := res_box w
  have z0 : IntKind.i64.wrap 0 = 0 := by rw [IntKind.wrap_i64]; rfl
  go_enter Tryz.func88, Tryz.ntmps88
  go_wp2_with fail
  rw [← hw0]
  clear hw0
  rw [← Bw.cell (p := ⟨bl, off, none⟩) hg] at c0
  rw [← Bw.cell (p := ⟨bl, off + 1, none⟩) hg] at c1
  rw [← Bw.cell (p := ⟨bl, off + 2, none⟩) hg] at c2
  rw [← Bw.cell (p := ⟨bl, off + 3, none⟩) hg] at c3
  replace hg : bl < w0.heap.size := Nat.lt_of_lt_of_le hg Bw.size
  go_cut [6, 7] from 8 (fun s0 s1 wx => ∃ p q : Nat, s0 = .pointer (some ⟨p, 0, none⟩) ∧ s1 = .pointer (some ⟨q, 0, none⟩) ∧ (wx.cell? ⟨p, 0, none⟩ = some (.int .i64 ak) ∧ wx.cell? ⟨p, 1, none⟩ = some (.int .i64 an) ∧ wx.cell? ⟨p, 2, none⟩ = some (.int .i64 am) ∧ wx.cell? ⟨p, 3, none⟩ = some (.string ⟨ab.toArray⟩)) ∧ (wx.cell? ⟨q, 0, none⟩ = some (.int .i64 ak) ∧ wx.cell? ⟨q, 1, none⟩ = some (.int .i64 an) ∧ wx.cell? ⟨q, 2, none⟩ = some (.int .i64 am) ∧ wx.cell? ⟨q, 3, none⟩ = some (.string ⟨ab.toArray⟩)) ∧ w0.heap.size ≤ p ∧ w0.heap.size ≤ q ∧ Grew w0 wx)
  case first =>
    refine wp_region_held_drew (S := (fun W => W.cell? ⟨bl, off, none⟩ = some (.int .i64 ak) ∧ W.cell? ⟨bl, off + 1, none⟩ = some (.int .i64 an) ∧ W.cell? ⟨bl, off + 2, none⟩ = some (.int .i64 am) ∧ W.cell? ⟨bl, off + 3, none⟩ = some (.string ⟨ab.toArray⟩))) (by kernel_rfl) ?_ (fun hHeld => ?_)
    · ((try dsimp only); (simp (maxDischargeDepth := 12) [go_sem, c0, c1, c2, c3]))
    refine wpAnyH_take (i := 0) (oi := qcO0) (v := ?_) rfl (by kernel_rfl) (by kernel_rfl) (by kernel_rfl) (fun _ _ _ h => h) (Or.inl ⟨by rfl, ?_⟩) (by assumption) ?_
    rotate_left
    · (intro W hSw; (try dsimp only at hSw); try simp only [qcO0]; first | (go_simp; done) | (go_simp; with_reducible rfl))
    try simp only [qcO0, Act.put, List.setIfInBounds_toArray, List.set_cons_zero, List.set_cons_succ]
    refine wpAnyH_take (i := 1) (oi := qcO1) (v := ?_) rfl (by kernel_rfl) (by kernel_rfl) (by kernel_rfl) (fun _ _ _ h => h) (Or.inl ⟨by rfl, ?_⟩) (by assumption) ?_
    rotate_left
    · (intro W hSw; (try dsimp only at hSw); try simp only [qcO1]; first | (go_simp; done) | (go_simp; with_reducible rfl))
    try simp only [qcO1, Act.put, List.setIfInBounds_toArray, List.set_cons_zero, List.set_cons_succ]
    refine wpAnyH_take (i := 2) (oi := qcO2) (v := ?_) rfl (by kernel_rfl) (by kernel_rfl) (by kernel_rfl) (fun _ _ _ h => h) (Or.inl ⟨by rfl, ?_⟩) (by assumption) ?_
    rotate_left
    · (intro W hSw; (try dsimp only at hSw); try simp only [qcO2]; first | (go_simp; done) | (go_simp; with_reducible rfl))
    try simp only [qcO2, Act.put, List.setIfInBounds_toArray, List.set_cons_zero, List.set_cons_succ]
    refine wpAnyH_take (i := 3) (oi := qcO3) (v := ?_) rfl (by kernel_rfl) (by kernel_rfl) (by kernel_rfl) (fun _ _ _ h => h) (Or.inl ⟨by rfl, ?_⟩) (by assumption) ?_
    rotate_left
    · (intro W hSw; (try dsimp only at hSw); try simp only [qcO3]; first | (go_simp; done) | (go_simp; with_reducible rfl))
    try simp only [qcO3, Act.put, List.setIfInBounds_toArray, List.set_cons_zero, List.set_cons_succ]
    refine wpAnyH_take (i := 4) (oi := qcO4) (v := ?_) rfl (by kernel_rfl) (by kernel_rfl) (by kernel_rfl) (fun _ _ _ h => h) (Or.inl ⟨by rfl, ?_⟩) (by assumption) ?_
    rotate_left
    · (intro W hSw; (try dsimp only at hSw); try simp only [qcO4]; first | (go_simp; done) | (go_simp; with_reducible rfl))
    try simp only [qcO4, Act.put, List.setIfInBounds_toArray, List.set_cons_zero, List.set_cons_succ]
    refine wpAnyH_take (i := 5) (oi := qcO5) (v := ?_) rfl (by kernel_rfl) (by kernel_rfl) (by kernel_rfl) (fun _ _ _ h => h) (Or.inl ⟨by rfl, ?_⟩) (by assumption) ?_
    rotate_left
    · (intro W hSw; (try dsimp only at hSw); try simp only [qcO5]; first | (go_simp; done) | (go_simp; with_reducible rfl))
    try simp only [qcO5, Act.put, List.setIfInBounds_toArray, List.set_cons_zero, List.set_cons_succ]
    refine wpAnyH_take (i := 6) (oi := qcO6) (v := ?_) rfl (by kernel_rfl) (by kernel_rfl) (by kernel_rfl) (fun _ _ _ h => h) (Or.inl ⟨by rfl, ?_⟩) (by assumption) ?_
    rotate_left
    · (intro W hSw; (try dsimp only at hSw); try simp only [qcO6]; first | (go_simp; done) | (go_simp; with_reducible rfl))
    try simp only [qcO6, Act.put, List.setIfInBounds_toArray, List.set_cons_zero, List.set_cons_succ]
    refine wpAnyH_take (i := 7) (oi := qcO7) (v := ?_) rfl (by kernel_rfl) (by kernel_rfl) (by kernel_rfl) (fun _ _ _ h => h) (Or.inl ⟨by rfl, ?_⟩) (by assumption) ?_
    rotate_left
    · (intro W hSw; (try dsimp only at hSw); try simp only [qcO7]; first | (go_simp; done) | (go_simp; with_reducible rfl))
    try simp only [qcO7, Act.put, List.setIfInBounds_toArray, List.set_cons_zero, List.set_cons_succ]
    refine wpAnyH_take (i := 8) (oi := qcO8) (v := ?_) rfl (by kernel_rfl) (by kernel_rfl) (by kernel_rfl) (fun _ _ _ h => h) (Or.inl ⟨by rfl, ?_⟩) (by assumption) ?_
    rotate_left
    · (intro W hSw; (try dsimp only at hSw); try simp only [qcO8]; first | (go_simp; done) | (go_simp; with_reducible rfl))
    try simp only [qcO8, Act.put, List.setIfInBounds_toArray, List.set_cons_zero, List.set_cons_succ]
    refine wpAnyH_ready (rs := [9, 10]) (by kernel_rfl) (by simp) ?_
    refine AllReadyH.cons (o := qcO9) rfl (fun K hK => ?_) (AllReadyH.cons (o := qcO10) rfl (fun K hK => ?_) AllReadyH.nil)
    ·
      try simp only [qcO9]
      go_simp
      refine hK.out _ _ ?_ (fun hHeld => ?_)
      · ((try dsimp only); (simp (maxDischargeDepth := 12) [go_sem, c0, c1, c2, c3, hg]))
      clear hK K
      try simp only [Act.put, List.setIfInBounds_toArray, List.set_cons_zero, List.set_cons_succ]
      refine wpAnyH_ready (rs := [10]) (by kernel_rfl) (by simp) ?_
      refine AllReadyH.cons (o := qcO10) rfl (fun K hK => ?_) AllReadyH.nil
      try simp only [qcO10]
      go_simp
      refine hK.out _ _ ?_ (fun hHeld => ?_)
      · ((try dsimp only); (simp (maxDischargeDepth := 12) [go_sem, c0, c1, c2, c3, hg]))
      clear hK K
      try simp only [Act.put, List.setIfInBounds_toArray, List.set_cons_zero, List.set_cons_succ]
      refine wpAnyH_ready (rs := [11]) (by kernel_rfl) (by simp) ?_
      refine AllReadyH.cons (o := qcO11) rfl (fun K hK => ?_) AllReadyH.nil
      try simp only [qcO11]
      go_simp
      refine hK.out _ _ ?_ (fun hHeld => ?_)
      · ((try dsimp only); (simp (maxDischargeDepth := 12) [go_sem, c0, c1, c2, c3, hg]))
      clear hK K
      try simp only [Act.put, List.setIfInBounds_toArray, List.set_cons_zero, List.set_cons_succ]
      refine wpAnyH_ready (rs := [12]) (by kernel_rfl) (by simp) ?_
      refine AllReadyH.cons (o := qcO12) rfl (fun K hK => ?_) AllReadyH.nil
      try simp only [qcO12]
      go_simp
      refine hK.out _ _ ?_ (fun hHeld => ?_)
      · ((try dsimp only); (simp (maxDischargeDepth := 12) [go_sem, c0, c1, c2, c3, hg]))
      clear hK K
      try simp only [Act.put, List.setIfInBounds_toArray, List.set_cons_zero, List.set_cons_succ]
      refine wpAnyH_done (by kernel_rfl) ?_ _
      go_wp2_with fail
      go_meet
      exact ⟨_, _, rfl, rfl, ⟨by simp (maxDischargeDepth := 12) [go_sem], by simp (maxDischargeDepth := 12) [go_sem], by simp (maxDischargeDepth := 12) [go_sem], by simp (maxDischargeDepth := 12) [go_sem]⟩, ⟨by simp (maxDischargeDepth := 12) [go_sem], by simp (maxDischargeDepth := 12) [go_sem], by simp (maxDischargeDepth := 12) [go_sem], by simp (maxDischargeDepth := 12) [go_sem]⟩, by simp, by simp, (by repeat (first | assumption | exact Grew.refl _ | apply Grew.drew | apply Grew.drewN | apply Grew.alloc | apply Grew.more))⟩
    ·
      try simp only [qcO10]
      go_simp
      refine hK.out _ _ ?_ (fun hHeld => ?_)
      · ((try dsimp only); (simp (maxDischargeDepth := 12) [go_sem, c0, c1, c2, c3, hg]))
      clear hK K
      try simp only [Act.put, List.setIfInBounds_toArray, List.set_cons_zero, List.set_cons_succ]
      refine wpAnyH_ready (rs := [9]) (by kernel_rfl) (by simp) ?_
      refine AllReadyH.cons (o := qcO9) rfl (fun K hK => ?_) AllReadyH.nil
      try simp only [qcO9]
      go_simp
      refine hK.out _ _ ?_ (fun hHeld => ?_)
      · ((try dsimp only); (simp (maxDischargeDepth := 12) [go_sem, c0, c1, c2, c3, hg]))
      clear hK K
      try simp only [Act.put, List.setIfInBounds_toArray, List.set_cons_zero, List.set_cons_succ]
      refine wpAnyH_ready (rs := [11]) (by kernel_rfl) (by simp) ?_
      refine AllReadyH.cons (o := qcO11) rfl (fun K hK => ?_) AllReadyH.nil
      try simp only [qcO11]
      go_simp
      refine hK.out _ _ ?_ (fun hHeld => ?_)
      · ((try dsimp only); (simp (maxDischargeDepth := 12) [go_sem, c0, c1, c2, c3, hg]))
      clear hK K
      try simp only [Act.put, List.setIfInBounds_toArray, List.set_cons_zero, List.set_cons_succ]
      refine wpAnyH_ready (rs := [12]) (by kernel_rfl) (by simp) ?_
      refine AllReadyH.cons (o := qcO12) rfl (fun K hK => ?_) AllReadyH.nil
      try simp only [qcO12]
      go_simp
      refine hK.out _ _ ?_ (fun hHeld => ?_)
      · ((try dsimp only); (simp (maxDischargeDepth := 12) [go_sem, c0, c1, c2, c3, hg]))
      clear hK K
      try simp only [Act.put, List.setIfInBounds_toArray, List.set_cons_zero, List.set_cons_succ]
      refine wpAnyH_done (by kernel_rfl) ?_ _
      go_wp2_with fail
      go_meet
      exact ⟨_, _, rfl, rfl, ⟨by simp (maxDischargeDepth := 12) [go_sem], by simp (maxDischargeDepth := 12) [go_sem], by simp (maxDischargeDepth := 12) [go_sem], by simp (maxDischargeDepth := 12) [go_sem]⟩, ⟨by simp (maxDischargeDepth := 12) [go_sem], by simp (maxDischargeDepth := 12) [go_sem], by simp (maxDischargeDepth := 12) [go_sem], by simp (maxDischargeDepth := 12) [go_sem]⟩, by simp, by simp, (by repeat (first | assumption | exact Grew.refl _ | apply Grew.drew | apply Grew.drewN | apply Grew.alloc | apply Grew.more))⟩
  rename World => w1
  obtain ⟨p, q, rfl, rfl, ⟨p0, p1, p2, p3⟩, ⟨q0, q1, q2, q3⟩, gp, gq, g⟩ := hcut
  have lp := World.block_lt_of_cell? w1 _ p0
  have lq := World.block_lt_of_cell? w1 _ q0
  have B1 := g.below
  have br := bxr.later B1
  obtain ⟨r0, r1, r2, r3⟩ := br.at4
  dsimp only [nul] at r0 r1 r2 r3
  simp only [Nat.zero_add] at r1 r2 r3
  have f0 := br.free 0
  have f1 := br.free 1
  have f2 := br.free 2
  have f3 := br.free 3
  have lt1 := br.lt
  have Be := below_trans Bw B1
  have lr := bxr.lt
  have np : ¬ w.heap.size = p := by omega
  have nq : ¬ w.heap.size = q := by omega
  clear gp gq lr
  clear br bxr g c0 c1 c2 c3 hg
  go_wp2
  refine bodyPost_ret_by (v := .tuple #[va 0 0 0 ⟨#[]⟩, .int .i64 31]) ?_ rfl ⟨rfl, ?_⟩
  · simp [results, Tryz.results88, go_sem, r0, r1, r2, r3]
  · refine below_trans (Be.setCell (p := ⟨w.heap.size, 0, none⟩) (Nat.le_refl _) (.int .i64 0) |>.setCell (p := ⟨w.heap.size, 1, none⟩) (Nat.le_refl _) (.int .i64 0) |>.setCell (p := ⟨w.heap.size, 2, none⟩) (Nat.le_refl _) (.int .i64 0) |>.setCell (p := ⟨w.heap.size, 3, none⟩) (Nat.le_refl _) (.string ⟨#[]⟩)) (Grew.below ?_)
    repeat (first | assumption | exact Grew.refl _ | apply Grew.drew | apply Grew.drewN | apply Grew.alloc | apply Grew.more)


set_option maxRecDepth 20000 in
set_option maxHeartbeats 2000000 in
theorem called_point_noB (bk : Int) (bl off cap : Nat) (an am : Int) (ab : List UInt8) (bn bm : Int) (bb : List UInt8) (w : World) (hg : bl < w.heap.size) (c0 : w.cell? ⟨bl, off, none⟩ = some (.int .i64 1)) (c1 : w.cell? ⟨bl, off + 1, none⟩ = some (.int .i64 an)) (c2 : w.cell? ⟨bl, off + 2, none⟩ = some (.int .i64 am)) (c3 : w.cell? ⟨bl, off + 3, none⟩ = some (.string ⟨ab.toArray⟩)) (d0 : w.cell? ⟨bl, off + 4, none⟩ = some (.int .i64 bk)) (d1 : w.cell? ⟨bl, off + 4 + 1, none⟩ = some (.int .i64 bn)) (d2 : w.cell? ⟨bl, off + 4 + 2, none⟩ = some (.int .i64 bm)) (d3 : w.cell? ⟨bl, off + 4 + 3, none⟩ = some (.string ⟨bb.toArray⟩)) (e1 : (bk == 1) = false)
    :
    Calls Tryz.prog 88 #[.string ⟨#[112, 111, 105, 110, 116]⟩, .slice (some ⟨bl, off, none⟩) 2 cap] w fun e w' => e = .returned (.tuple #[va 0 0 0 ⟨#[]⟩, .int .i64 31]) ∧ Below w.heap.size w w' := by
  obtain ⟨w0, hw0, bxr, Bw⟩ := res_box w
  have z0 : IntKind.i64.wrap 1 = 1 := by rw [IntKind.wrap_i64]; rfl
  go_enter Tryz.func88, Tryz.ntmps88
  go_wp2_with fail
  rw [← hw0]
  clear hw0
  rw [← Bw.cell (p := ⟨bl, off, none⟩) hg] at c0
  rw [← Bw.cell (p := ⟨bl, off + 1, none⟩) hg] at c1
  rw [← Bw.cell (p := ⟨bl, off + 2, none⟩) hg] at c2
  rw [← Bw.cell (p := ⟨bl, off + 3, none⟩) hg] at c3
  rw [← Bw.cell (p := ⟨bl, off + 4, none⟩) hg] at d0
  rw [← Bw.cell (p := ⟨bl, off + 4 + 1, none⟩) hg] at d1
  rw [← Bw.cell (p := ⟨bl, off + 4 + 2, none⟩) hg] at d2
  rw [← Bw.cell (p := ⟨bl, off + 4 + 3, none⟩) hg] at d3
  replace hg : bl < w0.heap.size := Nat.lt_of_lt_of_le hg Bw.size
  go_cut [6, 7] from 8 (fun s0 s1 wx => ∃ p q : Nat, s0 = .pointer (some ⟨p, 0, none⟩) ∧ s1 = .pointer (some ⟨q, 0, none⟩) ∧ (wx.cell? ⟨p, 0, none⟩ = some (.int .i64 1) ∧ wx.cell? ⟨p, 1, none⟩ = some (.int .i64 an) ∧ wx.cell? ⟨p, 2, none⟩ = some (.int .i64 am) ∧ wx.cell? ⟨p, 3, none⟩ = some (.string ⟨ab.toArray⟩)) ∧ (wx.cell? ⟨q, 0, none⟩ = some (.int .i64 bk) ∧ wx.cell? ⟨q, 1, none⟩ = some (.int .i64 bn) ∧ wx.cell? ⟨q, 2, none⟩ = some (.int .i64 bm) ∧ wx.cell? ⟨q, 3, none⟩ = some (.string ⟨bb.toArray⟩)) ∧ w0.heap.size ≤ p ∧ w0.heap.size ≤ q ∧ Grew w0 wx)
  case first =>
    refine wp_region_held_drew (S := (fun W => W.cell? ⟨bl, off, none⟩ = some (.int .i64 1) ∧ W.cell? ⟨bl, off + 1, none⟩ = some (.int .i64 an) ∧ W.cell? ⟨bl, off + 2, none⟩ = some (.int .i64 am) ∧ W.cell? ⟨bl, off + 3, none⟩ = some (.string ⟨ab.toArray⟩) ∧ W.cell? ⟨bl, off + 4, none⟩ = some (.int .i64 bk) ∧ W.cell? ⟨bl, off + 4 + 1, none⟩ = some (.int .i64 bn) ∧ W.cell? ⟨bl, off + 4 + 2, none⟩ = some (.int .i64 bm) ∧ W.cell? ⟨bl, off + 4 + 3, none⟩ = some (.string ⟨bb.toArray⟩))) (by kernel_rfl) ?_ (fun hHeld => ?_)
    · ((try dsimp only); (simp (maxDischargeDepth := 12) [go_sem, c0, c1, c2, c3, d0, d1, d2, d3]))
    refine wpAnyH_take (i := 0) (oi := qcO0) (v := ?_) rfl (by kernel_rfl) (by kernel_rfl) (by kernel_rfl) (fun _ _ _ h => h) (Or.inl ⟨by rfl, ?_⟩) (by assumption) ?_
    rotate_left
    · (intro W hSw; (try dsimp only at hSw); try simp only [qcO0]; first | (go_simp; done) | (go_simp; with_reducible rfl))
    try simp only [qcO0, Act.put, List.setIfInBounds_toArray, List.set_cons_zero, List.set_cons_succ]
    refine wpAnyH_take (i := 1) (oi := qcO1) (v := ?_) rfl (by kernel_rfl) (by kernel_rfl) (by kernel_rfl) (fun _ _ _ h => h) (Or.inl ⟨by rfl, ?_⟩) (by assumption) ?_
    rotate_left
    · (intro W hSw; (try dsimp only at hSw); try simp only [qcO1]; first | (go_simp; done) | (go_simp; with_reducible rfl))
    try simp only [qcO1, Act.put, List.setIfInBounds_toArray, List.set_cons_zero, List.set_cons_succ]
    refine wpAnyH_take (i := 2) (oi := qcO2) (v := ?_) rfl (by kernel_rfl) (by kernel_rfl) (by kernel_rfl) (fun _ _ _ h => h) (Or.inl ⟨by rfl, ?_⟩) (by assumption) ?_
    rotate_left
    · (intro W hSw; (try dsimp only at hSw); try simp only [qcO2]; first | (go_simp; done) | (go_simp; with_reducible rfl))
    try simp only [qcO2, Act.put, List.setIfInBounds_toArray, List.set_cons_zero, List.set_cons_succ]
    refine wpAnyH_take (i := 3) (oi := qcO3) (v := ?_) rfl (by kernel_rfl) (by kernel_rfl) (by kernel_rfl) (fun _ _ _ h => h) (Or.inl ⟨by rfl, ?_⟩) (by assumption) ?_
    rotate_left
    · (intro W hSw; (try dsimp only at hSw); try simp only [qcO3]; first | (go_simp; done) | (go_simp; with_reducible rfl))
    try simp only [qcO3, Act.put, List.setIfInBounds_toArray, List.set_cons_zero, List.set_cons_succ]
    refine wpAnyH_take (i := 4) (oi := qcO4) (v := ?_) rfl (by kernel_rfl) (by kernel_rfl) (by kernel_rfl) (fun _ _ _ h => h) (Or.inl ⟨by rfl, ?_⟩) (by assumption) ?_
    rotate_left
    · (intro W hSw; (try dsimp only at hSw); try simp only [qcO4]; first | (go_simp; done) | (go_simp; with_reducible rfl))
    try simp only [qcO4, Act.put, List.setIfInBounds_toArray, List.set_cons_zero, List.set_cons_succ]
    refine wpAnyH_take (i := 5) (oi := qcO5) (v := ?_) rfl (by kernel_rfl) (by kernel_rfl) (by kernel_rfl) (fun _ _ _ h => h) (Or.inl ⟨by rfl, ?_⟩) (by assumption) ?_
    rotate_left
    · (intro W hSw; (try dsimp only at hSw); try simp only [qcO5]; first | (go_simp; done) | (go_simp; with_reducible rfl))
    try simp only [qcO5, Act.put, List.setIfInBounds_toArray, List.set_cons_zero, List.set_cons_succ]
    refine wpAnyH_take (i := 6) (oi := qcO6) (v := ?_) rfl (by kernel_rfl) (by kernel_rfl) (by kernel_rfl) (fun _ _ _ h => h) (Or.inl ⟨by rfl, ?_⟩) (by assumption) ?_
    rotate_left
    · (intro W hSw; (try dsimp only at hSw); try simp only [qcO6]; first | (go_simp; done) | (go_simp; with_reducible rfl))
    try simp only [qcO6, Act.put, List.setIfInBounds_toArray, List.set_cons_zero, List.set_cons_succ]
    refine wpAnyH_take (i := 7) (oi := qcO7) (v := ?_) rfl (by kernel_rfl) (by kernel_rfl) (by kernel_rfl) (fun _ _ _ h => h) (Or.inl ⟨by rfl, ?_⟩) (by assumption) ?_
    rotate_left
    · (intro W hSw; (try dsimp only at hSw); try simp only [qcO7]; first | (go_simp; done) | (go_simp; with_reducible rfl))
    try simp only [qcO7, Act.put, List.setIfInBounds_toArray, List.set_cons_zero, List.set_cons_succ]
    refine wpAnyH_take (i := 8) (oi := qcO8) (v := ?_) rfl (by kernel_rfl) (by kernel_rfl) (by kernel_rfl) (fun _ _ _ h => h) (Or.inl ⟨by rfl, ?_⟩) (by assumption) ?_
    rotate_left
    · (intro W hSw; (try dsimp only at hSw); try simp only [qcO8]; first | (go_simp; done) | (go_simp; with_reducible rfl))
    try simp only [qcO8, Act.put, List.setIfInBounds_toArray, List.set_cons_zero, List.set_cons_succ]
    refine wpAnyH_ready (rs := [9, 10]) (by kernel_rfl) (by simp) ?_
    refine AllReadyH.cons (o := qcO9) rfl (fun K hK => ?_) (AllReadyH.cons (o := qcO10) rfl (fun K hK => ?_) AllReadyH.nil)
    ·
      try simp only [qcO9]
      go_simp
      refine hK.out _ _ ?_ (fun hHeld => ?_)
      · ((try dsimp only); (simp (maxDischargeDepth := 12) [go_sem, c0, c1, c2, c3, hg, d0, d1, d2, d3]))
      clear hK K
      try simp only [Act.put, List.setIfInBounds_toArray, List.set_cons_zero, List.set_cons_succ]
      refine wpAnyH_ready (rs := [10]) (by kernel_rfl) (by simp) ?_
      refine AllReadyH.cons (o := qcO10) rfl (fun K hK => ?_) AllReadyH.nil
      try simp only [qcO10]
      go_simp
      refine hK.out _ _ ?_ (fun hHeld => ?_)
      · ((try dsimp only); (simp (maxDischargeDepth := 12) [go_sem, c0, c1, c2, c3, hg, d0, d1, d2, d3]))
      clear hK K
      try simp only [Act.put, List.setIfInBounds_toArray, List.set_cons_zero, List.set_cons_succ]
      refine wpAnyH_ready (rs := [11]) (by kernel_rfl) (by simp) ?_
      refine AllReadyH.cons (o := qcO11) rfl (fun K hK => ?_) AllReadyH.nil
      try simp only [qcO11]
      go_simp
      refine hK.out _ _ ?_ (fun hHeld => ?_)
      · ((try dsimp only); (simp (maxDischargeDepth := 12) [go_sem, c0, c1, c2, c3, hg, d0, d1, d2, d3]))
      clear hK K
      try simp only [Act.put, List.setIfInBounds_toArray, List.set_cons_zero, List.set_cons_succ]
      refine wpAnyH_ready (rs := [12]) (by kernel_rfl) (by simp) ?_
      refine AllReadyH.cons (o := qcO12) rfl (fun K hK => ?_) AllReadyH.nil
      try simp only [qcO12]
      go_simp
      refine hK.out _ _ ?_ (fun hHeld => ?_)
      · ((try dsimp only); (simp (maxDischargeDepth := 12) [go_sem, c0, c1, c2, c3, hg, d0, d1, d2, d3]))
      clear hK K
      try simp only [Act.put, List.setIfInBounds_toArray, List.set_cons_zero, List.set_cons_succ]
      refine wpAnyH_done (by kernel_rfl) ?_ _
      go_wp2_with fail
      go_meet
      exact ⟨_, _, rfl, rfl, ⟨by simp (maxDischargeDepth := 12) [go_sem], by simp (maxDischargeDepth := 12) [go_sem], by simp (maxDischargeDepth := 12) [go_sem], by simp (maxDischargeDepth := 12) [go_sem]⟩, ⟨by simp (maxDischargeDepth := 12) [go_sem], by simp (maxDischargeDepth := 12) [go_sem], by simp (maxDischargeDepth := 12) [go_sem], by simp (maxDischargeDepth := 12) [go_sem]⟩, by simp, by simp, (by repeat (first | assumption | exact Grew.refl _ | apply Grew.drew | apply Grew.drewN | apply Grew.alloc | apply Grew.more))⟩
    ·
      try simp only [qcO10]
      go_simp
      refine hK.out _ _ ?_ (fun hHeld => ?_)
      · ((try dsimp only); (simp (maxDischargeDepth := 12) [go_sem, c0, c1, c2, c3, hg, d0, d1, d2, d3]))
      clear hK K
      try simp only [Act.put, List.setIfInBounds_toArray, List.set_cons_zero, List.set_cons_succ]
      refine wpAnyH_ready (rs := [9]) (by kernel_rfl) (by simp) ?_
      refine AllReadyH.cons (o := qcO9) rfl (fun K hK => ?_) AllReadyH.nil
      try simp only [qcO9]
      go_simp
      refine hK.out _ _ ?_ (fun hHeld => ?_)
      · ((try dsimp only); (simp (maxDischargeDepth := 12) [go_sem, c0, c1, c2, c3, hg, d0, d1, d2, d3]))
      clear hK K
      try simp only [Act.put, List.setIfInBounds_toArray, List.set_cons_zero, List.set_cons_succ]
      refine wpAnyH_ready (rs := [11]) (by kernel_rfl) (by simp) ?_
      refine AllReadyH.cons (o := qcO11) rfl (fun K hK => ?_) AllReadyH.nil
      try simp only [qcO11]
      go_simp
      refine hK.out _ _ ?_ (fun hHeld => ?_)
      · ((try dsimp only); (simp (maxDischargeDepth := 12) [go_sem, c0, c1, c2, c3, hg, d0, d1, d2, d3]))
      clear hK K
      try simp only [Act.put, List.setIfInBounds_toArray, List.set_cons_zero, List.set_cons_succ]
      refine wpAnyH_ready (rs := [12]) (by kernel_rfl) (by simp) ?_
      refine AllReadyH.cons (o := qcO12) rfl (fun K hK => ?_) AllReadyH.nil
      try simp only [qcO12]
      go_simp
      refine hK.out _ _ ?_ (fun hHeld => ?_)
      · ((try dsimp only); (simp (maxDischargeDepth := 12) [go_sem, c0, c1, c2, c3, hg, d0, d1, d2, d3]))
      clear hK K
      try simp only [Act.put, List.setIfInBounds_toArray, List.set_cons_zero, List.set_cons_succ]
      refine wpAnyH_done (by kernel_rfl) ?_ _
      go_wp2_with fail
      go_meet
      exact ⟨_, _, rfl, rfl, ⟨by simp (maxDischargeDepth := 12) [go_sem], by simp (maxDischargeDepth := 12) [go_sem], by simp (maxDischargeDepth := 12) [go_sem], by simp (maxDischargeDepth := 12) [go_sem]⟩, ⟨by simp (maxDischargeDepth := 12) [go_sem], by simp (maxDischargeDepth := 12) [go_sem], by simp (maxDischargeDepth := 12) [go_sem], by simp (maxDischargeDepth := 12) [go_sem]⟩, by simp, by simp, (by repeat (first | assumption | exact Grew.refl _ | apply Grew.drew | apply Grew.drewN | apply Grew.alloc | apply Grew.more))⟩
  rename World => w1
  obtain ⟨p, q, rfl, rfl, ⟨p0, p1, p2, p3⟩, ⟨q0, q1, q2, q3⟩, gp, gq, g⟩ := hcut
  have lp := World.block_lt_of_cell? w1 _ p0
  have lq := World.block_lt_of_cell? w1 _ q0
  have B1 := g.below
  have br := bxr.later B1
  obtain ⟨r0, r1, r2, r3⟩ := br.at4
  dsimp only [nul] at r0 r1 r2 r3
  simp only [Nat.zero_add] at r1 r2 r3
  have f0 := br.free 0
  have f1 := br.free 1
  have f2 := br.free 2
  have f3 := br.free 3
  have lt1 := br.lt
  have Be := below_trans Bw B1
  have lr := bxr.lt
  have np : ¬ w.heap.size = p := by omega
  have nq : ¬ w.heap.size = q := by omega
  clear gp gq lr
  clear br bxr g c0 c1 c2 c3 hg d0 d1 d2 d3
  go_wp2
  refine bodyPost_ret_by (v := .tuple #[va 0 0 0 ⟨#[]⟩, .int .i64 31]) ?_ rfl ⟨rfl, ?_⟩
  · simp [results, Tryz.results88, go_sem, r0, r1, r2, r3]
  · refine below_trans (Be.setCell (p := ⟨w.heap.size, 0, none⟩) (Nat.le_refl _) (.int .i64 0) |>.setCell (p := ⟨w.heap.size, 1, none⟩) (Nat.le_refl _) (.int .i64 0) |>.setCell (p := ⟨w.heap.size, 2, none⟩) (Nat.le_refl _) (.int .i64 0) |>.setCell (p := ⟨w.heap.size, 3, none⟩) (Nat.le_refl _) (.string ⟨#[]⟩)) (Grew.below ?_)
    repeat (first | assumption | exact Grew.refl _ | apply Grew.drew | apply Grew.drewN | apply Grew.alloc | apply Grew.more)


set_option maxRecDepth 20000 in
set_option maxHeartbeats 2000000 in
theorem called_round_noA (ak : Int) (bk : Int) (bl off cap : Nat) (an am : Int) (ab : List UInt8) (bn bm : Int) (bb : List UInt8) (w : World) (hg : bl < w.heap.size) (c0 : w.cell? ⟨bl, off, none⟩ = some (.int .i64 ak)) (c1 : w.cell? ⟨bl, off + 1, none⟩ = some (.int .i64 an)) (c2 : w.cell? ⟨bl, off + 2, none⟩ = some (.int .i64 am)) (c3 : w.cell? ⟨bl, off + 3, none⟩ = some (.string ⟨ab.toArray⟩)) (d0 : w.cell? ⟨bl, off + 4, none⟩ = some (.int .i64 bk)) (d1 : w.cell? ⟨bl, off + 4 + 1, none⟩ = some (.int .i64 bn)) (d2 : w.cell? ⟨bl, off + 4 + 2, none⟩ = some (.int .i64 bm)) (d3 : w.cell? ⟨bl, off + 4 + 3, none⟩ = some (.string ⟨bb.toArray⟩)) (e1 : (ak == 1) = false) (e2 : (ak == 2) = false)
    :
    Calls Tryz.prog 88 #[.string ⟨#[114, 111, 117, 110, 100]⟩, .slice (some ⟨bl, off, none⟩) 2 cap] w fun e w' => e = .returned (.tuple #[va 0 0 0 ⟨#[]⟩, .int .i64 31]) ∧ Below w.heap.size w w' := by
  obtain ⟨w0, hw0, bxr, Bw⟩ := res_box w
  have z0 : IntKind.i64.wrap 1 = 1 := by rw [IntKind.wrap_i64]; rfl
  go_enter Tryz.func88, Tryz.ntmps88
  go_wp2_with fail
  rw [← hw0]
  clear hw0
  rw [← Bw.cell (p := ⟨bl, off, none⟩) hg] at c0
  rw [← Bw.cell (p := ⟨bl, off + 1, none⟩) hg] at c1
  rw [← Bw.cell (p := ⟨bl, off + 2, none⟩) hg] at c2
  rw [← Bw.cell (p := ⟨bl, off + 3, none⟩) hg] at c3
  rw [← Bw.cell (p := ⟨bl, off + 4, none⟩) hg] at d0
  rw [← Bw.cell (p := ⟨bl, off + 4 + 1, none⟩) hg] at d1
  rw [← Bw.cell (p := ⟨bl, off + 4 + 2, none⟩) hg] at d2
  rw [← Bw.cell (p := ⟨bl, off + 4 + 3, none⟩) hg] at d3
  replace hg : bl < w0.heap.size := Nat.lt_of_lt_of_le hg Bw.size
  go_cut [6, 7] from 8 (fun s0 s1 wx => ∃ p q : Nat, s0 = .pointer (some ⟨p, 0, none⟩) ∧ s1 = .pointer (some ⟨q, 0, none⟩) ∧ (wx.cell? ⟨p, 0, none⟩ = some (.int .i64 ak) ∧ wx.cell? ⟨p, 1, none⟩ = some (.int .i64 an) ∧ wx.cell? ⟨p, 2, none⟩ = some (.int .i64 am) ∧ wx.cell? ⟨p, 3, none⟩ = some (.string ⟨ab.toArray⟩)) ∧ (wx.cell? ⟨q, 0, none⟩ = some (.int .i64 bk) ∧ wx.cell? ⟨q, 1, none⟩ = some (.int .i64 bn) ∧ wx.cell? ⟨q, 2, none⟩ = some (.int .i64 bm) ∧ wx.cell? ⟨q, 3, none⟩ = some (.string ⟨bb.toArray⟩)) ∧ w0.heap.size ≤ p ∧ w0.heap.size ≤ q ∧ Grew w0 wx)
  case first =>
    refine wp_region_held_drew (S := (fun W => W.cell? ⟨bl, off, none⟩ = some (.int .i64 ak) ∧ W.cell? ⟨bl, off + 1, none⟩ = some (.int .i64 an) ∧ W.cell? ⟨bl, off + 2, none⟩ = some (.int .i64 am) ∧ W.cell? ⟨bl, off + 3, none⟩ = some (.string ⟨ab.toArray⟩) ∧ W.cell? ⟨bl, off + 4, none⟩ = some (.int .i64 bk) ∧ W.cell? ⟨bl, off + 4 + 1, none⟩ = some (.int .i64 bn) ∧ W.cell? ⟨bl, off + 4 + 2, none⟩ = some (.int .i64 bm) ∧ W.cell? ⟨bl, off + 4 + 3, none⟩ = some (.string ⟨bb.toArray⟩))) (by kernel_rfl) ?_ (fun hHeld => ?_)
    · ((try dsimp only); (simp (maxDischargeDepth := 12) [go_sem, c0, c1, c2, c3, d0, d1, d2, d3]))
    refine wpAnyH_take (i := 0) (oi := qcO0) (v := ?_) rfl (by kernel_rfl) (by kernel_rfl) (by kernel_rfl) (fun _ _ _ h => h) (Or.inl ⟨by rfl, ?_⟩) (by assumption) ?_
    rotate_left
    · (intro W hSw; (try dsimp only at hSw); try simp only [qcO0]; first | (go_simp; done) | (go_simp; with_reducible rfl))
    try simp only [qcO0, Act.put, List.setIfInBounds_toArray, List.set_cons_zero, List.set_cons_succ]
    refine wpAnyH_take (i := 1) (oi := qcO1) (v := ?_) rfl (by kernel_rfl) (by kernel_rfl) (by kernel_rfl) (fun _ _ _ h => h) (Or.inl ⟨by rfl, ?_⟩) (by assumption) ?_
    rotate_left
    · (intro W hSw; (try dsimp only at hSw); try simp only [qcO1]; first | (go_simp; done) | (go_simp; with_reducible rfl))
    try simp only [qcO1, Act.put, List.setIfInBounds_toArray, List.set_cons_zero, List.set_cons_succ]
    refine wpAnyH_take (i := 2) (oi := qcO2) (v := ?_) rfl (by kernel_rfl) (by kernel_rfl) (by kernel_rfl) (fun _ _ _ h => h) (Or.inl ⟨by rfl, ?_⟩) (by assumption) ?_
    rotate_left
    · (intro W hSw; (try dsimp only at hSw); try simp only [qcO2]; first | (go_simp; done) | (go_simp; with_reducible rfl))
    try simp only [qcO2, Act.put, List.setIfInBounds_toArray, List.set_cons_zero, List.set_cons_succ]
    refine wpAnyH_take (i := 3) (oi := qcO3) (v := ?_) rfl (by kernel_rfl) (by kernel_rfl) (by kernel_rfl) (fun _ _ _ h => h) (Or.inl ⟨by rfl, ?_⟩) (by assumption) ?_
    rotate_left
    · (intro W hSw; (try dsimp only at hSw); try simp only [qcO3]; first | (go_simp; done) | (go_simp; with_reducible rfl))
    try simp only [qcO3, Act.put, List.setIfInBounds_toArray, List.set_cons_zero, List.set_cons_succ]
    refine wpAnyH_take (i := 4) (oi := qcO4) (v := ?_) rfl (by kernel_rfl) (by kernel_rfl) (by kernel_rfl) (fun _ _ _ h => h) (Or.inl ⟨by rfl, ?_⟩) (by assumption) ?_
    rotate_left
    · (intro W hSw; (try dsimp only at hSw); try simp only [qcO4]; first | (go_simp; done) | (go_simp; with_reducible rfl))
    try simp only [qcO4, Act.put, List.setIfInBounds_toArray, List.set_cons_zero, List.set_cons_succ]
    refine wpAnyH_take (i := 5) (oi := qcO5) (v := ?_) rfl (by kernel_rfl) (by kernel_rfl) (by kernel_rfl) (fun _ _ _ h => h) (Or.inl ⟨by rfl, ?_⟩) (by assumption) ?_
    rotate_left
    · (intro W hSw; (try dsimp only at hSw); try simp only [qcO5]; first | (go_simp; done) | (go_simp; with_reducible rfl))
    try simp only [qcO5, Act.put, List.setIfInBounds_toArray, List.set_cons_zero, List.set_cons_succ]
    refine wpAnyH_take (i := 6) (oi := qcO6) (v := ?_) rfl (by kernel_rfl) (by kernel_rfl) (by kernel_rfl) (fun _ _ _ h => h) (Or.inl ⟨by rfl, ?_⟩) (by assumption) ?_
    rotate_left
    · (intro W hSw; (try dsimp only at hSw); try simp only [qcO6]; first | (go_simp; done) | (go_simp; with_reducible rfl))
    try simp only [qcO6, Act.put, List.setIfInBounds_toArray, List.set_cons_zero, List.set_cons_succ]
    refine wpAnyH_take (i := 7) (oi := qcO7) (v := ?_) rfl (by kernel_rfl) (by kernel_rfl) (by kernel_rfl) (fun _ _ _ h => h) (Or.inl ⟨by rfl, ?_⟩) (by assumption) ?_
    rotate_left
    · (intro W hSw; (try dsimp only at hSw); try simp only [qcO7]; first | (go_simp; done) | (go_simp; with_reducible rfl))
    try simp only [qcO7, Act.put, List.setIfInBounds_toArray, List.set_cons_zero, List.set_cons_succ]
    refine wpAnyH_take (i := 8) (oi := qcO8) (v := ?_) rfl (by kernel_rfl) (by kernel_rfl) (by kernel_rfl) (fun _ _ _ h => h) (Or.inl ⟨by rfl, ?_⟩) (by assumption) ?_
    rotate_left
    · (intro W hSw; (try dsimp only at hSw); try simp only [qcO8]; first | (go_simp; done) | (go_simp; with_reducible rfl))
    try simp only [qcO8, Act.put, List.setIfInBounds_toArray, List.set_cons_zero, List.set_cons_succ]
    refine wpAnyH_ready (rs := [9, 10]) (by kernel_rfl) (by simp) ?_
    refine AllReadyH.cons (o := qcO9) rfl (fun K hK => ?_) (AllReadyH.cons (o := qcO10) rfl (fun K hK => ?_) AllReadyH.nil)
    ·
      try simp only [qcO9]
      go_simp
      refine hK.out _ _ ?_ (fun hHeld => ?_)
      · ((try dsimp only); (simp (maxDischargeDepth := 12) [go_sem, c0, c1, c2, c3, hg, d0, d1, d2, d3]))
      clear hK K
      try simp only [Act.put, List.setIfInBounds_toArray, List.set_cons_zero, List.set_cons_succ]
      refine wpAnyH_ready (rs := [10]) (by kernel_rfl) (by simp) ?_
      refine AllReadyH.cons (o := qcO10) rfl (fun K hK => ?_) AllReadyH.nil
      try simp only [qcO10]
      go_simp
      refine hK.out _ _ ?_ (fun hHeld => ?_)
      · ((try dsimp only); (simp (maxDischargeDepth := 12) [go_sem, c0, c1, c2, c3, hg, d0, d1, d2, d3]))
      clear hK K
      try simp only [Act.put, List.setIfInBounds_toArray, List.set_cons_zero, List.set_cons_succ]
      refine wpAnyH_ready (rs := [11]) (by kernel_rfl) (by simp) ?_
      refine AllReadyH.cons (o := qcO11) rfl (fun K hK => ?_) AllReadyH.nil
      try simp only [qcO11]
      go_simp
      refine hK.out _ _ ?_ (fun hHeld => ?_)
      · ((try dsimp only); (simp (maxDischargeDepth := 12) [go_sem, c0, c1, c2, c3, hg, d0, d1, d2, d3]))
      clear hK K
      try simp only [Act.put, List.setIfInBounds_toArray, List.set_cons_zero, List.set_cons_succ]
      refine wpAnyH_ready (rs := [12]) (by kernel_rfl) (by simp) ?_
      refine AllReadyH.cons (o := qcO12) rfl (fun K hK => ?_) AllReadyH.nil
      try simp only [qcO12]
      go_simp
      refine hK.out _ _ ?_ (fun hHeld => ?_)
      · ((try dsimp only); (simp (maxDischargeDepth := 12) [go_sem, c0, c1, c2, c3, hg, d0, d1, d2, d3]))
      clear hK K
      try simp only [Act.put, List.setIfInBounds_toArray, List.set_cons_zero, List.set_cons_succ]
      refine wpAnyH_done (by kernel_rfl) ?_ _
      go_wp2_with fail
      go_meet
      exact ⟨_, _, rfl, rfl, ⟨by simp (maxDischargeDepth := 12) [go_sem], by simp (maxDischargeDepth := 12) [go_sem], by simp (maxDischargeDepth := 12) [go_sem], by simp (maxDischargeDepth := 12) [go_sem]⟩, ⟨by simp (maxDischargeDepth := 12) [go_sem], by simp (maxDischargeDepth := 12) [go_sem], by simp (maxDischargeDepth := 12) [go_sem], by simp (maxDischargeDepth := 12) [go_sem]⟩, by simp, by simp, (by repeat (first | assumption | exact Grew.refl _ | apply Grew.drew | apply Grew.drewN | apply Grew.alloc | apply Grew.more))⟩
    ·
      try simp only [qcO10]
      go_simp
      refine hK.out _ _ ?_ (fun hHeld => ?_)
      · ((try dsimp only); (simp (maxDischargeDepth := 12) [go_sem, c0, c1, c2, c3, hg, d0, d1, d2, d3]))
      clear hK K
      try simp only [Act.put, List.setIfInBounds_toArray, List.set_cons_zero, List.set_cons_succ]
      refine wpAnyH_ready (rs := [9]) (by kernel_rfl) (by simp) ?_
      refine AllReadyH.cons (o := qcO9) rfl (fun K hK => ?_) AllReadyH.nil
      try simp only [qcO9]
      go_simp
      refine hK.out _ _ ?_ (fun hHeld => ?_)
      · ((try dsimp only); (simp (maxDischargeDepth := 12) [go_sem, c0, c1, c2, c3, hg, d0, d1, d2, d3]))
      clear hK K
      try simp only [Act.put, List.setIfInBounds_toArray, List.set_cons_zero, List.set_cons_succ]
      refine wpAnyH_ready (rs := [11]) (by kernel_rfl) (by simp) ?_
      refine AllReadyH.cons (o := qcO11) rfl (fun K hK => ?_) AllReadyH.nil
      try simp only [qcO11]
      go_simp
      refine hK.out _ _ ?_ (fun hHeld => ?_)
      · ((try dsimp only); (simp (maxDischargeDepth := 12) [go_sem, c0, c1, c2, c3, hg, d0, d1, d2, d3]))
      clear hK K
      try simp only [Act.put, List.setIfInBounds_toArray, List.set_cons_zero, List.set_cons_succ]
      refine wpAnyH_ready (rs := [12]) (by kernel_rfl) (by simp) ?_
      refine AllReadyH.cons (o := qcO12) rfl (fun K hK => ?_) AllReadyH.nil
      try simp only [qcO12]
      go_simp
      refine hK.out _ _ ?_ (fun hHeld => ?_)
      · ((try dsimp only); (simp (maxDischargeDepth := 12) [go_sem, c0, c1, c2, c3, hg, d0, d1, d2, d3]))
      clear hK K
      try simp only [Act.put, List.setIfInBounds_toArray, List.set_cons_zero, List.set_cons_succ]
      refine wpAnyH_done (by kernel_rfl) ?_ _
      go_wp2_with fail
      go_meet
      exact ⟨_, _, rfl, rfl, ⟨by simp (maxDischargeDepth := 12) [go_sem], by simp (maxDischargeDepth := 12) [go_sem], by simp (maxDischargeDepth := 12) [go_sem], by simp (maxDischargeDepth := 12) [go_sem]⟩, ⟨by simp (maxDischargeDepth := 12) [go_sem], by simp (maxDischargeDepth := 12) [go_sem], by simp (maxDischargeDepth := 12) [go_sem], by simp (maxDischargeDepth := 12) [go_sem]⟩, by simp, by simp, (by repeat (first | assumption | exact Grew.refl _ | apply Grew.drew | apply Grew.drewN | apply Grew.alloc | apply Grew.more))⟩
  rename World => w1
  obtain ⟨p, q, rfl, rfl, ⟨p0, p1, p2, p3⟩, ⟨q0, q1, q2, q3⟩, gp, gq, g⟩ := hcut
  have lp := World.block_lt_of_cell? w1 _ p0
  have lq := World.block_lt_of_cell? w1 _ q0
  have B1 := g.below
  have br := bxr.later B1
  obtain ⟨r0, r1, r2, r3⟩ := br.at4
  dsimp only [nul] at r0 r1 r2 r3
  simp only [Nat.zero_add] at r1 r2 r3
  have f0 := br.free 0
  have f1 := br.free 1
  have f2 := br.free 2
  have f3 := br.free 3
  have lt1 := br.lt
  have Be := below_trans Bw B1
  have lr := bxr.lt
  have np : ¬ w.heap.size = p := by omega
  have nq : ¬ w.heap.size = q := by omega
  clear gp gq lr
  clear br bxr g c0 c1 c2 c3 hg d0 d1 d2 d3
  go_wp2_with (first
    | (go_at_call 78; refine (qnumber_any _ _ _ _ _).mono ?_; rintro e w2 ⟨rfl, os0, n0, rfl⟩))
  refine bodyPost_ret_by (v := .tuple #[va 0 0 0 ⟨#[]⟩, .int .i64 31]) ?_ rfl ⟨rfl, ?_⟩
  · simp [results, Tryz.results88, go_sem, r0, r1, r2, r3, lt1]
  · refine below_trans (Be.setCell (p := ⟨w.heap.size, 0, none⟩) (Nat.le_refl _) (.int .i64 0) |>.setCell (p := ⟨w.heap.size, 1, none⟩) (Nat.le_refl _) (.int .i64 0) |>.setCell (p := ⟨w.heap.size, 2, none⟩) (Nat.le_refl _) (.int .i64 0) |>.setCell (p := ⟨w.heap.size, 3, none⟩) (Nat.le_refl _) (.string ⟨#[]⟩)) (Grew.below ?_)
    repeat (first | assumption | exact Grew.refl _ | apply Grew.drew | apply Grew.drewN | apply Grew.alloc | apply Grew.more)
end Go.Proofs.YtclhmmgdhagloaaGreatDoor

namespace Go.Proofs.YtclhmmgdhagloaaGreatDoor
open Go.RowKit Go.Shelf
attribute [local go_sem] cell?_more frozen?_more setCell_more more_lt more_more more_drew more_drewN setCell_drewN alloc_drewN cell?_drawTo frozen?_drawTo heap_drawTo setCell_drawTo alloc_drawTo drewN_drawTo drew_drawTo drawTo_drewN drawTo_drew drawTo_drawTo more_drawTo

set_option maxRecDepth 20000 in
set_option maxHeartbeats 2000000 in
theorem called_abs1 (bl off cap : Nat) (an am : Int) (ab : List UInt8) (w : World) (hg : bl < w.heap.size) (c0 : w.cell? ⟨bl, off, none⟩ = some (.int .i64 1)) (c1 : w.cell? ⟨bl, off + 1, none⟩ = some (.int .i64 an)) (c2 : w.cell? ⟨bl, off + 2, none⟩ = some (.int .i64 am)) (c3 : w.cell? ⟨bl, off + 3, none⟩ = some (.string ⟨ab.toArray⟩)) (rk rn rm re : Int) (rb : ByteArray)
    (F : Tells 165 #[va 1 an am ⟨ab.toArray⟩] w (.tuple #[va rk rn rm rb, .int .i64 re]))
:
    Calls Tryz.prog 88 #[.string ⟨#[97, 98, 115]⟩, .slice (some ⟨bl, off, none⟩) 1 cap] w fun e w' => e = .returned (.tuple #[va rk rn rm rb, .int .i64 re]) ∧ Below w.heap.size w w' := by
  obtain ⟨w0, hw0, bxr, Bw⟩ := res_box w
  have z0 : IntKind.i64.wrap 0 = 0 := by rw [IntKind.wrap_i64]; rfl
  go_enter Tryz.func88, Tryz.ntmps88
  go_wp2_with fail
  rw [← hw0]
  clear hw0
  rw [← Bw.cell (p := ⟨bl, off, none⟩) hg] at c0
  rw [← Bw.cell (p := ⟨bl, off + 1, none⟩) hg] at c1
  rw [← Bw.cell (p := ⟨bl, off + 2, none⟩) hg] at c2
  rw [← Bw.cell (p := ⟨bl, off + 3, none⟩) hg] at c3
  replace hg : bl < w0.heap.size := Nat.lt_of_lt_of_le hg Bw.size
  go_cut [6, 7] from 8 (fun s0 s1 wx => ∃ p q : Nat, s0 = .pointer (some ⟨p, 0, none⟩) ∧ s1 = .pointer (some ⟨q, 0, none⟩) ∧ (wx.cell? ⟨p, 0, none⟩ = some (.int .i64 1) ∧ wx.cell? ⟨p, 1, none⟩ = some (.int .i64 an) ∧ wx.cell? ⟨p, 2, none⟩ = some (.int .i64 am) ∧ wx.cell? ⟨p, 3, none⟩ = some (.string ⟨ab.toArray⟩)) ∧ (wx.cell? ⟨q, 0, none⟩ = some (.int .i64 1) ∧ wx.cell? ⟨q, 1, none⟩ = some (.int .i64 an) ∧ wx.cell? ⟨q, 2, none⟩ = some (.int .i64 am) ∧ wx.cell? ⟨q, 3, none⟩ = some (.string ⟨ab.toArray⟩)) ∧ w0.heap.size ≤ p ∧ w0.heap.size ≤ q ∧ Grew w0 wx)
  case first =>
    refine wp_region_held_drew (S := (fun W => W.cell? ⟨bl, off, none⟩ = some (.int .i64 1) ∧ W.cell? ⟨bl, off + 1, none⟩ = some (.int .i64 an) ∧ W.cell? ⟨bl, off + 2, none⟩ = some (.int .i64 am) ∧ W.cell? ⟨bl, off + 3, none⟩ = some (.string ⟨ab.toArray⟩))) (by kernel_rfl) ?_ (fun hHeld => ?_)
    · ((try dsimp only); (simp (maxDischargeDepth := 12) [go_sem, c0, c1, c2, c3]))
    refine wpAnyH_take (i := 0) (oi := qcO0) (v := ?_) rfl (by kernel_rfl) (by kernel_rfl) (by kernel_rfl) (fun _ _ _ h => h) (Or.inl ⟨by rfl, ?_⟩) (by assumption) ?_
    rotate_left
    · (intro W hSw; (try dsimp only at hSw); try simp only [qcO0]; first | (go_simp; done) | (go_simp; with_reducible rfl))
    try simp only [qcO0, Act.put, List.setIfInBounds_toArray, List.set_cons_zero, List.set_cons_succ]
    refine wpAnyH_take (i := 1) (oi := qcO1) (v := ?_) rfl (by kernel_rfl) (by kernel_rfl) (by kernel_rfl) (fun _ _ _ h => h) (Or.inl ⟨by rfl, ?_⟩) (by assumption) ?_
    rotate_left
    · (intro W hSw; (try dsimp only at hSw); try simp only [qcO1]; first | (go_simp; done) | (go_simp; with_reducible rfl))
    try simp only [qcO1, Act.put, List.setIfInBounds_toArray, List.set_cons_zero, List.set_cons_succ]
    refine wpAnyH_take (i := 2) (oi := qcO2) (v := ?_) rfl (by kernel_rfl) (by kernel_rfl) (by kernel_rfl) (fun _ _ _ h => h) (Or.inl ⟨by rfl, ?_⟩) (by assumption) ?_
    rotate_left
    · (intro W hSw; (try dsimp only at hSw); try simp only [qcO2]; first | (go_simp; done) | (go_simp; with_reducible rfl))
    try simp only [qcO2, Act.put, List.setIfInBounds_toArray, List.set_cons_zero, List.set_cons_succ]
    refine wpAnyH_take (i := 3) (oi := qcO3) (v := ?_) rfl (by kernel_rfl) (by kernel_rfl) (by kernel_rfl) (fun _ _ _ h => h) (Or.inl ⟨by rfl, ?_⟩) (by assumption) ?_
    rotate_left
    · (intro W hSw; (try dsimp only at hSw); try simp only [qcO3]; first | (go_simp; done) | (go_simp; with_reducible rfl))
    try simp only [qcO3, Act.put, List.setIfInBounds_toArray, List.set_cons_zero, List.set_cons_succ]
    refine wpAnyH_take (i := 4) (oi := qcO4) (v := ?_) rfl (by kernel_rfl) (by kernel_rfl) (by kernel_rfl) (fun _ _ _ h => h) (Or.inl ⟨by rfl, ?_⟩) (by assumption) ?_
    rotate_left
    · (intro W hSw; (try dsimp only at hSw); try simp only [qcO4]; first | (go_simp; done) | (go_simp; with_reducible rfl))
    try simp only [qcO4, Act.put, List.setIfInBounds_toArray, List.set_cons_zero, List.set_cons_succ]
    refine wpAnyH_take (i := 5) (oi := qcO5) (v := ?_) rfl (by kernel_rfl) (by kernel_rfl) (by kernel_rfl) (fun _ _ _ h => h) (Or.inl ⟨by rfl, ?_⟩) (by assumption) ?_
    rotate_left
    · (intro W hSw; (try dsimp only at hSw); try simp only [qcO5]; first | (go_simp; done) | (go_simp; with_reducible rfl))
    try simp only [qcO5, Act.put, List.setIfInBounds_toArray, List.set_cons_zero, List.set_cons_succ]
    refine wpAnyH_take (i := 6) (oi := qcO6) (v := ?_) rfl (by kernel_rfl) (by kernel_rfl) (by kernel_rfl) (fun _ _ _ h => h) (Or.inl ⟨by rfl, ?_⟩) (by assumption) ?_
    rotate_left
    · (intro W hSw; (try dsimp only at hSw); try simp only [qcO6]; first | (go_simp; done) | (go_simp; with_reducible rfl))
    try simp only [qcO6, Act.put, List.setIfInBounds_toArray, List.set_cons_zero, List.set_cons_succ]
    refine wpAnyH_take (i := 7) (oi := qcO7) (v := ?_) rfl (by kernel_rfl) (by kernel_rfl) (by kernel_rfl) (fun _ _ _ h => h) (Or.inl ⟨by rfl, ?_⟩) (by assumption) ?_
    rotate_left
    · (intro W hSw; (try dsimp only at hSw); try simp only [qcO7]; first | (go_simp; done) | (go_simp; with_reducible rfl))
    try simp only [qcO7, Act.put, List.setIfInBounds_toArray, List.set_cons_zero, List.set_cons_succ]
    refine wpAnyH_take (i := 8) (oi := qcO8) (v := ?_) rfl (by kernel_rfl) (by kernel_rfl) (by kernel_rfl) (fun _ _ _ h => h) (Or.inl ⟨by rfl, ?_⟩) (by assumption) ?_
    rotate_left
    · (intro W hSw; (try dsimp only at hSw); try simp only [qcO8]; first | (go_simp; done) | (go_simp; with_reducible rfl))
    try simp only [qcO8, Act.put, List.setIfInBounds_toArray, List.set_cons_zero, List.set_cons_succ]
    refine wpAnyH_ready (rs := [9, 10]) (by kernel_rfl) (by simp) ?_
    refine AllReadyH.cons (o := qcO9) rfl (fun K hK => ?_) (AllReadyH.cons (o := qcO10) rfl (fun K hK => ?_) AllReadyH.nil)
    ·
      try simp only [qcO9]
      go_simp
      refine hK.out _ _ ?_ (fun hHeld => ?_)
      · ((try dsimp only); (simp (maxDischargeDepth := 12) [go_sem, c0, c1, c2, c3, hg]))
      clear hK K
      try simp only [Act.put, List.setIfInBounds_toArray, List.set_cons_zero, List.set_cons_succ]
      refine wpAnyH_ready (rs := [10]) (by kernel_rfl) (by simp) ?_
      refine AllReadyH.cons (o := qcO10) rfl (fun K hK => ?_) AllReadyH.nil
      try simp only [qcO10]
      go_simp
      refine hK.out _ _ ?_ (fun hHeld => ?_)
      · ((try dsimp only); (simp (maxDischargeDepth := 12) [go_sem, c0, c1, c2, c3, hg]))
      clear hK K
      try simp only [Act.put, List.setIfInBounds_toArray, List.set_cons_zero, List.set_cons_succ]
      refine wpAnyH_ready (rs := [11]) (by kernel_rfl) (by simp) ?_
      refine AllReadyH.cons (o := qcO11) rfl (fun K hK => ?_) AllReadyH.nil
      try simp only [qcO11]
      go_simp
      refine hK.out _ _ ?_ (fun hHeld => ?_)
      · ((try dsimp only); (simp (maxDischargeDepth := 12) [go_sem, c0, c1, c2, c3, hg]))
      clear hK K
      try simp only [Act.put, List.setIfInBounds_toArray, List.set_cons_zero, List.set_cons_succ]
      refine wpAnyH_ready (rs := [12]) (by kernel_rfl) (by simp) ?_
      refine AllReadyH.cons (o := qcO12) rfl (fun K hK => ?_) AllReadyH.nil
      try simp only [qcO12]
      go_simp
      refine hK.out _ _ ?_ (fun hHeld => ?_)
      · ((try dsimp only); (simp (maxDischargeDepth := 12) [go_sem, c0, c1, c2, c3, hg]))
      clear hK K
      try simp only [Act.put, List.setIfInBounds_toArray, List.set_cons_zero, List.set_cons_succ]
      refine wpAnyH_done (by kernel_rfl) ?_ _
      go_wp2_with fail
      go_meet
      exact ⟨_, _, rfl, rfl, ⟨by simp (maxDischargeDepth := 12) [go_sem], by simp (maxDischargeDepth := 12) [go_sem], by simp (maxDischargeDepth := 12) [go_sem], by simp (maxDischargeDepth := 12) [go_sem]⟩, ⟨by simp (maxDischargeDepth := 12) [go_sem], by simp (maxDischargeDepth := 12) [go_sem], by simp (maxDischargeDepth := 12) [go_sem], by simp (maxDischargeDepth := 12) [go_sem]⟩, by simp, by simp, (by repeat (first | assumption | exact Grew.refl _ | apply Grew.drew | apply Grew.drewN | apply Grew.alloc | apply Grew.more))⟩
    ·
      try simp only [qcO10]
      go_simp
      refine hK.out _ _ ?_ (fun hHeld => ?_)
      · ((try dsimp only); (simp (maxDischargeDepth := 12) [go_sem, c0, c1, c2, c3, hg]))
      clear hK K
      try simp only [Act.put, List.setIfInBounds_toArray, List.set_cons_zero, List.set_cons_succ]
      refine wpAnyH_ready (rs := [9]) (by kernel_rfl) (by simp) ?_
      refine AllReadyH.cons (o := qcO9) rfl (fun K hK => ?_) AllReadyH.nil
      try simp only [qcO9]
      go_simp
      refine hK.out _ _ ?_ (fun hHeld => ?_)
      · ((try dsimp only); (simp (maxDischargeDepth := 12) [go_sem, c0, c1, c2, c3, hg]))
      clear hK K
      try simp only [Act.put, List.setIfInBounds_toArray, List.set_cons_zero, List.set_cons_succ]
      refine wpAnyH_ready (rs := [11]) (by kernel_rfl) (by simp) ?_
      refine AllReadyH.cons (o := qcO11) rfl (fun K hK => ?_) AllReadyH.nil
      try simp only [qcO11]
      go_simp
      refine hK.out _ _ ?_ (fun hHeld => ?_)
      · ((try dsimp only); (simp (maxDischargeDepth := 12) [go_sem, c0, c1, c2, c3, hg]))
      clear hK K
      try simp only [Act.put, List.setIfInBounds_toArray, List.set_cons_zero, List.set_cons_succ]
      refine wpAnyH_ready (rs := [12]) (by kernel_rfl) (by simp) ?_
      refine AllReadyH.cons (o := qcO12) rfl (fun K hK => ?_) AllReadyH.nil
      try simp only [qcO12]
      go_simp
      refine hK.out _ _ ?_ (fun hHeld => ?_)
      · ((try dsimp only); (simp (maxDischargeDepth := 12) [go_sem, c0, c1, c2, c3, hg]))
      clear hK K
      try simp only [Act.put, List.setIfInBounds_toArray, List.set_cons_zero, List.set_cons_succ]
      refine wpAnyH_done (by kernel_rfl) ?_ _
      go_wp2_with fail
      go_meet
      exact ⟨_, _, rfl, rfl, ⟨by simp (maxDischargeDepth := 12) [go_sem], by simp (maxDischargeDepth := 12) [go_sem], by simp (maxDischargeDepth := 12) [go_sem], by simp (maxDischargeDepth := 12) [go_sem]⟩, ⟨by simp (maxDischargeDepth := 12) [go_sem], by simp (maxDischargeDepth := 12) [go_sem], by simp (maxDischargeDepth := 12) [go_sem], by simp (maxDischargeDepth := 12) [go_sem]⟩, by simp, by simp, (by repeat (first | assumption | exact Grew.refl _ | apply Grew.drew | apply Grew.drewN | apply Grew.alloc | apply Grew.more))⟩
  rename World => w1
  obtain ⟨p, q, rfl, rfl, ⟨p0, p1, p2, p3⟩, ⟨q0, q1, q2, q3⟩, gp, gq, g⟩ := hcut
  have lp := World.block_lt_of_cell? w1 _ p0
  have lq := World.block_lt_of_cell? w1 _ q0
  have B1 := g.below
  have br := bxr.later B1
  obtain ⟨r0, r1, r2, r3⟩ := br.at4
  dsimp only [nul] at r0 r1 r2 r3
  simp only [Nat.zero_add] at r1 r2 r3
  have f0 := br.free 0
  have f1 := br.free 1
  have f2 := br.free 2
  have f3 := br.free 3
  have lt1 := br.lt
  have Be := below_trans Bw B1
  have lr := bxr.lt
  have np : ¬ w.heap.size = p := by omega
  have nq : ¬ w.heap.size = q := by omega
  clear gp gq lr
  clear br bxr g c0 c1 c2 c3 hg
  go_wp2_with (first
    | (go_at_call 78; refine (qnumber_any _ _ _ _ _).mono ?_; rintro e w2 ⟨rfl, os0, n0, rfl⟩)
    | (go_at_call 165; refine (F _ (below_trans Be (Grown.below (by repeat (first | assumption | exact Grown.refl _ | apply Grown.drew | apply Grown.drewN | apply Grown.alloc | apply Grown.more | apply Grown.drawTo))))).mono ?_; rintro e w2 ⟨rfl, bc⟩; obtain ⟨osc, dc, rfl⟩ := wide bc; clear bc))
  refine bodyPost_ret_by (v := .tuple #[va rk rn rm rb, .int .i64 re]) ?_ rfl ⟨rfl, ?_⟩
  · simp [results, Tryz.results88, go_sem, r0, r1, r2, r3, lt1]
  · refine below_trans (Be.setCell (p := ⟨w.heap.size, 0, none⟩) (Nat.le_refl _) (.int .i64 rk) |>.setCell (p := ⟨w.heap.size, 1, none⟩) (Nat.le_refl _) (.int .i64 rn) |>.setCell (p := ⟨w.heap.size, 2, none⟩) (Nat.le_refl _) (.int .i64 rm) |>.setCell (p := ⟨w.heap.size, 3, none⟩) (Nat.le_refl _) (.string rb)) (Grown.below ?_)
    repeat (first | assumption | exact Grown.refl _ | apply Grown.drew | apply Grown.drewN | apply Grown.alloc | apply Grown.more | apply Grown.drawTo)


set_option maxRecDepth 20000 in
set_option maxHeartbeats 2000000 in
theorem called_norm (bl off cap : Nat) (an am : Int) (ab : List UInt8) (w : World) (hg : bl < w.heap.size) (c0 : w.cell? ⟨bl, off, none⟩ = some (.int .i64 5)) (c1 : w.cell? ⟨bl, off + 1, none⟩ = some (.int .i64 an)) (c2 : w.cell? ⟨bl, off + 2, none⟩ = some (.int .i64 am)) (c3 : w.cell? ⟨bl, off + 3, none⟩ = some (.string ⟨ab.toArray⟩)) 
    (x : Int) (D : ∀ W, Calls Tryz.prog 166 #[dv an am] W fun e w' => e = .returned (.int .i64 x) ∧ Grew W w')
:
    Calls Tryz.prog 88 #[.string ⟨#[110, 111, 114, 109]⟩, .slice (some ⟨bl, off, none⟩) 1 cap] w fun e w' => e = .returned (rs (wholeR x 0)) ∧ Below w.heap.size w w' := by
  obtain ⟨w0, hw0, bxr, Bw⟩ := res_box w
  have z0 : IntKind.i64.wrap 0 = 0 := by rw [IntKind.wrap_i64]; rfl
  go_enter Tryz.func88, Tryz.ntmps88
  go_wp2_with fail
  rw [← hw0]
  clear hw0
  rw [← Bw.cell (p := ⟨bl, off, none⟩) hg] at c0
  rw [← Bw.cell (p := ⟨bl, off + 1, none⟩) hg] at c1
  rw [← Bw.cell (p := ⟨bl, off + 2, none⟩) hg] at c2
  rw [← Bw.cell (p := ⟨bl, off + 3, none⟩) hg] at c3
  replace hg : bl < w0.heap.size := Nat.lt_of_lt_of_le hg Bw.size
  go_cut [6, 7] from 8 (fun s0 s1 wx => ∃ p q : Nat, s0 = .pointer (some ⟨p, 0, none⟩) ∧ s1 = .pointer (some ⟨q, 0, none⟩) ∧ (wx.cell? ⟨p, 0, none⟩ = some (.int .i64 5) ∧ wx.cell? ⟨p, 1, none⟩ = some (.int .i64 an) ∧ wx.cell? ⟨p, 2, none⟩ = some (.int .i64 am) ∧ wx.cell? ⟨p, 3, none⟩ = some (.string ⟨ab.toArray⟩)) ∧ (wx.cell? ⟨q, 0, none⟩ = some (.int .i64 5) ∧ wx.cell? ⟨q, 1, none⟩ = some (.int .i64 an) ∧ wx.cell? ⟨q, 2, none⟩ = some (.int .i64 am) ∧ wx.cell? ⟨q, 3, none⟩ = some (.string ⟨ab.toArray⟩)) ∧ w0.heap.size ≤ p ∧ w0.heap.size ≤ q ∧ Grew w0 wx)
  case first =>
    refine wp_region_held_drew (S := (fun W => W.cell? ⟨bl, off, none⟩ = some (.int .i64 5) ∧ W.cell? ⟨bl, off + 1, none⟩ = some (.int .i64 an) ∧ W.cell? ⟨bl, off + 2, none⟩ = some (.int .i64 am) ∧ W.cell? ⟨bl, off + 3, none⟩ = some (.string ⟨ab.toArray⟩))) (by kernel_rfl) ?_ (fun hHeld => ?_)
    · ((try dsimp only); (simp (maxDischargeDepth := 12) [go_sem, c0, c1, c2, c3]))
    refine wpAnyH_take (i := 0) (oi := qcO0) (v := ?_) rfl (by kernel_rfl) (by kernel_rfl) (by kernel_rfl) (fun _ _ _ h => h) (Or.inl ⟨by rfl, ?_⟩) (by assumption) ?_
    rotate_left
    · (intro W hSw; (try dsimp only at hSw); try simp only [qcO0]; first | (go_simp; done) | (go_simp; with_reducible rfl))
    try simp only [qcO0, Act.put, List.setIfInBounds_toArray, List.set_cons_zero, List.set_cons_succ]
    refine wpAnyH_take (i := 1) (oi := qcO1) (v := ?_) rfl (by kernel_rfl) (by kernel_rfl) (by kernel_rfl) (fun _ _ _ h => h) (Or.inl ⟨by rfl, ?_⟩) (by assumption) ?_
    rotate_left
    · (intro W hSw; (try dsimp only at hSw); try simp only [qcO1]; first | (go_simp; done) | (go_simp; with_reducible rfl))
    try simp only [qcO1, Act.put, List.setIfInBounds_toArray, List.set_cons_zero, List.set_cons_succ]
    refine wpAnyH_take (i := 2) (oi := qcO2) (v := ?_) rfl (by kernel_rfl) (by kernel_rfl) (by kernel_rfl) (fun _ _ _ h => h) (Or.inl ⟨by rfl, ?_⟩) (by assumption) ?_
    rotate_left
    · (intro W hSw; (try dsimp only at hSw); try simp only [qcO2]; first | (go_simp; done) | (go_simp; with_reducible rfl))
    try simp only [qcO2, Act.put, List.setIfInBounds_toArray, List.set_cons_zero, List.set_cons_succ]
    refine wpAnyH_take (i := 3) (oi := qcO3) (v := ?_) rfl (by kernel_rfl) (by kernel_rfl) (by kernel_rfl) (fun _ _ _ h => h) (Or.inl ⟨by rfl, ?_⟩) (by assumption) ?_
    rotate_left
    · (intro W hSw; (try dsimp only at hSw); try simp only [qcO3]; first | (go_simp; done) | (go_simp; with_reducible rfl))
    try simp only [qcO3, Act.put, List.setIfInBounds_toArray, List.set_cons_zero, List.set_cons_succ]
    refine wpAnyH_take (i := 4) (oi := qcO4) (v := ?_) rfl (by kernel_rfl) (by kernel_rfl) (by kernel_rfl) (fun _ _ _ h => h) (Or.inl ⟨by rfl, ?_⟩) (by assumption) ?_
    rotate_left
    · (intro W hSw; (try dsimp only at hSw); try simp only [qcO4]; first | (go_simp; done) | (go_simp; with_reducible rfl))
    try simp only [qcO4, Act.put, List.setIfInBounds_toArray, List.set_cons_zero, List.set_cons_succ]
    refine wpAnyH_take (i := 5) (oi := qcO5) (v := ?_) rfl (by kernel_rfl) (by kernel_rfl) (by kernel_rfl) (fun _ _ _ h => h) (Or.inl ⟨by rfl, ?_⟩) (by assumption) ?_
    rotate_left
    · (intro W hSw; (try dsimp only at hSw); try simp only [qcO5]; first | (go_simp; done) | (go_simp; with_reducible rfl))
    try simp only [qcO5, Act.put, List.setIfInBounds_toArray, List.set_cons_zero, List.set_cons_succ]
    refine wpAnyH_take (i := 6) (oi := qcO6) (v := ?_) rfl (by kernel_rfl) (by kernel_rfl) (by kernel_rfl) (fun _ _ _ h => h) (Or.inl ⟨by rfl, ?_⟩) (by assumption) ?_
    rotate_left
    · (intro W hSw; (try dsimp only at hSw); try simp only [qcO6]; first | (go_simp; done) | (go_simp; with_reducible rfl))
    try simp only [qcO6, Act.put, List.setIfInBounds_toArray, List.set_cons_zero, List.set_cons_succ]
    refine wpAnyH_take (i := 7) (oi := qcO7) (v := ?_) rfl (by kernel_rfl) (by kernel_rfl) (by kernel_rfl) (fun _ _ _ h => h) (Or.inl ⟨by rfl, ?_⟩) (by assumption) ?_
    rotate_left
    · (intro W hSw; (try dsimp only at hSw); try simp only [qcO7]; first | (go_simp; done) | (go_simp; with_reducible rfl))
    try simp only [qcO7, Act.put, List.setIfInBounds_toArray, List.set_cons_zero, List.set_cons_succ]
    refine wpAnyH_take (i := 8) (oi := qcO8) (v := ?_) rfl (by kernel_rfl) (by kernel_rfl) (by kernel_rfl) (fun _ _ _ h => h) (Or.inl ⟨by rfl, ?_⟩) (by assumption) ?_
    rotate_left
    · (intro W hSw; (try dsimp only at hSw); try simp only [qcO8]; first | (go_simp; done) | (go_simp; with_reducible rfl))
    try simp only [qcO8, Act.put, List.setIfInBounds_toArray, List.set_cons_zero, List.set_cons_succ]
    refine wpAnyH_ready (rs := [9, 10]) (by kernel_rfl) (by simp) ?_
    refine AllReadyH.cons (o := qcO9) rfl (fun K hK => ?_) (AllReadyH.cons (o := qcO10) rfl (fun K hK => ?_) AllReadyH.nil)
    ·
      try simp only [qcO9]
      go_simp
      refine hK.out _ _ ?_ (fun hHeld => ?_)
      · ((try dsimp only); (simp (maxDischargeDepth := 12) [go_sem, c0, c1, c2, c3, hg]))
      clear hK K
      try simp only [Act.put, List.setIfInBounds_toArray, List.set_cons_zero, List.set_cons_succ]
      refine wpAnyH_ready (rs := [10]) (by kernel_rfl) (by simp) ?_
      refine AllReadyH.cons (o := qcO10) rfl (fun K hK => ?_) AllReadyH.nil
      try simp only [qcO10]
      go_simp
      refine hK.out _ _ ?_ (fun hHeld => ?_)
      · ((try dsimp only); (simp (maxDischargeDepth := 12) [go_sem, c0, c1, c2, c3, hg]))
      clear hK K
      try simp only [Act.put, List.setIfInBounds_toArray, List.set_cons_zero, List.set_cons_succ]
      refine wpAnyH_ready (rs := [11]) (by kernel_rfl) (by simp) ?_
      refine AllReadyH.cons (o := qcO11) rfl (fun K hK => ?_) AllReadyH.nil
      try simp only [qcO11]
      go_simp
      refine hK.out _ _ ?_ (fun hHeld => ?_)
      · ((try dsimp only); (simp (maxDischargeDepth := 12) [go_sem, c0, c1, c2, c3, hg]))
      clear hK K
      try simp only [Act.put, List.setIfInBounds_toArray, List.set_cons_zero, List.set_cons_succ]
      refine wpAnyH_ready (rs := [12]) (by kernel_rfl) (by simp) ?_
      refine AllReadyH.cons (o := qcO12) rfl (fun K hK => ?_) AllReadyH.nil
      try simp only [qcO12]
      go_simp
      refine hK.out _ _ ?_ (fun hHeld => ?_)
      · ((try dsimp only); (simp (maxDischargeDepth := 12) [go_sem, c0, c1, c2, c3, hg]))
      clear hK K
      try simp only [Act.put, List.setIfInBounds_toArray, List.set_cons_zero, List.set_cons_succ]
      refine wpAnyH_done (by kernel_rfl) ?_ _
      go_wp2_with fail
      go_meet
      exact ⟨_, _, rfl, rfl, ⟨by simp (maxDischargeDepth := 12) [go_sem], by simp (maxDischargeDepth := 12) [go_sem], by simp (maxDischargeDepth := 12) [go_sem], by simp (maxDischargeDepth := 12) [go_sem]⟩, ⟨by simp (maxDischargeDepth := 12) [go_sem], by simp (maxDischargeDepth := 12) [go_sem], by simp (maxDischargeDepth := 12) [go_sem], by simp (maxDischargeDepth := 12) [go_sem]⟩, by simp, by simp, (by repeat (first | assumption | exact Grew.refl _ | apply Grew.drew | apply Grew.drewN | apply Grew.alloc | apply Grew.more))⟩
    ·
      try simp only [qcO10]
      go_simp
      refine hK.out _ _ ?_ (fun hHeld => ?_)
      · ((try dsimp only); (simp (maxDischargeDepth := 12) [go_sem, c0, c1, c2, c3, hg]))
      clear hK K
      try simp only [Act.put, List.setIfInBounds_toArray, List.set_cons_zero, List.set_cons_succ]
      refine wpAnyH_ready (rs := [9]) (by kernel_rfl) (by simp) ?_
      refine AllReadyH.cons (o := qcO9) rfl (fun K hK => ?_) AllReadyH.nil
      try simp only [qcO9]
      go_simp
      refine hK.out _ _ ?_ (fun hHeld => ?_)
      · ((try dsimp only); (simp (maxDischargeDepth := 12) [go_sem, c0, c1, c2, c3, hg]))
      clear hK K
      try simp only [Act.put, List.setIfInBounds_toArray, List.set_cons_zero, List.set_cons_succ]
      refine wpAnyH_ready (rs := [11]) (by kernel_rfl) (by simp) ?_
      refine AllReadyH.cons (o := qcO11) rfl (fun K hK => ?_) AllReadyH.nil
      try simp only [qcO11]
      go_simp
      refine hK.out _ _ ?_ (fun hHeld => ?_)
      · ((try dsimp only); (simp (maxDischargeDepth := 12) [go_sem, c0, c1, c2, c3, hg]))
      clear hK K
      try simp only [Act.put, List.setIfInBounds_toArray, List.set_cons_zero, List.set_cons_succ]
      refine wpAnyH_ready (rs := [12]) (by kernel_rfl) (by simp) ?_
      refine AllReadyH.cons (o := qcO12) rfl (fun K hK => ?_) AllReadyH.nil
      try simp only [qcO12]
      go_simp
      refine hK.out _ _ ?_ (fun hHeld => ?_)
      · ((try dsimp only); (simp (maxDischargeDepth := 12) [go_sem, c0, c1, c2, c3, hg]))
      clear hK K
      try simp only [Act.put, List.setIfInBounds_toArray, List.set_cons_zero, List.set_cons_succ]
      refine wpAnyH_done (by kernel_rfl) ?_ _
      go_wp2_with fail
      go_meet
      exact ⟨_, _, rfl, rfl, ⟨by simp (maxDischargeDepth := 12) [go_sem], by simp (maxDischargeDepth := 12) [go_sem], by simp (maxDischargeDepth := 12) [go_sem], by simp (maxDischargeDepth := 12) [go_sem]⟩, ⟨by simp (maxDischargeDepth := 12) [go_sem], by simp (maxDischargeDepth := 12) [go_sem], by simp (maxDischargeDepth := 12) [go_sem], by simp (maxDischargeDepth := 12) [go_sem]⟩, by simp, by simp, (by repeat (first | assumption | exact Grew.refl _ | apply Grew.drew | apply Grew.drewN | apply Grew.alloc | apply Grew.more))⟩
  rename World => w1
  obtain ⟨p, q, rfl, rfl, ⟨p0, p1, p2, p3⟩, ⟨q0, q1, q2, q3⟩, gp, gq, g⟩ := hcut
  have lp := World.block_lt_of_cell? w1 _ p0
  have lq := World.block_lt_of_cell? w1 _ q0
  have B1 := g.below
  have br := bxr.later B1
  obtain ⟨r0, r1, r2, r3⟩ := br.at4
  dsimp only [nul] at r0 r1 r2 r3
  simp only [Nat.zero_add] at r1 r2 r3
  have f0 := br.free 0
  have f1 := br.free 1
  have f2 := br.free 2
  have f3 := br.free 3
  have lt1 := br.lt
  have Be := below_trans Bw B1
  have lr := bxr.lt
  have np : ¬ w.heap.size = p := by omega
  have nq : ¬ w.heap.size = q := by omega
  clear gp gq lr
  clear br bxr g c0 c1 c2 c3 hg
  go_wp2_with (first
    | (go_at_call 155; refine (qpoint_any _ _ _ _ _).mono ?_; rintro e w2 ⟨rfl, os0, n0, rfl⟩)
    | (go_at_call 166; refine (D _).mono ?_; rintro e w2 ⟨rfl, os1, n1, rfl⟩)
    | (go_at_call 142; refine (qwhole_any _ _ _).mono ?_; rintro e w2 ⟨rfl, os2, n2, rfl⟩))
  refine bodyPost_ret_by (v := rs (wholeR x 0)) ?_ rfl ⟨rfl, ?_⟩
  · simp [results, Tryz.results88, go_sem, r0, r1, r2, r3, lt1]
  · refine below_trans (Be.setCell (p := ⟨w.heap.size, 0, none⟩) (Nat.le_refl _) (.int .i64 (wholeR x 0).1.k) |>.setCell (p := ⟨w.heap.size, 1, none⟩) (Nat.le_refl _) (.int .i64 (wholeR x 0).1.n) |>.setCell (p := ⟨w.heap.size, 2, none⟩) (Nat.le_refl _) (.int .i64 (wholeR x 0).1.m) |>.setCell (p := ⟨w.heap.size, 3, none⟩) (Nat.le_refl _) (.string ⟨(wholeR x 0).1.b.toArray⟩)) (Grew.below ?_)
    repeat (first | assumption | exact Grew.refl _ | apply Grew.drew | apply Grew.drewN | apply Grew.alloc | apply Grew.more)


set_option maxRecDepth 20000 in
set_option maxHeartbeats 2000000 in
theorem called_px_no (ak : Int) (bl off cap : Nat) (an am : Int) (ab : List UInt8) (w : World) (hg : bl < w.heap.size) (c0 : w.cell? ⟨bl, off, none⟩ = some (.int .i64 ak)) (c1 : w.cell? ⟨bl, off + 1, none⟩ = some (.int .i64 an)) (c2 : w.cell? ⟨bl, off + 2, none⟩ = some (.int .i64 am)) (c3 : w.cell? ⟨bl, off + 3, none⟩ = some (.string ⟨ab.toArray⟩)) (e5 : (ak == 5) = false)
    :
    Calls Tryz.prog 88 #[.string ⟨#[112, 120]⟩, .slice (some ⟨bl, off, none⟩) 1 cap] w fun e w' => e = .returned (.tuple #[va 0 0 0 ⟨#[]⟩, .int .i64 31]) ∧ Below w.heap.size w w' := by
  obtain ⟨w0, hw0, bxr, Bw⟩ := res_box w
  have z0 : IntKind.i64.wrap 0 = 0 := by rw [IntKind.wrap_i64]; rfl
  go_enter Tryz.func88, Tryz.ntmps88
  go_wp2_with fail
  rw [← hw0]
  clear hw0
  rw [← Bw.cell (p := ⟨bl, off, none⟩) hg] at c0
  rw [← Bw.cell (p := ⟨bl, off + 1, none⟩) hg] at c1
  rw [← Bw.cell (p := ⟨bl, off + 2, none⟩) hg] at c2
  rw [← Bw.cell (p := ⟨bl, off + 3, none⟩) hg] at c3
  replace hg : bl < w0.heap.size := Nat.lt_of_lt_of_le hg Bw.size
  go_cut [6, 7] from 8 (fun s0 s1 wx => ∃ p q : Nat, s0 = .pointer (some ⟨p, 0, none⟩) ∧ s1 = .pointer (some ⟨q, 0, none⟩) ∧ (wx.cell? ⟨p, 0, none⟩ = some (.int .i64 ak) ∧ wx.cell? ⟨p, 1, none⟩ = some (.int .i64 an) ∧ wx.cell? ⟨p, 2, none⟩ = some (.int .i64 am) ∧ wx.cell? ⟨p, 3, none⟩ = some (.string ⟨ab.toArray⟩)) ∧ (wx.cell? ⟨q, 0, none⟩ = some (.int .i64 ak) ∧ wx.cell? ⟨q, 1, none⟩ = some (.int .i64 an) ∧ wx.cell? ⟨q, 2, none⟩ = some (.int .i64 am) ∧ wx.cell? ⟨q, 3, none⟩ = some (.string ⟨ab.toArray⟩)) ∧ w0.heap.size ≤ p ∧ w0.heap.size ≤ q ∧ Grew w0 wx)
  case first =>
    refine wp_region_held_drew (S := (fun W => W.cell? ⟨bl, off, none⟩ = some (.int .i64 ak) ∧ W.cell? ⟨bl, off + 1, none⟩ = some (.int .i64 an) ∧ W.cell? ⟨bl, off + 2, none⟩ = some (.int .i64 am) ∧ W.cell? ⟨bl, off + 3, none⟩ = some (.string ⟨ab.toArray⟩))) (by kernel_rfl) ?_ (fun hHeld => ?_)
    · ((try dsimp only); (simp (maxDischargeDepth := 12) [go_sem, c0, c1, c2, c3]))
    refine wpAnyH_take (i := 0) (oi := qcO0) (v := ?_) rfl (by kernel_rfl) (by kernel_rfl) (by kernel_rfl) (fun _ _ _ h => h) (Or.inl ⟨by rfl, ?_⟩) (by assumption) ?_
    rotate_left
    · (intro W hSw; (try dsimp only at hSw); try simp only [qcO0]; first | (go_simp; done) | (go_simp; with_reducible rfl))
    try simp only [qcO0, Act.put, List.setIfInBounds_toArray, List.set_cons_zero, List.set_cons_succ]
    refine wpAnyH_take (i := 1) (oi := qcO1) (v := ?_) rfl (by kernel_rfl) (by kernel_rfl) (by kernel_rfl) (fun _ _ _ h => h) (Or.inl ⟨by rfl, ?_⟩) (by assumption) ?_
    rotate_left
    · (intro W hSw; (try dsimp only at hSw); try simp only [qcO1]; first | (go_simp; done) | (go_simp; with_reducible rfl))
    try simp only [qcO1, Act.put, List.setIfInBounds_toArray, List.set_cons_zero, List.set_cons_succ]
    refine wpAnyH_take (i := 2) (oi := qcO2) (v := ?_) rfl (by kernel_rfl) (by kernel_rfl) (by kernel_rfl) (fun _ _ _ h => h) (Or.inl ⟨by rfl, ?_⟩) (by assumption) ?_
    rotate_left
    · (intro W hSw; (try dsimp only at hSw); try simp only [qcO2]; first | (go_simp; done) | (go_simp; with_reducible rfl))
    try simp only [qcO2, Act.put, List.setIfInBounds_toArray, List.set_cons_zero, List.set_cons_succ]
    refine wpAnyH_take (i := 3) (oi := qcO3) (v := ?_) rfl (by kernel_rfl) (by kernel_rfl) (by kernel_rfl) (fun _ _ _ h => h) (Or.inl ⟨by rfl, ?_⟩) (by assumption) ?_
    rotate_left
    · (intro W hSw; (try dsimp only at hSw); try simp only [qcO3]; first | (go_simp; done) | (go_simp; with_reducible rfl))
    try simp only [qcO3, Act.put, List.setIfInBounds_toArray, List.set_cons_zero, List.set_cons_succ]
    refine wpAnyH_take (i := 4) (oi := qcO4) (v := ?_) rfl (by kernel_rfl) (by kernel_rfl) (by kernel_rfl) (fun _ _ _ h => h) (Or.inl ⟨by rfl, ?_⟩) (by assumption) ?_
    rotate_left
    · (intro W hSw; (try dsimp only at hSw); try simp only [qcO4]; first | (go_simp; done) | (go_simp; with_reducible rfl))
    try simp only [qcO4, Act.put, List.setIfInBounds_toArray, List.set_cons_zero, List.set_cons_succ]
    refine wpAnyH_take (i := 5) (oi := qcO5) (v := ?_) rfl (by kernel_rfl) (by kernel_rfl) (by kernel_rfl) (fun _ _ _ h => h) (Or.inl ⟨by rfl, ?_⟩) (by assumption) ?_
    rotate_left
    · (intro W hSw; (try dsimp only at hSw); try simp only [qcO5]; first | (go_simp; done) | (go_simp; with_reducible rfl))
    try simp only [qcO5, Act.put, List.setIfInBounds_toArray, List.set_cons_zero, List.set_cons_succ]
    refine wpAnyH_take (i := 6) (oi := qcO6) (v := ?_) rfl (by kernel_rfl) (by kernel_rfl) (by kernel_rfl) (fun _ _ _ h => h) (Or.inl ⟨by rfl, ?_⟩) (by assumption) ?_
    rotate_left
    · (intro W hSw; (try dsimp only at hSw); try simp only [qcO6]; first | (go_simp; done) | (go_simp; with_reducible rfl))
    try simp only [qcO6, Act.put, List.setIfInBounds_toArray, List.set_cons_zero, List.set_cons_succ]
    refine wpAnyH_take (i := 7) (oi := qcO7) (v := ?_) rfl (by kernel_rfl) (by kernel_rfl) (by kernel_rfl) (fun _ _ _ h => h) (Or.inl ⟨by rfl, ?_⟩) (by assumption) ?_
    rotate_left
    · (intro W hSw; (try dsimp only at hSw); try simp only [qcO7]; first | (go_simp; done) | (go_simp; with_reducible rfl))
    try simp only [qcO7, Act.put, List.setIfInBounds_toArray, List.set_cons_zero, List.set_cons_succ]
    refine wpAnyH_take (i := 8) (oi := qcO8) (v := ?_) rfl (by kernel_rfl) (by kernel_rfl) (by kernel_rfl) (fun _ _ _ h => h) (Or.inl ⟨by rfl, ?_⟩) (by assumption) ?_
    rotate_left
    · (intro W hSw; (try dsimp only at hSw); try simp only [qcO8]; first | (go_simp; done) | (go_simp; with_reducible rfl))
    try simp only [qcO8, Act.put, List.setIfInBounds_toArray, List.set_cons_zero, List.set_cons_succ]
    refine wpAnyH_ready (rs := [9, 10]) (by kernel_rfl) (by simp) ?_
    refine AllReadyH.cons (o := qcO9) rfl (fun K hK => ?_) (AllReadyH.cons (o := qcO10) rfl (fun K hK => ?_) AllReadyH.nil)
    ·
      try simp only [qcO9]
      go_simp
      refine hK.out _ _ ?_ (fun hHeld => ?_)
      · ((try dsimp only); (simp (maxDischargeDepth := 12) [go_sem, c0, c1, c2, c3, hg]))
      clear hK K
      try simp only [Act.put, List.setIfInBounds_toArray, List.set_cons_zero, List.set_cons_succ]
      refine wpAnyH_ready (rs := [10]) (by kernel_rfl) (by simp) ?_
      refine AllReadyH.cons (o := qcO10) rfl (fun K hK => ?_) AllReadyH.nil
      try simp only [qcO10]
      go_simp
      refine hK.out _ _ ?_ (fun hHeld => ?_)
      · ((try dsimp only); (simp (maxDischargeDepth := 12) [go_sem, c0, c1, c2, c3, hg]))
      clear hK K
      try simp only [Act.put, List.setIfInBounds_toArray, List.set_cons_zero, List.set_cons_succ]
      refine wpAnyH_ready (rs := [11]) (by kernel_rfl) (by simp) ?_
      refine AllReadyH.cons (o := qcO11) rfl (fun K hK => ?_) AllReadyH.nil
      try simp only [qcO11]
      go_simp
      refine hK.out _ _ ?_ (fun hHeld => ?_)
      · ((try dsimp only); (simp (maxDischargeDepth := 12) [go_sem, c0, c1, c2, c3, hg]))
      clear hK K
      try simp only [Act.put, List.setIfInBounds_toArray, List.set_cons_zero, List.set_cons_succ]
      refine wpAnyH_ready (rs := [12]) (by kernel_rfl) (by simp) ?_
      refine AllReadyH.cons (o := qcO12) rfl (fun K hK => ?_) AllReadyH.nil
      try simp only [qcO12]
      go_simp
      refine hK.out _ _ ?_ (fun hHeld => ?_)
      · ((try dsimp only); (simp (maxDischargeDepth := 12) [go_sem, c0, c1, c2, c3, hg]))
      clear hK K
      try simp only [Act.put, List.setIfInBounds_toArray, List.set_cons_zero, List.set_cons_succ]
      refine wpAnyH_done (by kernel_rfl) ?_ _
      go_wp2_with fail
      go_meet
      exact ⟨_, _, rfl, rfl, ⟨by simp (maxDischargeDepth := 12) [go_sem], by simp (maxDischargeDepth := 12) [go_sem], by simp (maxDischargeDepth := 12) [go_sem], by simp (maxDischargeDepth := 12) [go_sem]⟩, ⟨by simp (maxDischargeDepth := 12) [go_sem], by simp (maxDischargeDepth := 12) [go_sem], by simp (maxDischargeDepth := 12) [go_sem], by simp (maxDischargeDepth := 12) [go_sem]⟩, by simp, by simp, (by repeat (first | assumption | exact Grew.refl _ | apply Grew.drew | apply Grew.drewN | apply Grew.alloc | apply Grew.more))⟩
    ·
      try simp only [qcO10]
      go_simp
      refine hK.out _ _ ?_ (fun hHeld => ?_)
      · ((try dsimp only); (simp (maxDischargeDepth := 12) [go_sem, c0, c1, c2, c3, hg]))
      clear hK K
      try simp only [Act.put, List.setIfInBounds_toArray, List.set_cons_zero, List.set_cons_succ]
      refine wpAnyH_ready (rs := [9]) (by kernel_rfl) (by simp) ?_
      refine AllReadyH.cons (o := qcO9) rfl (fun K hK => ?_) AllReadyH.nil
      try simp only [qcO9]
      go_simp
      refine hK.out _ _ ?_ (fun hHeld => ?_)
      · ((try dsimp only); (simp (maxDischargeDepth := 12) [go_sem, c0, c1, c2, c3, hg]))
      clear hK K
      try simp only [Act.put, List.setIfInBounds_toArray, List.set_cons_zero, List.set_cons_succ]
      refine wpAnyH_ready (rs := [11]) (by kernel_rfl) (by simp) ?_
      refine AllReadyH.cons (o := qcO11) rfl (fun K hK => ?_) AllReadyH.nil
      try simp only [qcO11]
      go_simp
      refine hK.out _ _ ?_ (fun hHeld => ?_)
      · ((try dsimp only); (simp (maxDischargeDepth := 12) [go_sem, c0, c1, c2, c3, hg]))
      clear hK K
      try simp only [Act.put, List.setIfInBounds_toArray, List.set_cons_zero, List.set_cons_succ]
      refine wpAnyH_ready (rs := [12]) (by kernel_rfl) (by simp) ?_
      refine AllReadyH.cons (o := qcO12) rfl (fun K hK => ?_) AllReadyH.nil
      try simp only [qcO12]
      go_simp
      refine hK.out _ _ ?_ (fun hHeld => ?_)
      · ((try dsimp only); (simp (maxDischargeDepth := 12) [go_sem, c0, c1, c2, c3, hg]))
      clear hK K
      try simp only [Act.put, List.setIfInBounds_toArray, List.set_cons_zero, List.set_cons_succ]
      refine wpAnyH_done (by kernel_rfl) ?_ _
      go_wp2_with fail
      go_meet
      exact ⟨_, _, rfl, rfl, ⟨by simp (maxDischargeDepth := 12) [go_sem], by simp (maxDischargeDepth := 12) [go_sem], by simp (maxDischargeDepth := 12) [go_sem], by simp (maxDischargeDepth := 12) [go_sem]⟩, ⟨by simp (maxDischargeDepth := 12) [go_sem], by simp (maxDischargeDepth := 12) [go_sem], by simp (maxDischargeDepth := 12) [go_sem], by simp (maxDischargeDepth := 12) [go_sem]⟩, by simp, by simp, (by repeat (first | assumption | exact Grew.refl _ | apply Grew.drew | apply Grew.drewN | apply Grew.alloc | apply Grew.more))⟩
  rename World => w1
  obtain ⟨p, q, rfl, rfl, ⟨p0, p1, p2, p3⟩, ⟨q0, q1, q2, q3⟩, gp, gq, g⟩ := hcut
  have lp := World.block_lt_of_cell? w1 _ p0
  have lq := World.block_lt_of_cell? w1 _ q0
  have B1 := g.below
  have br := bxr.later B1
  obtain ⟨r0, r1, r2, r3⟩ := br.at4
  dsimp only [nul] at r0 r1 r2 r3
  simp only [Nat.zero_add] at r1 r2 r3
  have f0 := br.free 0
  have f1 := br.free 1
  have f2 := br.free 2
  have f3 := br.free 3
  have lt1 := br.lt
  have Be := below_trans Bw B1
  have lr := bxr.lt
  have np : ¬ w.heap.size = p := by omega
  have nq : ¬ w.heap.size = q := by omega
  clear gp gq lr
  clear br bxr g c0 c1 c2 c3 hg
  go_wp2
  refine bodyPost_ret_by (v := .tuple #[va 0 0 0 ⟨#[]⟩, .int .i64 31]) ?_ rfl ⟨rfl, ?_⟩
  · simp [results, Tryz.results88, go_sem, r0, r1, r2, r3]
  · refine below_trans (Be.setCell (p := ⟨w.heap.size, 0, none⟩) (Nat.le_refl _) (.int .i64 0) |>.setCell (p := ⟨w.heap.size, 1, none⟩) (Nat.le_refl _) (.int .i64 0) |>.setCell (p := ⟨w.heap.size, 2, none⟩) (Nat.le_refl _) (.int .i64 0) |>.setCell (p := ⟨w.heap.size, 3, none⟩) (Nat.le_refl _) (.string ⟨#[]⟩)) (Grew.below ?_)
    repeat (first | assumption | exact Grew.refl _ | apply Grew.drew | apply Grew.drewN | apply Grew.alloc | apply Grew.more)


set_option maxRecDepth 20000 in
set_option maxHeartbeats 2000000 in
theorem called_point (bl off cap : Nat) (an am : Int) (ab : List UInt8) (bn bm : Int) (bb : List UInt8) (w : World) (hg : bl < w.heap.size) (c0 : w.cell? ⟨bl, off, none⟩ = some (.int .i64 1)) (c1 : w.cell? ⟨bl, off + 1, none⟩ = some (.int .i64 an)) (c2 : w.cell? ⟨bl, off + 2, none⟩ = some (.int .i64 am)) (c3 : w.cell? ⟨bl, off + 3, none⟩ = some (.string ⟨ab.toArray⟩)) (d0 : w.cell? ⟨bl, off + 4, none⟩ = some (.int .i64 1)) (d1 : w.cell? ⟨bl, off + 4 + 1, none⟩ = some (.int .i64 bn)) (d2 : w.cell? ⟨bl, off + 4 + 2, none⟩ = some (.int .i64 bm)) (d3 : w.cell? ⟨bl, off + 4 + 3, none⟩ = some (.string ⟨bb.toArray⟩)) 
    :
    Calls Tryz.prog 88 #[.string ⟨#[112, 111, 105, 110, 116]⟩, .slice (some ⟨bl, off, none⟩) 2 cap] w fun e w' => e = .returned (rs (ptAtR an bn)) ∧ Below w.heap.size w w' := by
  obtain ⟨w0, hw0, bxr, Bw⟩ := res_box w
  have z0 : IntKind.i64.wrap 1 = 1 := by rw [IntKind.wrap_i64]; rfl
  go_enter Tryz.func88, Tryz.ntmps88
  go_wp2_with fail
  rw [← hw0]
  clear hw0
  rw [← Bw.cell (p := ⟨bl, off, none⟩) hg] at c0
  rw [← Bw.cell (p := ⟨bl, off + 1, none⟩) hg] at c1
  rw [← Bw.cell (p := ⟨bl, off + 2, none⟩) hg] at c2
  rw [← Bw.cell (p := ⟨bl, off + 3, none⟩) hg] at c3
  rw [← Bw.cell (p := ⟨bl, off + 4, none⟩) hg] at d0
  rw [← Bw.cell (p := ⟨bl, off + 4 + 1, none⟩) hg] at d1
  rw [← Bw.cell (p := ⟨bl, off + 4 + 2, none⟩) hg] at d2
  rw [← Bw.cell (p := ⟨bl, off + 4 + 3, none⟩) hg] at d3
  replace hg : bl < w0.heap.size := Nat.lt_of_lt_of_le hg Bw.size
  go_cut [6, 7] from 8 (fun s0 s1 wx => ∃ p q : Nat, s0 = .pointer (some ⟨p, 0, none⟩) ∧ s1 = .pointer (some ⟨q, 0, none⟩) ∧ (wx.cell? ⟨p, 0, none⟩ = some (.int .i64 1) ∧ wx.cell? ⟨p, 1, none⟩ = some (.int .i64 an) ∧ wx.cell? ⟨p, 2, none⟩ = some (.int .i64 am) ∧ wx.cell? ⟨p, 3, none⟩ = some (.string ⟨ab.toArray⟩)) ∧ (wx.cell? ⟨q, 0, none⟩ = some (.int .i64 1) ∧ wx.cell? ⟨q, 1, none⟩ = some (.int .i64 bn) ∧ wx.cell? ⟨q, 2, none⟩ = some (.int .i64 bm) ∧ wx.cell? ⟨q, 3, none⟩ = some (.string ⟨bb.toArray⟩)) ∧ w0.heap.size ≤ p ∧ w0.heap.size ≤ q ∧ Grew w0 wx)
  case first =>
    refine wp_region_held_drew (S := (fun W => W.cell? ⟨bl, off, none⟩ = some (.int .i64 1) ∧ W.cell? ⟨bl, off + 1, none⟩ = some (.int .i64 an) ∧ W.cell? ⟨bl, off + 2, none⟩ = some (.int .i64 am) ∧ W.cell? ⟨bl, off + 3, none⟩ = some (.string ⟨ab.toArray⟩) ∧ W.cell? ⟨bl, off + 4, none⟩ = some (.int .i64 1) ∧ W.cell? ⟨bl, off + 4 + 1, none⟩ = some (.int .i64 bn) ∧ W.cell? ⟨bl, off + 4 + 2, none⟩ = some (.int .i64 bm) ∧ W.cell? ⟨bl, off + 4 + 3, none⟩ = some (.string ⟨bb.toArray⟩))) (by kernel_rfl) ?_ (fun hHeld => ?_)
    · ((try dsimp only); (simp (maxDischargeDepth := 12) [go_sem, c0, c1, c2, c3, d0, d1, d2, d3]))
    refine wpAnyH_take (i := 0) (oi := qcO0) (v := ?_) rfl (by kernel_rfl) (by kernel_rfl) (by kernel_rfl) (fun _ _ _ h => h) (Or.inl ⟨by rfl, ?_⟩) (by assumption) ?_
    rotate_left
    · (intro W hSw; (try dsimp only at hSw); try simp only [qcO0]; first | (go_simp; done) | (go_simp; with_reducible rfl))
    try simp only [qcO0, Act.put, List.setIfInBounds_toArray, List.set_cons_zero, List.set_cons_succ]
    refine wpAnyH_take (i := 1) (oi := qcO1) (v := ?_) rfl (by kernel_rfl) (by kernel_rfl) (by kernel_rfl) (fun _ _ _ h => h) (Or.inl ⟨by rfl, ?_⟩) (by assumption) ?_
    rotate_left
    · (intro W hSw; (try dsimp only at hSw); try simp only [qcO1]; first | (go_simp; done) | (go_simp; with_reducible rfl))
    try simp only [qcO1, Act.put, List.setIfInBounds_toArray, List.set_cons_zero, List.set_cons_succ]
    refine wpAnyH_take (i := 2) (oi := qcO2) (v := ?_) rfl (by kernel_rfl) (by kernel_rfl) (by kernel_rfl) (fun _ _ _ h => h) (Or.inl ⟨by rfl, ?_⟩) (by assumption) ?_
    rotate_left
    · (intro W hSw; (try dsimp only at hSw); try simp only [qcO2]; first | (go_simp; done) | (go_simp; with_reducible rfl))
    try simp only [qcO2, Act.put, List.setIfInBounds_toArray, List.set_cons_zero, List.set_cons_succ]
    refine wpAnyH_take (i := 3) (oi := qcO3) (v := ?_) rfl (by kernel_rfl) (by kernel_rfl) (by kernel_rfl) (fun _ _ _ h => h) (Or.inl ⟨by rfl, ?_⟩) (by assumption) ?_
    rotate_left
    · (intro W hSw; (try dsimp only at hSw); try simp only [qcO3]; first | (go_simp; done) | (go_simp; with_reducible rfl))
    try simp only [qcO3, Act.put, List.setIfInBounds_toArray, List.set_cons_zero, List.set_cons_succ]
    refine wpAnyH_take (i := 4) (oi := qcO4) (v := ?_) rfl (by kernel_rfl) (by kernel_rfl) (by kernel_rfl) (fun _ _ _ h => h) (Or.inl ⟨by rfl, ?_⟩) (by assumption) ?_
    rotate_left
    · (intro W hSw; (try dsimp only at hSw); try simp only [qcO4]; first | (go_simp; done) | (go_simp; with_reducible rfl))
    try simp only [qcO4, Act.put, List.setIfInBounds_toArray, List.set_cons_zero, List.set_cons_succ]
    refine wpAnyH_take (i := 5) (oi := qcO5) (v := ?_) rfl (by kernel_rfl) (by kernel_rfl) (by kernel_rfl) (fun _ _ _ h => h) (Or.inl ⟨by rfl, ?_⟩) (by assumption) ?_
    rotate_left
    · (intro W hSw; (try dsimp only at hSw); try simp only [qcO5]; first | (go_simp; done) | (go_simp; with_reducible rfl))
    try simp only [qcO5, Act.put, List.setIfInBounds_toArray, List.set_cons_zero, List.set_cons_succ]
    refine wpAnyH_take (i := 6) (oi := qcO6) (v := ?_) rfl (by kernel_rfl) (by kernel_rfl) (by kernel_rfl) (fun _ _ _ h => h) (Or.inl ⟨by rfl, ?_⟩) (by assumption) ?_
    rotate_left
    · (intro W hSw; (try dsimp only at hSw); try simp only [qcO6]; first | (go_simp; done) | (go_simp; with_reducible rfl))
    try simp only [qcO6, Act.put, List.setIfInBounds_toArray, List.set_cons_zero, List.set_cons_succ]
    refine wpAnyH_take (i := 7) (oi := qcO7) (v := ?_) rfl (by kernel_rfl) (by kernel_rfl) (by kernel_rfl) (fun _ _ _ h => h) (Or.inl ⟨by rfl, ?_⟩) (by assumption) ?_
    rotate_left
    · (intro W hSw; (try dsimp only at hSw); try simp only [qcO7]; first | (go_simp; done) | (go_simp; with_reducible rfl))
    try simp only [qcO7, Act.put, List.setIfInBounds_toArray, List.set_cons_zero, List.set_cons_succ]
    refine wpAnyH_take (i := 8) (oi := qcO8) (v := ?_) rfl (by kernel_rfl) (by kernel_rfl) (by kernel_rfl) (fun _ _ _ h => h) (Or.inl ⟨by rfl, ?_⟩) (by assumption) ?_
    rotate_left
    · (intro W hSw; (try dsimp only at hSw); try simp only [qcO8]; first | (go_simp; done) | (go_simp; with_reducible rfl))
    try simp only [qcO8, Act.put, List.setIfInBounds_toArray, List.set_cons_zero, List.set_cons_succ]
    refine wpAnyH_ready (rs := [9, 10]) (by kernel_rfl) (by simp) ?_
    refine AllReadyH.cons (o := qcO9) rfl (fun K hK => ?_) (AllReadyH.cons (o := qcO10) rfl (fun K hK => ?_) AllReadyH.nil)
    ·
      try simp only [qcO9]
      go_simp
      refine hK.out _ _ ?_ (fun hHeld => ?_)
      · ((try dsimp only); (simp (maxDischargeDepth := 12) [go_sem, c0, c1, c2, c3, hg, d0, d1, d2, d3]))
      clear hK K
      try simp only [Act.put, List.setIfInBounds_toArray, List.set_cons_zero, List.set_cons_succ]
      refine wpAnyH_ready (rs := [10]) (by kernel_rfl) (by simp) ?_
      refine AllReadyH.cons (o := qcO10) rfl (fun K hK => ?_) AllReadyH.nil
      try simp only [qcO10]
      go_simp
      refine hK.out _ _ ?_ (fun hHeld => ?_)
      · ((try dsimp only); (simp (maxDischargeDepth := 12) [go_sem, c0, c1, c2, c3, hg, d0, d1, d2, d3]))
      clear hK K
      try simp only [Act.put, List.setIfInBounds_toArray, List.set_cons_zero, List.set_cons_succ]
      refine wpAnyH_ready (rs := [11]) (by kernel_rfl) (by simp) ?_
      refine AllReadyH.cons (o := qcO11) rfl (fun K hK => ?_) AllReadyH.nil
      try simp only [qcO11]
      go_simp
      refine hK.out _ _ ?_ (fun hHeld => ?_)
      · ((try dsimp only); (simp (maxDischargeDepth := 12) [go_sem, c0, c1, c2, c3, hg, d0, d1, d2, d3]))
      clear hK K
      try simp only [Act.put, List.setIfInBounds_toArray, List.set_cons_zero, List.set_cons_succ]
      refine wpAnyH_ready (rs := [12]) (by kernel_rfl) (by simp) ?_
      refine AllReadyH.cons (o := qcO12) rfl (fun K hK => ?_) AllReadyH.nil
      try simp only [qcO12]
      go_simp
      refine hK.out _ _ ?_ (fun hHeld => ?_)
      · ((try dsimp only); (simp (maxDischargeDepth := 12) [go_sem, c0, c1, c2, c3, hg, d0, d1, d2, d3]))
      clear hK K
      try simp only [Act.put, List.setIfInBounds_toArray, List.set_cons_zero, List.set_cons_succ]
      refine wpAnyH_done (by kernel_rfl) ?_ _
      go_wp2_with fail
      go_meet
      exact ⟨_, _, rfl, rfl, ⟨by simp (maxDischargeDepth := 12) [go_sem], by simp (maxDischargeDepth := 12) [go_sem], by simp (maxDischargeDepth := 12) [go_sem], by simp (maxDischargeDepth := 12) [go_sem]⟩, ⟨by simp (maxDischargeDepth := 12) [go_sem], by simp (maxDischargeDepth := 12) [go_sem], by simp (maxDischargeDepth := 12) [go_sem], by simp (maxDischargeDepth := 12) [go_sem]⟩, by simp, by simp, (by repeat (first | assumption | exact Grew.refl _ | apply Grew.drew | apply Grew.drewN | apply Grew.alloc | apply Grew.more))⟩
    ·
      try simp only [qcO10]
      go_simp
      refine hK.out _ _ ?_ (fun hHeld => ?_)
      · ((try dsimp only); (simp (maxDischargeDepth := 12) [go_sem, c0, c1, c2, c3, hg, d0, d1, d2, d3]))
      clear hK K
      try simp only [Act.put, List.setIfInBounds_toArray, List.set_cons_zero, List.set_cons_succ]
      refine wpAnyH_ready (rs := [9]) (by kernel_rfl) (by simp) ?_
      refine AllReadyH.cons (o := qcO9) rfl (fun K hK => ?_) AllReadyH.nil
      try simp only [qcO9]
      go_simp
      refine hK.out _ _ ?_ (fun hHeld => ?_)
      · ((try dsimp only); (simp (maxDischargeDepth := 12) [go_sem, c0, c1, c2, c3, hg, d0, d1, d2, d3]))
      clear hK K
      try simp only [Act.put, List.setIfInBounds_toArray, List.set_cons_zero, List.set_cons_succ]
      refine wpAnyH_ready (rs := [11]) (by kernel_rfl) (by simp) ?_
      refine AllReadyH.cons (o := qcO11) rfl (fun K hK => ?_) AllReadyH.nil
      try simp only [qcO11]
      go_simp
      refine hK.out _ _ ?_ (fun hHeld => ?_)
      · ((try dsimp only); (simp (maxDischargeDepth := 12) [go_sem, c0, c1, c2, c3, hg, d0, d1, d2, d3]))
      clear hK K
      try simp only [Act.put, List.setIfInBounds_toArray, List.set_cons_zero, List.set_cons_succ]
      refine wpAnyH_ready (rs := [12]) (by kernel_rfl) (by simp) ?_
      refine AllReadyH.cons (o := qcO12) rfl (fun K hK => ?_) AllReadyH.nil
      try simp only [qcO12]
      go_simp
      refine hK.out _ _ ?_ (fun hHeld => ?_)
      · ((try dsimp only); (simp (maxDischargeDepth := 12) [go_sem, c0, c1, c2, c3, hg, d0, d1, d2, d3]))
      clear hK K
      try simp only [Act.put, List.setIfInBounds_toArray, List.set_cons_zero, List.set_cons_succ]
      refine wpAnyH_done (by kernel_rfl) ?_ _
      go_wp2_with fail
      go_meet
      exact ⟨_, _, rfl, rfl, ⟨by simp (maxDischargeDepth := 12) [go_sem], by simp (maxDischargeDepth := 12) [go_sem], by simp (maxDischargeDepth := 12) [go_sem], by simp (maxDischargeDepth := 12) [go_sem]⟩, ⟨by simp (maxDischargeDepth := 12) [go_sem], by simp (maxDischargeDepth := 12) [go_sem], by simp (maxDischargeDepth := 12) [go_sem], by simp (maxDischargeDepth := 12) [go_sem]⟩, by simp, by simp, (by repeat (first | assumption | exact Grew.refl _ | apply Grew.drew | apply Grew.drewN | apply Grew.alloc | apply Grew.more))⟩
  rename World => w1
  obtain ⟨p, q, rfl, rfl, ⟨p0, p1, p2, p3⟩, ⟨q0, q1, q2, q3⟩, gp, gq, g⟩ := hcut
  have lp := World.block_lt_of_cell? w1 _ p0
  have lq := World.block_lt_of_cell? w1 _ q0
  have B1 := g.below
  have br := bxr.later B1
  obtain ⟨r0, r1, r2, r3⟩ := br.at4
  dsimp only [nul] at r0 r1 r2 r3
  simp only [Nat.zero_add] at r1 r2 r3
  have f0 := br.free 0
  have f1 := br.free 1
  have f2 := br.free 2
  have f3 := br.free 3
  have lt1 := br.lt
  have Be := below_trans Bw B1
  have lr := bxr.lt
  have np : ¬ w.heap.size = p := by omega
  have nq : ¬ w.heap.size = q := by omega
  clear gp gq lr
  clear br bxr g c0 c1 c2 c3 hg d0 d1 d2 d3
  go_wp2_with (first
    | (go_at_call 167; refine (qpointAt_any _ _ _).mono ?_; rintro e w2 ⟨rfl, os0, n0, rfl⟩))
  refine bodyPost_ret_by (v := rs (ptAtR an bn)) ?_ rfl ⟨rfl, ?_⟩
  · simp [results, Tryz.results88, go_sem, r0, r1, r2, r3, lt1]
  · refine below_trans (Be.setCell (p := ⟨w.heap.size, 0, none⟩) (Nat.le_refl _) (.int .i64 (ptAtR an bn).1.k) |>.setCell (p := ⟨w.heap.size, 1, none⟩) (Nat.le_refl _) (.int .i64 (ptAtR an bn).1.n) |>.setCell (p := ⟨w.heap.size, 2, none⟩) (Nat.le_refl _) (.int .i64 (ptAtR an bn).1.m) |>.setCell (p := ⟨w.heap.size, 3, none⟩) (Nat.le_refl _) (.string ⟨(ptAtR an bn).1.b.toArray⟩)) (Grew.below ?_)
    repeat (first | assumption | exact Grew.refl _ | apply Grew.drew | apply Grew.drewN | apply Grew.alloc | apply Grew.more)


set_option maxRecDepth 20000 in
set_option maxHeartbeats 2000000 in
theorem called_round1 (bl off cap : Nat) (an am : Int) (ab : List UInt8) (bn bm : Int) (bb : List UInt8) (w : World) (hg : bl < w.heap.size) (c0 : w.cell? ⟨bl, off, none⟩ = some (.int .i64 1)) (c1 : w.cell? ⟨bl, off + 1, none⟩ = some (.int .i64 an)) (c2 : w.cell? ⟨bl, off + 2, none⟩ = some (.int .i64 am)) (c3 : w.cell? ⟨bl, off + 3, none⟩ = some (.string ⟨ab.toArray⟩)) (d0 : w.cell? ⟨bl, off + 4, none⟩ = some (.int .i64 1)) (d1 : w.cell? ⟨bl, off + 4 + 1, none⟩ = some (.int .i64 bn)) (d2 : w.cell? ⟨bl, off + 4 + 2, none⟩ = some (.int .i64 bm)) (d3 : w.cell? ⟨bl, off + 4 + 3, none⟩ = some (.string ⟨bb.toArray⟩)) 
    (r : Va × Int) (D : ∀ W, Below w.heap.size w W → Calls Tryz.prog 168 #[dv an am, .int .i64 bn] W fun e w' => e = .returned (rs r) ∧ Grew W w')
:
    Calls Tryz.prog 88 #[.string ⟨#[114, 111, 117, 110, 100]⟩, .slice (some ⟨bl, off, none⟩) 2 cap] w fun e w' => e = .returned (rs r) ∧ Below w.heap.size w w' := by
  obtain ⟨w0, hw0, bxr, Bw⟩ := res_box w
  have z0 : IntKind.i64.wrap 1 = 1 := by rw [IntKind.wrap_i64]; rfl
  go_enter Tryz.func88, Tryz.ntmps88
  go_wp2_with fail
  rw [← hw0]
  clear hw0
  rw [← Bw.cell (p := ⟨bl, off, none⟩) hg] at c0
  rw [← Bw.cell (p := ⟨bl, off + 1, none⟩) hg] at c1
  rw [← Bw.cell (p := ⟨bl, off + 2, none⟩) hg] at c2
  rw [← Bw.cell (p := ⟨bl, off + 3, none⟩) hg] at c3
  rw [← Bw.cell (p := ⟨bl, off + 4, none⟩) hg] at d0
  rw [← Bw.cell (p := ⟨bl, off + 4 + 1, none⟩) hg] at d1
  rw [← Bw.cell (p := ⟨bl, off + 4 + 2, none⟩) hg] at d2
  rw [← Bw.cell (p := ⟨bl, off + 4 + 3, none⟩) hg] at d3
  replace hg : bl < w0.heap.size := Nat.lt_of_lt_of_le hg Bw.size
  go_cut [6, 7] from 8 (fun s0 s1 wx => ∃ p q : Nat, s0 = .pointer (some ⟨p, 0, none⟩) ∧ s1 = .pointer (some ⟨q, 0, none⟩) ∧ (wx.cell? ⟨p, 0, none⟩ = some (.int .i64 1) ∧ wx.cell? ⟨p, 1, none⟩ = some (.int .i64 an) ∧ wx.cell? ⟨p, 2, none⟩ = some (.int .i64 am) ∧ wx.cell? ⟨p, 3, none⟩ = some (.string ⟨ab.toArray⟩)) ∧ (wx.cell? ⟨q, 0, none⟩ = some (.int .i64 1) ∧ wx.cell? ⟨q, 1, none⟩ = some (.int .i64 bn) ∧ wx.cell? ⟨q, 2, none⟩ = some (.int .i64 bm) ∧ wx.cell? ⟨q, 3, none⟩ = some (.string ⟨bb.toArray⟩)) ∧ w0.heap.size ≤ p ∧ w0.heap.size ≤ q ∧ Grew w0 wx)
  case first =>
    refine wp_region_held_drew (S := (fun W => W.cell? ⟨bl, off, none⟩ = some (.int .i64 1) ∧ W.cell? ⟨bl, off + 1, none⟩ = some (.int .i64 an) ∧ W.cell? ⟨bl, off + 2, none⟩ = some (.int .i64 am) ∧ W.cell? ⟨bl, off + 3, none⟩ = some (.string ⟨ab.toArray⟩) ∧ W.cell? ⟨bl, off + 4, none⟩ = some (.int .i64 1) ∧ W.cell? ⟨bl, off + 4 + 1, none⟩ = some (.int .i64 bn) ∧ W.cell? ⟨bl, off + 4 + 2, none⟩ = some (.int .i64 bm) ∧ W.cell? ⟨bl, off + 4 + 3, none⟩ = some (.string ⟨bb.toArray⟩))) (by kernel_rfl) ?_ (fun hHeld => ?_)
    · ((try dsimp only); (simp (maxDischargeDepth := 12) [go_sem, c0, c1, c2, c3, d0, d1, d2, d3]))
    refine wpAnyH_take (i := 0) (oi := qcO0) (v := ?_) rfl (by kernel_rfl) (by kernel_rfl) (by kernel_rfl) (fun _ _ _ h => h) (Or.inl ⟨by rfl, ?_⟩) (by assumption) ?_
    rotate_left
    · (intro W hSw; (try dsimp only at hSw); try simp only [qcO0]; first | (go_simp; done) | (go_simp; with_reducible rfl))
    try simp only [qcO0, Act.put, List.setIfInBounds_toArray, List.set_cons_zero, List.set_cons_succ]
    refine wpAnyH_take (i := 1) (oi := qcO1) (v := ?_) rfl (by kernel_rfl) (by kernel_rfl) (by kernel_rfl) (fun _ _ _ h => h) (Or.inl ⟨by rfl, ?_⟩) (by assumption) ?_
    rotate_left
    · (intro W hSw; (try dsimp only at hSw); try simp only [qcO1]; first | (go_simp; done) | (go_simp; with_reducible rfl))
    try simp only [qcO1, Act.put, List.setIfInBounds_toArray, List.set_cons_zero, List.set_cons_succ]
    refine wpAnyH_take (i := 2) (oi := qcO2) (v := ?_) rfl (by kernel_rfl) (by kernel_rfl) (by kernel_rfl) (fun _ _ _ h => h) (Or.inl ⟨by rfl, ?_⟩) (by assumption) ?_
    rotate_left
    · (intro W hSw; (try dsimp only at hSw); try simp only [qcO2]; first | (go_simp; done) | (go_simp; with_reducible rfl))
    try simp only [qcO2, Act.put, List.setIfInBounds_toArray, List.set_cons_zero, List.set_cons_succ]
    refine wpAnyH_take (i := 3) (oi := qcO3) (v := ?_) rfl (by kernel_rfl) (by kernel_rfl) (by kernel_rfl) (fun _ _ _ h => h) (Or.inl ⟨by rfl, ?_⟩) (by assumption) ?_
    rotate_left
    · (intro W hSw; (try dsimp only at hSw); try simp only [qcO3]; first | (go_simp; done) | (go_simp; with_reducible rfl))
    try simp only [qcO3, Act.put, List.setIfInBounds_toArray, List.set_cons_zero, List.set_cons_succ]
    refine wpAnyH_take (i := 4) (oi := qcO4) (v := ?_) rfl (by kernel_rfl) (by kernel_rfl) (by kernel_rfl) (fun _ _ _ h => h) (Or.inl ⟨by rfl, ?_⟩) (by assumption) ?_
    rotate_left
    · (intro W hSw; (try dsimp only at hSw); try simp only [qcO4]; first | (go_simp; done) | (go_simp; with_reducible rfl))
    try simp only [qcO4, Act.put, List.setIfInBounds_toArray, List.set_cons_zero, List.set_cons_succ]
    refine wpAnyH_take (i := 5) (oi := qcO5) (v := ?_) rfl (by kernel_rfl) (by kernel_rfl) (by kernel_rfl) (fun _ _ _ h => h) (Or.inl ⟨by rfl, ?_⟩) (by assumption) ?_
    rotate_left
    · (intro W hSw; (try dsimp only at hSw); try simp only [qcO5]; first | (go_simp; done) | (go_simp; with_reducible rfl))
    try simp only [qcO5, Act.put, List.setIfInBounds_toArray, List.set_cons_zero, List.set_cons_succ]
    refine wpAnyH_take (i := 6) (oi := qcO6) (v := ?_) rfl (by kernel_rfl) (by kernel_rfl) (by kernel_rfl) (fun _ _ _ h => h) (Or.inl ⟨by rfl, ?_⟩) (by assumption) ?_
    rotate_left
    · (intro W hSw; (try dsimp only at hSw); try simp only [qcO6]; first | (go_simp; done) | (go_simp; with_reducible rfl))
    try simp only [qcO6, Act.put, List.setIfInBounds_toArray, List.set_cons_zero, List.set_cons_succ]
    refine wpAnyH_take (i := 7) (oi := qcO7) (v := ?_) rfl (by kernel_rfl) (by kernel_rfl) (by kernel_rfl) (fun _ _ _ h => h) (Or.inl ⟨by rfl, ?_⟩) (by assumption) ?_
    rotate_left
    · (intro W hSw; (try dsimp only at hSw); try simp only [qcO7]; first | (go_simp; done) | (go_simp; with_reducible rfl))
    try simp only [qcO7, Act.put, List.setIfInBounds_toArray, List.set_cons_zero, List.set_cons_succ]
    refine wpAnyH_take (i := 8) (oi := qcO8) (v := ?_) rfl (by kernel_rfl) (by kernel_rfl) (by kernel_rfl) (fun _ _ _ h => h) (Or.inl ⟨by rfl, ?_⟩) (by assumption) ?_
    rotate_left
    · (intro W hSw; (try dsimp only at hSw); try simp only [qcO8]; first | (go_simp; done) | (go_simp; with_reducible rfl))
    try simp only [qcO8, Act.put, List.setIfInBounds_toArray, List.set_cons_zero, List.set_cons_succ]
    refine wpAnyH_ready (rs := [9, 10]) (by kernel_rfl) (by simp) ?_
    refine AllReadyH.cons (o := qcO9) rfl (fun K hK => ?_) (AllReadyH.cons (o := qcO10) rfl (fun K hK => ?_) AllReadyH.nil)
    ·
      try simp only [qcO9]
      go_simp
      refine hK.out _ _ ?_ (fun hHeld => ?_)
      · ((try dsimp only); (simp (maxDischargeDepth := 12) [go_sem, c0, c1, c2, c3, hg, d0, d1, d2, d3]))
      clear hK K
      try simp only [Act.put, List.setIfInBounds_toArray, List.set_cons_zero, List.set_cons_succ]
      refine wpAnyH_ready (rs := [10]) (by kernel_rfl) (by simp) ?_
      refine AllReadyH.cons (o := qcO10) rfl (fun K hK => ?_) AllReadyH.nil
      try simp only [qcO10]
      go_simp
      refine hK.out _ _ ?_ (fun hHeld => ?_)
      · ((try dsimp only); (simp (maxDischargeDepth := 12) [go_sem, c0, c1, c2, c3, hg, d0, d1, d2, d3]))
      clear hK K
      try simp only [Act.put, List.setIfInBounds_toArray, List.set_cons_zero, List.set_cons_succ]
      refine wpAnyH_ready (rs := [11]) (by kernel_rfl) (by simp) ?_
      refine AllReadyH.cons (o := qcO11) rfl (fun K hK => ?_) AllReadyH.nil
      try simp only [qcO11]
      go_simp
      refine hK.out _ _ ?_ (fun hHeld => ?_)
      · ((try dsimp only); (simp (maxDischargeDepth := 12) [go_sem, c0, c1, c2, c3, hg, d0, d1, d2, d3]))
      clear hK K
      try simp only [Act.put, List.setIfInBounds_toArray, List.set_cons_zero, List.set_cons_succ]
      refine wpAnyH_ready (rs := [12]) (by kernel_rfl) (by simp) ?_
      refine AllReadyH.cons (o := qcO12) rfl (fun K hK => ?_) AllReadyH.nil
      try simp only [qcO12]
      go_simp
      refine hK.out _ _ ?_ (fun hHeld => ?_)
      · ((try dsimp only); (simp (maxDischargeDepth := 12) [go_sem, c0, c1, c2, c3, hg, d0, d1, d2, d3]))
      clear hK K
      try simp only [Act.put, List.setIfInBounds_toArray, List.set_cons_zero, List.set_cons_succ]
      refine wpAnyH_done (by kernel_rfl) ?_ _
      go_wp2_with fail
      go_meet
      exact ⟨_, _, rfl, rfl, ⟨by simp (maxDischargeDepth := 12) [go_sem], by simp (maxDischargeDepth := 12) [go_sem], by simp (maxDischargeDepth := 12) [go_sem], by simp (maxDischargeDepth := 12) [go_sem]⟩, ⟨by simp (maxDischargeDepth := 12) [go_sem], by simp (maxDischargeDepth := 12) [go_sem], by simp (maxDischargeDepth := 12) [go_sem], by simp (maxDischargeDepth := 12) [go_sem]⟩, by simp, by simp, (by repeat (first | assumption | exact Grew.refl _ | apply Grew.drew | apply Grew.drewN | apply Grew.alloc | apply Grew.more))⟩
    ·
      try simp only [qcO10]
      go_simp
      refine hK.out _ _ ?_ (fun hHeld => ?_)
      · ((try dsimp only); (simp (maxDischargeDepth := 12) [go_sem, c0, c1, c2, c3, hg, d0, d1, d2, d3]))
      clear hK K
      try simp only [Act.put, List.setIfInBounds_toArray, List.set_cons_zero, List.set_cons_succ]
      refine wpAnyH_ready (rs := [9]) (by kernel_rfl) (by simp) ?_
      refine AllReadyH.cons (o := qcO9) rfl (fun K hK => ?_) AllReadyH.nil
      try simp only [qcO9]
      go_simp
      refine hK.out _ _ ?_ (fun hHeld => ?_)
      · ((try dsimp only); (simp (maxDischargeDepth := 12) [go_sem, c0, c1, c2, c3, hg, d0, d1, d2, d3]))
      clear hK K
      try simp only [Act.put, List.setIfInBounds_toArray, List.set_cons_zero, List.set_cons_succ]
      refine wpAnyH_ready (rs := [11]) (by kernel_rfl) (by simp) ?_
      refine AllReadyH.cons (o := qcO11) rfl (fun K hK => ?_) AllReadyH.nil
      try simp only [qcO11]
      go_simp
      refine hK.out _ _ ?_ (fun hHeld => ?_)
      · ((try dsimp only); (simp (maxDischargeDepth := 12) [go_sem, c0, c1, c2, c3, hg, d0, d1, d2, d3]))
      clear hK K
      try simp only [Act.put, List.setIfInBounds_toArray, List.set_cons_zero, List.set_cons_succ]
      refine wpAnyH_ready (rs := [12]) (by kernel_rfl) (by simp) ?_
      refine AllReadyH.cons (o := qcO12) rfl (fun K hK => ?_) AllReadyH.nil
      try simp only [qcO12]
      go_simp
      refine hK.out _ _ ?_ (fun hHeld => ?_)
      · ((try dsimp only); (simp (maxDischargeDepth := 12) [go_sem, c0, c1, c2, c3, hg, d0, d1, d2, d3]))
      clear hK K
      try simp only [Act.put, List.setIfInBounds_toArray, List.set_cons_zero, List.set_cons_succ]
      refine wpAnyH_done (by kernel_rfl) ?_ _
      go_wp2_with fail
      go_meet
      exact ⟨_, _, rfl, rfl, ⟨by simp (maxDischargeDepth := 12) [go_sem], by simp (maxDischargeDepth := 12) [go_sem], by simp (maxDischargeDepth := 12) [go_sem], by simp (maxDischargeDepth := 12) [go_sem]⟩, ⟨by simp (maxDischargeDepth := 12) [go_sem], by simp (maxDischargeDepth := 12) [go_sem], by simp (maxDischargeDepth := 12) [go_sem], by simp (maxDischargeDepth := 12) [go_sem]⟩, by simp, by simp, (by repeat (first | assumption | exact Grew.refl _ | apply Grew.drew | apply Grew.drewN | apply Grew.alloc | apply Grew.more))⟩
  rename World => w1
  obtain ⟨p, q, rfl, rfl, ⟨p0, p1, p2, p3⟩, ⟨q0, q1, q2, q3⟩, gp, gq, g⟩ := hcut
  have lp := World.block_lt_of_cell? w1 _ p0
  have lq := World.block_lt_of_cell? w1 _ q0
  have B1 := g.below
  have br := bxr.later B1
  obtain ⟨r0, r1, r2, r3⟩ := br.at4
  dsimp only [nul] at r0 r1 r2 r3
  simp only [Nat.zero_add] at r1 r2 r3
  have f0 := br.free 0
  have f1 := br.free 1
  have f2 := br.free 2
  have f3 := br.free 3
  have lt1 := br.lt
  have Be := below_trans Bw B1
  have lr := bxr.lt
  have np : ¬ w.heap.size = p := by omega
  have nq : ¬ w.heap.size = q := by omega
  clear gp gq lr
  clear br bxr g c0 c1 c2 c3 hg d0 d1 d2 d3
  go_wp2_with (first
    | (go_at_call 78; refine (qnumber_any _ _ _ _ _).mono ?_; rintro e w2 ⟨rfl, os0, n0, rfl⟩))
  go_region_held2 (fun W => W.cell? ⟨p, 0, none⟩ = some (.int .i64 1) ∧ W.cell? ⟨p, 1, none⟩ = some (.int .i64 an) ∧ W.cell? ⟨p, 2, none⟩ = some (.int .i64 am) ∧ W.cell? ⟨p, 3, none⟩ = some (.string ⟨ab.toArray⟩) ∧ W.cell? ⟨q, 1, none⟩ = some (.int .i64 bn)) (simp (maxDischargeDepth := 12) [go_sem, p0, p1, p2, p3, q1, lp, lq]) (first
    | (go_at_call 80; refine (qunits_any _ _ _ _ _).mono ?_; rintro e w2 ⟨rfl, os1, n1, rfl⟩)
    | (go_at_call 168; refine (D _ (below_trans Be (Grew.below (by repeat (first | assumption | exact Grew.refl _ | apply Grew.drew | apply Grew.drewN | apply Grew.alloc | apply Grew.more))))).mono ?_; rintro e w2 ⟨rfl, os2, n2, rfl⟩))
  all_goals go_wp2
  all_goals refine bodyPost_ret_by (v := rs r) ?_ rfl ⟨rfl, ?_⟩
  · simp [results, Tryz.results88, go_sem, r0, r1, r2, r3, lt1]
  · refine below_trans (Be.setCell (p := ⟨w.heap.size, 0, none⟩) (Nat.le_refl _) (.int .i64 (r).1.k) |>.setCell (p := ⟨w.heap.size, 1, none⟩) (Nat.le_refl _) (.int .i64 (r).1.n) |>.setCell (p := ⟨w.heap.size, 2, none⟩) (Nat.le_refl _) (.int .i64 (r).1.m) |>.setCell (p := ⟨w.heap.size, 3, none⟩) (Nat.le_refl _) (.string ⟨(r).1.b.toArray⟩)) (Grew.below ?_)
    repeat (first | assumption | exact Grew.refl _ | apply Grew.drew | apply Grew.drewN | apply Grew.alloc | apply Grew.more)


set_option maxRecDepth 20000 in
set_option maxHeartbeats 2000000 in
theorem called_round_noB1 (bk : Int) (bl off cap : Nat) (an am : Int) (ab : List UInt8) (bn bm : Int) (bb : List UInt8) (w : World) (hg : bl < w.heap.size) (c0 : w.cell? ⟨bl, off, none⟩ = some (.int .i64 1)) (c1 : w.cell? ⟨bl, off + 1, none⟩ = some (.int .i64 an)) (c2 : w.cell? ⟨bl, off + 2, none⟩ = some (.int .i64 am)) (c3 : w.cell? ⟨bl, off + 3, none⟩ = some (.string ⟨ab.toArray⟩)) (d0 : w.cell? ⟨bl, off + 4, none⟩ = some (.int .i64 bk)) (d1 : w.cell? ⟨bl, off + 4 + 1, none⟩ = some (.int .i64 bn)) (d2 : w.cell? ⟨bl, off + 4 + 2, none⟩ = some (.int .i64 bm)) (d3 : w.cell? ⟨bl, off + 4 + 3, none⟩ = some (.string ⟨bb.toArray⟩)) (e1 : (bk == 1) = false)
    :
    Calls Tryz.prog 88 #[.string ⟨#[114, 111, 117, 110, 100]⟩, .slice (some ⟨bl, off, none⟩) 2 cap] w fun e w' => e = .returned (.tuple #[va 0 0 0 ⟨#[]⟩, .int .i64 31]) ∧ Below w.heap.size w w' := by
  obtain ⟨w0, hw0, bxr, Bw⟩ := res_box w
  have z0 : IntKind.i64.wrap 1 = 1 := by rw [IntKind.wrap_i64]; rfl
  go_enter Tryz.func88, Tryz.ntmps88
  go_wp2_with fail
  rw [← hw0]
  clear hw0
  rw [← Bw.cell (p := ⟨bl, off, none⟩) hg] at c0
  rw [← Bw.cell (p := ⟨bl, off + 1, none⟩) hg] at c1
  rw [← Bw.cell (p := ⟨bl, off + 2, none⟩) hg] at c2
  rw [← Bw.cell (p := ⟨bl, off + 3, none⟩) hg] at c3
  rw [← Bw.cell (p := ⟨bl, off + 4, none⟩) hg] at d0
  rw [← Bw.cell (p := ⟨bl, off + 4 + 1, none⟩) hg] at d1
  rw [← Bw.cell (p := ⟨bl, off + 4 + 2, none⟩) hg] at d2
  rw [← Bw.cell (p := ⟨bl, off + 4 + 3, none⟩) hg] at d3
  replace hg : bl < w0.heap.size := Nat.lt_of_lt_of_le hg Bw.size
  go_cut [6, 7] from 8 (fun s0 s1 wx => ∃ p q : Nat, s0 = .pointer (some ⟨p, 0, none⟩) ∧ s1 = .pointer (some ⟨q, 0, none⟩) ∧ (wx.cell? ⟨p, 0, none⟩ = some (.int .i64 1) ∧ wx.cell? ⟨p, 1, none⟩ = some (.int .i64 an) ∧ wx.cell? ⟨p, 2, none⟩ = some (.int .i64 am) ∧ wx.cell? ⟨p, 3, none⟩ = some (.string ⟨ab.toArray⟩)) ∧ (wx.cell? ⟨q, 0, none⟩ = some (.int .i64 bk) ∧ wx.cell? ⟨q, 1, none⟩ = some (.int .i64 bn) ∧ wx.cell? ⟨q, 2, none⟩ = some (.int .i64 bm) ∧ wx.cell? ⟨q, 3, none⟩ = some (.string ⟨bb.toArray⟩)) ∧ w0.heap.size ≤ p ∧ w0.heap.size ≤ q ∧ Grew w0 wx)
  case first =>
    refine wp_region_held_drew (S := (fun W => W.cell? ⟨bl, off, none⟩ = some (.int .i64 1) ∧ W.cell? ⟨bl, off + 1, none⟩ = some (.int .i64 an) ∧ W.cell? ⟨bl, off + 2, none⟩ = some (.int .i64 am) ∧ W.cell? ⟨bl, off + 3, none⟩ = some (.string ⟨ab.toArray⟩) ∧ W.cell? ⟨bl, off + 4, none⟩ = some (.int .i64 bk) ∧ W.cell? ⟨bl, off + 4 + 1, none⟩ = some (.int .i64 bn) ∧ W.cell? ⟨bl, off + 4 + 2, none⟩ = some (.int .i64 bm) ∧ W.cell? ⟨bl, off + 4 + 3, none⟩ = some (.string ⟨bb.toArray⟩))) (by kernel_rfl) ?_ (fun hHeld => ?_)
    · ((try dsimp only); (simp (maxDischargeDepth := 12) [go_sem, c0, c1, c2, c3, d0, d1, d2, d3]))
    refine wpAnyH_take (i := 0) (oi := qcO0) (v := ?_) rfl (by kernel_rfl) (by kernel_rfl) (by kernel_rfl) (fun _ _ _ h => h) (Or.inl ⟨by rfl, ?_⟩) (by assumption) ?_
    rotate_left
    · (intro W hSw; (try dsimp only at hSw); try simp only [qcO0]; first | (go_simp; done) | (go_simp; with_reducible rfl))
    try simp only [qcO0, Act.put, List.setIfInBounds_toArray, List.set_cons_zero, List.set_cons_succ]
    refine wpAnyH_take (i := 1) (oi := qcO1) (v := ?_) rfl (by kernel_rfl) (by kernel_rfl) (by kernel_rfl) (fun _ _ _ h => h) (Or.inl ⟨by rfl, ?_⟩) (by assumption) ?_
    rotate_left
    · (intro W hSw; (try dsimp only at hSw); try simp only [qcO1]; first | (go_simp; done) | (go_simp; with_reducible rfl))
    try simp only [qcO1, Act.put, List.setIfInBounds_toArray, List.set_cons_zero, List.set_cons_succ]
    refine wpAnyH_take (i := 2) (oi := qcO2) (v := ?_) rfl (by kernel_rfl) (by kernel_rfl) (by kernel_rfl) (fun _ _ _ h => h) (Or.inl ⟨by rfl, ?_⟩) (by assumption) ?_
    rotate_left
    · (intro W hSw; (try dsimp only at hSw); try simp only [qcO2]; first | (go_simp; done) | (go_simp; with_reducible rfl))
    try simp only [qcO2, Act.put, List.setIfInBounds_toArray, List.set_cons_zero, List.set_cons_succ]
    refine wpAnyH_take (i := 3) (oi := qcO3) (v := ?_) rfl (by kernel_rfl) (by kernel_rfl) (by kernel_rfl) (fun _ _ _ h => h) (Or.inl ⟨by rfl, ?_⟩) (by assumption) ?_
    rotate_left
    · (intro W hSw; (try dsimp only at hSw); try simp only [qcO3]; first | (go_simp; done) | (go_simp; with_reducible rfl))
    try simp only [qcO3, Act.put, List.setIfInBounds_toArray, List.set_cons_zero, List.set_cons_succ]
    refine wpAnyH_take (i := 4) (oi := qcO4) (v := ?_) rfl (by kernel_rfl) (by kernel_rfl) (by kernel_rfl) (fun _ _ _ h => h) (Or.inl ⟨by rfl, ?_⟩) (by assumption) ?_
    rotate_left
    · (intro W hSw; (try dsimp only at hSw); try simp only [qcO4]; first | (go_simp; done) | (go_simp; with_reducible rfl))
    try simp only [qcO4, Act.put, List.setIfInBounds_toArray, List.set_cons_zero, List.set_cons_succ]
    refine wpAnyH_take (i := 5) (oi := qcO5) (v := ?_) rfl (by kernel_rfl) (by kernel_rfl) (by kernel_rfl) (fun _ _ _ h => h) (Or.inl ⟨by rfl, ?_⟩) (by assumption) ?_
    rotate_left
    · (intro W hSw; (try dsimp only at hSw); try simp only [qcO5]; first | (go_simp; done) | (go_simp; with_reducible rfl))
    try simp only [qcO5, Act.put, List.setIfInBounds_toArray, List.set_cons_zero, List.set_cons_succ]
    refine wpAnyH_take (i := 6) (oi := qcO6) (v := ?_) rfl (by kernel_rfl) (by kernel_rfl) (by kernel_rfl) (fun _ _ _ h => h) (Or.inl ⟨by rfl, ?_⟩) (by assumption) ?_
    rotate_left
    · (intro W hSw; (try dsimp only at hSw); try simp only [qcO6]; first | (go_simp; done) | (go_simp; with_reducible rfl))
    try simp only [qcO6, Act.put, List.setIfInBounds_toArray, List.set_cons_zero, List.set_cons_succ]
    refine wpAnyH_take (i := 7) (oi := qcO7) (v := ?_) rfl (by kernel_rfl) (by kernel_rfl) (by kernel_rfl) (fun _ _ _ h => h) (Or.inl ⟨by rfl, ?_⟩) (by assumption) ?_
    rotate_left
    · (intro W hSw; (try dsimp only at hSw); try simp only [qcO7]; first | (go_simp; done) | (go_simp; with_reducible rfl))
    try simp only [qcO7, Act.put, List.setIfInBounds_toArray, List.set_cons_zero, List.set_cons_succ]
    refine wpAnyH_take (i := 8) (oi := qcO8) (v := ?_) rfl (by kernel_rfl) (by kernel_rfl) (by kernel_rfl) (fun _ _ _ h => h) (Or.inl ⟨by rfl, ?_⟩) (by assumption) ?_
    rotate_left
    · (intro W hSw; (try dsimp only at hSw); try simp only [qcO8]; first | (go_simp; done) | (go_simp; with_reducible rfl))
    try simp only [qcO8, Act.put, List.setIfInBounds_toArray, List.set_cons_zero, List.set_cons_succ]
    refine wpAnyH_ready (rs := [9, 10]) (by kernel_rfl) (by simp) ?_
    refine AllReadyH.cons (o := qcO9) rfl (fun K hK => ?_) (AllReadyH.cons (o := qcO10) rfl (fun K hK => ?_) AllReadyH.nil)
    ·
      try simp only [qcO9]
      go_simp
      refine hK.out _ _ ?_ (fun hHeld => ?_)
      · ((try dsimp only); (simp (maxDischargeDepth := 12) [go_sem, c0, c1, c2, c3, hg, d0, d1, d2, d3]))
      clear hK K
      try simp only [Act.put, List.setIfInBounds_toArray, List.set_cons_zero, List.set_cons_succ]
      refine wpAnyH_ready (rs := [10]) (by kernel_rfl) (by simp) ?_
      refine AllReadyH.cons (o := qcO10) rfl (fun K hK => ?_) AllReadyH.nil
      try simp only [qcO10]
      go_simp
      refine hK.out _ _ ?_ (fun hHeld => ?_)
      · ((try dsimp only); (simp (maxDischargeDepth := 12) [go_sem, c0, c1, c2, c3, hg, d0, d1, d2, d3]))
      clear hK K
      try simp only [Act.put, List.setIfInBounds_toArray, List.set_cons_zero, List.set_cons_succ]
      refine wpAnyH_ready (rs := [11]) (by kernel_rfl) (by simp) ?_
      refine AllReadyH.cons (o := qcO11) rfl (fun K hK => ?_) AllReadyH.nil
      try simp only [qcO11]
      go_simp
      refine hK.out _ _ ?_ (fun hHeld => ?_)
      · ((try dsimp only); (simp (maxDischargeDepth := 12) [go_sem, c0, c1, c2, c3, hg, d0, d1, d2, d3]))
      clear hK K
      try simp only [Act.put, List.setIfInBounds_toArray, List.set_cons_zero, List.set_cons_succ]
      refine wpAnyH_ready (rs := [12]) (by kernel_rfl) (by simp) ?_
      refine AllReadyH.cons (o := qcO12) rfl (fun K hK => ?_) AllReadyH.nil
      try simp only [qcO12]
      go_simp
      refine hK.out _ _ ?_ (fun hHeld => ?_)
      · ((try dsimp only); (simp (maxDischargeDepth := 12) [go_sem, c0, c1, c2, c3, hg, d0, d1, d2, d3]))
      clear hK K
      try simp only [Act.put, List.setIfInBounds_toArray, List.set_cons_zero, List.set_cons_succ]
      refine wpAnyH_done (by kernel_rfl) ?_ _
      go_wp2_with fail
      go_meet
      exact ⟨_, _, rfl, rfl, ⟨by simp (maxDischargeDepth := 12) [go_sem], by simp (maxDischargeDepth := 12) [go_sem], by simp (maxDischargeDepth := 12) [go_sem], by simp (maxDischargeDepth := 12) [go_sem]⟩, ⟨by simp (maxDischargeDepth := 12) [go_sem], by simp (maxDischargeDepth := 12) [go_sem], by simp (maxDischargeDepth := 12) [go_sem], by simp (maxDischargeDepth := 12) [go_sem]⟩, by simp, by simp, (by repeat (first | assumption | exact Grew.refl _ | apply Grew.drew | apply Grew.drewN | apply Grew.alloc | apply Grew.more))⟩
    ·
      try simp only [qcO10]
      go_simp
      refine hK.out _ _ ?_ (fun hHeld => ?_)
      · ((try dsimp only); (simp (maxDischargeDepth := 12) [go_sem, c0, c1, c2, c3, hg, d0, d1, d2, d3]))
      clear hK K
      try simp only [Act.put, List.setIfInBounds_toArray, List.set_cons_zero, List.set_cons_succ]
      refine wpAnyH_ready (rs := [9]) (by kernel_rfl) (by simp) ?_
      refine AllReadyH.cons (o := qcO9) rfl (fun K hK => ?_) AllReadyH.nil
      try simp only [qcO9]
      go_simp
      refine hK.out _ _ ?_ (fun hHeld => ?_)
      · ((try dsimp only); (simp (maxDischargeDepth := 12) [go_sem, c0, c1, c2, c3, hg, d0, d1, d2, d3]))
      clear hK K
      try simp only [Act.put, List.setIfInBounds_toArray, List.set_cons_zero, List.set_cons_succ]
      refine wpAnyH_ready (rs := [11]) (by kernel_rfl) (by simp) ?_
      refine AllReadyH.cons (o := qcO11) rfl (fun K hK => ?_) AllReadyH.nil
      try simp only [qcO11]
      go_simp
      refine hK.out _ _ ?_ (fun hHeld => ?_)
      · ((try dsimp only); (simp (maxDischargeDepth := 12) [go_sem, c0, c1, c2, c3, hg, d0, d1, d2, d3]))
      clear hK K
      try simp only [Act.put, List.setIfInBounds_toArray, List.set_cons_zero, List.set_cons_succ]
      refine wpAnyH_ready (rs := [12]) (by kernel_rfl) (by simp) ?_
      refine AllReadyH.cons (o := qcO12) rfl (fun K hK => ?_) AllReadyH.nil
      try simp only [qcO12]
      go_simp
      refine hK.out _ _ ?_ (fun hHeld => ?_)
      · ((try dsimp only); (simp (maxDischargeDepth := 12) [go_sem, c0, c1, c2, c3, hg, d0, d1, d2, d3]))
      clear hK K
      try simp only [Act.put, List.setIfInBounds_toArray, List.set_cons_zero, List.set_cons_succ]
      refine wpAnyH_done (by kernel_rfl) ?_ _
      go_wp2_with fail
      go_meet
      exact ⟨_, _, rfl, rfl, ⟨by simp (maxDischargeDepth := 12) [go_sem], by simp (maxDischargeDepth := 12) [go_sem], by simp (maxDischargeDepth := 12) [go_sem], by simp (maxDischargeDepth := 12) [go_sem]⟩, ⟨by simp (maxDischargeDepth := 12) [go_sem], by simp (maxDischargeDepth := 12) [go_sem], by simp (maxDischargeDepth := 12) [go_sem], by simp (maxDischargeDepth := 12) [go_sem]⟩, by simp, by simp, (by repeat (first | assumption | exact Grew.refl _ | apply Grew.drew | apply Grew.drewN | apply Grew.alloc | apply Grew.more))⟩
  rename World => w1
  obtain ⟨p, q, rfl, rfl, ⟨p0, p1, p2, p3⟩, ⟨q0, q1, q2, q3⟩, gp, gq, g⟩ := hcut
  have lp := World.block_lt_of_cell? w1 _ p0
  have lq := World.block_lt_of_cell? w1 _ q0
  have B1 := g.below
  have br := bxr.later B1
  obtain ⟨r0, r1, r2, r3⟩ := br.at4
  dsimp only [nul] at r0 r1 r2 r3
  simp only [Nat.zero_add] at r1 r2 r3
  have f0 := br.free 0
  have f1 := br.free 1
  have f2 := br.free 2
  have f3 := br.free 3
  have lt1 := br.lt
  have Be := below_trans Bw B1
  have lr := bxr.lt
  have np : ¬ w.heap.size = p := by omega
  have nq : ¬ w.heap.size = q := by omega
  clear gp gq lr
  clear br bxr g c0 c1 c2 c3 hg d0 d1 d2 d3
  go_wp2_with (first
    | (go_at_call 78; refine (qnumber_any _ _ _ _ _).mono ?_; rintro e w2 ⟨rfl, os0, n0, rfl⟩))
  refine bodyPost_ret_by (v := .tuple #[va 0 0 0 ⟨#[]⟩, .int .i64 31]) ?_ rfl ⟨rfl, ?_⟩
  · simp [results, Tryz.results88, go_sem, r0, r1, r2, r3, lt1]
  · refine below_trans (Be.setCell (p := ⟨w.heap.size, 0, none⟩) (Nat.le_refl _) (.int .i64 0) |>.setCell (p := ⟨w.heap.size, 1, none⟩) (Nat.le_refl _) (.int .i64 0) |>.setCell (p := ⟨w.heap.size, 2, none⟩) (Nat.le_refl _) (.int .i64 0) |>.setCell (p := ⟨w.heap.size, 3, none⟩) (Nat.le_refl _) (.string ⟨#[]⟩)) (Grew.below ?_)
    repeat (first | assumption | exact Grew.refl _ | apply Grew.drew | apply Grew.drewN | apply Grew.alloc | apply Grew.more)
end Go.Proofs.YtclhmmgdhagloaaGreatDoor
