/-
  eval.called.
  What must come: longstoplaw07.knows; on its road eval.Function at 'length' and one Text.
  eval.negOf: from kind to kind.
  eval.Unary.
-/
import Derived.Test.YtgapmofhnjfdiaaGreatDoorMKQBinB
import Derived.Test.YtgapmofhnjfdiaaGreatDoorMNQFun0
import Derived.Deep.Cut
import Derived.Test.YtgapmofhnjfdiaaGreatDoorMLQNums
import Derived.Test.YtgapmofhnjfdiaaGreatDoorDNeg
import Derived.Test.YtgapmofhnjfdiaaGreatDoorMJHTurn
namespace Go.Proofs.YtgapmofhnjfdiaaGreatDoor
open Go.RowKit Go.Shelf
attribute [local go_sem] cell?_more frozen?_more setCell_more more_lt more_more more_drew more_drewN setCell_drewN alloc_drewN

/-- The box of the answer. -/
theorem res_box (w : World) : ∃ w0, w0 = w.alloc (.cells #[.int .i64 0, .int .i64 0, .int .i64 0, .string ⟨#[]⟩] 30) ∧ Box w0 w.heap.size nul ∧ Below w.heap.size w w0 :=
  ⟨_, rfl, Box.new w 0 0 0 [], (Below.refl _ w).alloc (Nat.le_refl _) _⟩

def qcO0 : Oper := { dst := some 8, op := Op.move (Operand.tmp 1), type := 45, pos := "function.go:57", after := #[], guard := none }
def qcO1 : Oper := { dst := some 9, op := Op.indexAddr 45 (Operand.tmp 8) (Operand.const (Value.int IntKind.i64 0)), type := 0, pos := "function.go:57", after := #[{ on := 0, ground := Ground.data }], guard := none }
def qcO2 : Oper := { dst := some 10, op := Op.load 30 (Operand.tmp 9), type := 30, pos := "function.go:57", after := #[{ on := 1, ground := Ground.data }], guard := none }
def qcO3 : Oper := { dst := some 11, op := Op.move (Operand.tmp 1), type := 45, pos := "function.go:57", after := #[{ on := 11, ground := Ground.gcOnly Departure.lateStores }], guard := none }
def qcO4 : Oper := { dst := some 12, op := Op.move (Operand.tmp 1), type := 45, pos := "function.go:57", after := #[], guard := none }
def qcO5 : Oper := { dst := some 13, op := Op.call { callee := Callee.builtin Builtin.len, args := #[Operand.tmp 12], argTypes := #[45] }, type := 3, pos := "function.go:57", after := #[{ on := 4, ground := Ground.data }], guard := none }
def qcO6 : Oper := { dst := some 14, op := Op.binOp BinOp.sub 3 (Operand.tmp 13) (Operand.const (Value.int IntKind.i64 1)) 3, type := 3, pos := "function.go:57", after := #[{ on := 5, ground := Ground.data }, { on := 11, ground := Ground.gcOnly Departure.lateStores }], guard := none }
def qcO7 : Oper := { dst := some 15, op := Op.indexAddr 45 (Operand.tmp 11) (Operand.tmp 14), type := 0, pos := "function.go:57", after := #[{ on := 3, ground := Ground.data }, { on := 6, ground := Ground.data }, { on := 11, ground := Ground.gcOnly Departure.lateStores }], guard := none }
def qcO8 : Oper := { dst := some 16, op := Op.load 30 (Operand.tmp 15), type := 30, pos := "function.go:57", after := #[{ on := 7, ground := Ground.data }, { on := 11, ground := Ground.gcOnly Departure.lateStores }], guard := none }
def qcO9 : Oper := { dst := some 6, op := Op.alloc 30, type := 0, pos := "function.go:57", after := #[], guard := none }
def qcO10 : Oper := { dst := some 7, op := Op.alloc 30, type := 0, pos := "function.go:57", after := #[], guard := none }
def qcO11 : Oper := { dst := none, op := Op.store 30 (Operand.tmp 6) (Operand.tmp 10), type := 0, pos := "function.go:57", after := #[{ on := 9, ground := Ground.data }, { on := 2, ground := Ground.data }, { on := 0, ground := Ground.phase }, { on := 1, ground := Ground.phase }, { on := 2, ground := Ground.phase }, { on := 3, ground := Ground.textOnly Departure.lateStores }, { on := 4, ground := Ground.textOnly Departure.lateStores }, { on := 5, ground := Ground.textOnly Departure.lateStoresUnsure }, { on := 6, ground := Ground.textOnly Departure.lateStores }, { on := 7, ground := Ground.textOnly Departure.lateStores }, { on := 8, ground := Ground.textOnly Departure.lateStores }, { on := 9, ground := Ground.phase }, { on := 10, ground := Ground.phase }], guard := none }
def qcO12 : Oper := { dst := none, op := Op.store 30 (Operand.tmp 7) (Operand.tmp 16), type := 0, pos := "function.go:57", after := #[{ on := 10, ground := Ground.data }, { on := 8, ground := Ground.data }, { on := 11, ground := Ground.chain }, { on := 0, ground := Ground.phase }, { on := 1, ground := Ground.phase }, { on := 2, ground := Ground.phase }, { on := 3, ground := Ground.phase }, { on := 4, ground := Ground.phase }, { on := 5, ground := Ground.phase }, { on := 6, ground := Ground.phase }, { on := 7, ground := Ground.phase }, { on := 8, ground := Ground.phase }, { on := 9, ground := Ground.phase }, { on := 10, ground := Ground.phase }, { on := 11, ground := Ground.phase }], guard := none }


set_option maxRecDepth 20000 in
set_option maxHeartbeats 2000000 in
theorem called_length (bl off cap : Nat) (an am : Int) (ab : List UInt8) (w : World) (hg : bl < w.heap.size) (c0 : w.cell? ⟨bl, off, none⟩ = some (.int .i64 3)) (c1 : w.cell? ⟨bl, off + 1, none⟩ = some (.int .i64 an)) (c2 : w.cell? ⟨bl, off + 2, none⟩ = some (.int .i64 am)) (c3 : w.cell? ⟨bl, off + 3, none⟩ = some (.string ⟨ab.toArray⟩)) 
    :
    Calls Tryz.prog 80 #[.string ⟨#[108, 101, 110, 103, 116, 104]⟩, .slice (some ⟨bl, off, none⟩) 1 cap] w fun e w' => e = .returned (rs (wholeR (ab.length : Int) 0)) ∧ Below w.heap.size w w' := by
  obtain ⟨w0, hw0, bxr, Bw⟩ := res_box w
  have z0 : IntKind.i64.wrap 0 = 0 := by rw [IntKind.wrap_i64]; rfl
  go_enter Tryz.func80, Tryz.ntmps80
  go_wp2_with fail
  rw [← hw0]
  clear hw0
  rw [← Bw.cell (p := ⟨bl, off, none⟩) hg] at c0
  rw [← Bw.cell (p := ⟨bl, off + 1, none⟩) hg] at c1
  rw [← Bw.cell (p := ⟨bl, off + 2, none⟩) hg] at c2
  rw [← Bw.cell (p := ⟨bl, off + 3, none⟩) hg] at c3
  replace hg : bl < w0.heap.size := Nat.lt_of_lt_of_le hg Bw.size
  go_cut [6, 7] from 8 (fun s0 s1 wx => ∃ p q : Nat, s0 = .pointer (some ⟨p, 0, none⟩) ∧ s1 = .pointer (some ⟨q, 0, none⟩) ∧ (wx.cell? ⟨p, 0, none⟩ = some (.int .i64 3) ∧ wx.cell? ⟨p, 1, none⟩ = some (.int .i64 an) ∧ wx.cell? ⟨p, 2, none⟩ = some (.int .i64 am) ∧ wx.cell? ⟨p, 3, none⟩ = some (.string ⟨ab.toArray⟩)) ∧ (wx.cell? ⟨q, 0, none⟩ = some (.int .i64 3) ∧ wx.cell? ⟨q, 1, none⟩ = some (.int .i64 an) ∧ wx.cell? ⟨q, 2, none⟩ = some (.int .i64 am) ∧ wx.cell? ⟨q, 3, none⟩ = some (.string ⟨ab.toArray⟩)) ∧ w0.heap.size ≤ p ∧ w0.heap.size ≤ q ∧ Grew w0 wx)
  case first =>
    refine wp_region_held_drew (S := (fun W => W.cell? ⟨bl, off, none⟩ = some (.int .i64 3) ∧ W.cell? ⟨bl, off + 1, none⟩ = some (.int .i64 an) ∧ W.cell? ⟨bl, off + 2, none⟩ = some (.int .i64 am) ∧ W.cell? ⟨bl, off + 3, none⟩ = some (.string ⟨ab.toArray⟩))) (by kernel_rfl) ?_ (fun hHeld => ?_)
    · ((try dsimp only); (simp (maxDischargeDepth := 12) [go_sem, c0, c1, c2, c3]))
    refine wpAnyH_take (i := 0) (oi := qcO0) (v := ?_) rfl (by kernel_rfl) (by kernel_rfl) (by kernel_rfl) (fun _ _ _ h => h) (Or.inl ⟨by rfl, ?_⟩) (by assumption) ?_
    rotate_left
    · (intro W hSw; (try dsimp only at hSw); try simp only [qcO0]; first | (go_simp; done) | (go_simp; with_reducible rfl))
    try simp only [qcO0, Act.put, List.setIfInBounds_toArray, List.set_cons_zero, List.set_cons_succ]
    refine wpAnyH_take (i := 1) (oi := qcO1) (v := ?_) rfl (by kernel_rfl) (by kernel_rfl) (by kernel_rfl) (fun _ _ _ h => h) (Or.inl ⟨by rfl, ?_⟩) (by assumption) ?_
    rotate_left
    · (intro W hSw; (try dsimp only at hSw); try simp only [qcO1]; first | (go_simp; done) | (go_simp; with_reducible rfl))
    try simp only [qcO1, Act.put, List.setIfInBounds_toArray, List.set_cons_zero, List.set_cons_succ]
    refine wpAnyH_take (i := 2) (oi := qcO2) (v := ?_) rfl (by kernel_rfl) (by kernel_rfl) (by kernel_rfl) (fun _ _ _ h => h) (Or.inl ⟨by rfl, ?_⟩) (by assumption) ?_
    rotate_left
    · (intro W hSw; (try dsimp only at hSw); try simp only [qcO2]; first | (go_simp; done) | (go_simp; with_reducible rfl))
    try simp only [qcO2, Act.put, List.setIfInBounds_toArray, List.set_cons_zero, List.set_cons_succ]
    refine wpAnyH_take (i := 3) (oi := qcO3) (v := ?_) rfl (by kernel_rfl) (by kernel_rfl) (by kernel_rfl) (fun _ _ _ h => h) (Or.inl ⟨by rfl, ?_⟩) (by assumption) ?_
    rotate_left
    · (intro W hSw; (try dsimp only at hSw); try simp only [qcO3]; first | (go_simp; done) | (go_simp; with_reducible rfl))
    try simp only [qcO3, Act.put, List.setIfInBounds_toArray, List.set_cons_zero, List.set_cons_succ]
    refine wpAnyH_take (i := 4) (oi := qcO4) (v := ?_) rfl (by kernel_rfl) (by kernel_rfl) (by kernel_rfl) (fun _ _ _ h => h) (Or.inl ⟨by rfl, ?_⟩) (by assumption) ?_
    rotate_left
    · (intro W hSw; (try dsimp only at hSw); try simp only [qcO4]; first | (go_simp; done) | (go_simp; with_reducible rfl))
    try simp only [qcO4, Act.put, List.setIfInBounds_toArray, List.set_cons_zero, List.set_cons_succ]
    refine wpAnyH_take (i := 5) (oi := qcO5) (v := ?_) rfl (by kernel_rfl) (by kernel_rfl) (by kernel_rfl) (fun _ _ _ h => h) (Or.inl ⟨by rfl, ?_⟩) (by assumption) ?_
    rotate_left
    · (intro W hSw; (try dsimp only at hSw); try simp only [qcO5]; first | (go_simp; done) | (go_simp; with_reducible rfl))
    try simp only [qcO5, Act.put, List.setIfInBounds_toArray, List.set_cons_zero, List.set_cons_succ]
    refine wpAnyH_take (i := 6) (oi := qcO6) (v := ?_) rfl (by kernel_rfl) (by kernel_rfl) (by kernel_rfl) (fun _ _ _ h => h) (Or.inl ⟨by rfl, ?_⟩) (by assumption) ?_
    rotate_left
    · (intro W hSw; (try dsimp only at hSw); try simp only [qcO6]; first | (go_simp; done) | (go_simp; with_reducible rfl))
    try simp only [qcO6, Act.put, List.setIfInBounds_toArray, List.set_cons_zero, List.set_cons_succ]
    refine wpAnyH_take (i := 7) (oi := qcO7) (v := ?_) rfl (by kernel_rfl) (by kernel_rfl) (by kernel_rfl) (fun _ _ _ h => h) (Or.inl ⟨by rfl, ?_⟩) (by assumption) ?_
    rotate_left
    · (intro W hSw; (try dsimp only at hSw); try simp only [qcO7]; first | (go_simp; done) | (go_simp; with_reducible rfl))
    try simp only [qcO7, Act.put, List.setIfInBounds_toArray, List.set_cons_zero, List.set_cons_succ]
    refine wpAnyH_take (i := 8) (oi := qcO8) (v := ?_) rfl (by kernel_rfl) (by kernel_rfl) (by kernel_rfl) (fun _ _ _ h => h) (Or.inl ⟨by rfl, ?_⟩) (by assumption) ?_
    rotate_left
    · (intro W hSw; (try dsimp only at hSw); try simp only [qcO8]; first | (go_simp; done) | (go_simp; with_reducible rfl))
    try simp only [qcO8, Act.put, List.setIfInBounds_toArray, List.set_cons_zero, List.set_cons_succ]
    refine wpAnyH_ready (rs := [9, 10]) (by kernel_rfl) (by simp) ?_
    refine AllReadyH.cons (o := qcO9) rfl (fun K hK => ?_) (AllReadyH.cons (o := qcO10) rfl (fun K hK => ?_) AllReadyH.nil)
    ·
      try simp only [qcO9]
      go_simp
      refine hK.out _ _ ?_ (fun hHeld => ?_)
      · ((try dsimp only); (simp (maxDischargeDepth := 12) [go_sem, c0, c1, c2, c3, hg]))
      clear hK K
      try simp only [Act.put, List.setIfInBounds_toArray, List.set_cons_zero, List.set_cons_succ]
      refine wpAnyH_ready (rs := [10]) (by kernel_rfl) (by simp) ?_
      refine AllReadyH.cons (o := qcO10) rfl (fun K hK => ?_) AllReadyH.nil
      try simp only [qcO10]
      go_simp
      refine hK.out _ _ ?_ (fun hHeld => ?_)
      · ((try dsimp only); (simp (maxDischargeDepth := 12) [go_sem, c0, c1, c2, c3, hg]))
      clear hK K
      try simp only [Act.put, List.setIfInBounds_toArray, List.set_cons_zero, List.set_cons_succ]
      refine wpAnyH_ready (rs := [11]) (by kernel_rfl) (by simp) ?_
      refine AllReadyH.cons (o := qcO11) rfl (fun K hK => ?_) AllReadyH.nil
      try simp only [qcO11]
      go_simp
      refine hK.out _ _ ?_ (fun hHeld => ?_)
      · ((try dsimp only); (simp (maxDischargeDepth := 12) [go_sem, c0, c1, c2, c3, hg]))
      clear hK K
      try simp only [Act.put, List.setIfInBounds_toArray, List.set_cons_zero, List.set_cons_succ]
      refine wpAnyH_ready (rs := [12]) (by kernel_rfl) (by simp) ?_
      refine AllReadyH.cons (o := qcO12) rfl (fun K hK => ?_) AllReadyH.nil
      try simp only [qcO12]
      go_simp
      refine hK.out _ _ ?_ (fun hHeld => ?_)
      · ((try dsimp only); (simp (maxDischargeDepth := 12) [go_sem, c0, c1, c2, c3, hg]))
      clear hK K
      try simp only [Act.put, List.setIfInBounds_toArray, List.set_cons_zero, List.set_cons_succ]
      refine wpAnyH_done (by kernel_rfl) ?_ _
      go_wp2_with fail
      go_meet
      exact ⟨_, _, rfl, rfl, ⟨by simp (maxDischargeDepth := 12) [go_sem], by simp (maxDischargeDepth := 12) [go_sem], by simp (maxDischargeDepth := 12) [go_sem], by simp (maxDischargeDepth := 12) [go_sem]⟩, ⟨by simp (maxDischargeDepth := 12) [go_sem], by simp (maxDischargeDepth := 12) [go_sem], by simp (maxDischargeDepth := 12) [go_sem], by simp (maxDischargeDepth := 12) [go_sem]⟩, by simp, by simp, (by repeat (first | assumption | exact Grew.refl _ | apply Grew.drew | apply Grew.drewN | apply Grew.alloc | apply Grew.more))⟩
    ·
      try simp only [qcO10]
      go_simp
      refine hK.out _ _ ?_ (fun hHeld => ?_)
      · ((try dsimp only); (simp (maxDischargeDepth := 12) [go_sem, c0, c1, c2, c3, hg]))
      clear hK K
      try simp only [Act.put, List.setIfInBounds_toArray, List.set_cons_zero, List.set_cons_succ]
      refine wpAnyH_ready (rs := [9]) (by kernel_rfl) (by simp) ?_
      refine AllReadyH.cons (o := qcO9) rfl (fun K hK => ?_) AllReadyH.nil
      try simp only [qcO9]
      go_simp
      refine hK.out _ _ ?_ (fun hHeld => ?_)
      · ((try dsimp only); (simp (maxDischargeDepth := 12) [go_sem, c0, c1, c2, c3, hg]))
      clear hK K
      try simp only [Act.put, List.setIfInBounds_toArray, List.set_cons_zero, List.set_cons_succ]
      refine wpAnyH_ready (rs := [11]) (by kernel_rfl) (by simp) ?_
      refine AllReadyH.cons (o := qcO11) rfl (fun K hK => ?_) AllReadyH.nil
      try simp only [qcO11]
      go_simp
      refine hK.out _ _ ?_ (fun hHeld => ?_)
      · ((try dsimp only); (simp (maxDischargeDepth := 12) [go_sem, c0, c1, c2, c3, hg]))
      clear hK K
      try simp only [Act.put, List.setIfInBounds_toArray, List.set_cons_zero, List.set_cons_succ]
      refine wpAnyH_ready (rs := [12]) (by kernel_rfl) (by simp) ?_
      refine AllReadyH.cons (o := qcO12) rfl (fun K hK => ?_) AllReadyH.nil
      try simp only [qcO12]
      go_simp
      refine hK.out _ _ ?_ (fun hHeld => ?_)
      · ((try dsimp only); (simp (maxDischargeDepth := 12) [go_sem, c0, c1, c2, c3, hg]))
      clear hK K
      try simp only [Act.put, List.setIfInBounds_toArray, List.set_cons_zero, List.set_cons_succ]
      refine wpAnyH_done (by kernel_rfl) ?_ _
      go_wp2_with fail
      go_meet
      exact ⟨_, _, rfl, rfl, ⟨by simp (maxDischargeDepth := 12) [go_sem], by simp (maxDischargeDepth := 12) [go_sem], by simp (maxDischargeDepth := 12) [go_sem], by simp (maxDischargeDepth := 12) [go_sem]⟩, ⟨by simp (maxDischargeDepth := 12) [go_sem], by simp (maxDischargeDepth := 12) [go_sem], by simp (maxDischargeDepth := 12) [go_sem], by simp (maxDischargeDepth := 12) [go_sem]⟩, by simp, by simp, (by repeat (first | assumption | exact Grew.refl _ | apply Grew.drew | apply Grew.drewN | apply Grew.alloc | apply Grew.more))⟩
  rename World => w1
  obtain ⟨p, q, rfl, rfl, ⟨p0, p1, p2, p3⟩, ⟨q0, q1, q2, q3⟩, gp, gq, g⟩ := hcut
  have lp := World.block_lt_of_cell? w1 _ p0
  have lq := World.block_lt_of_cell? w1 _ q0
  have B1 := g.below
  have br := bxr.later B1
  obtain ⟨r0, r1, r2, r3⟩ := br.at4
  dsimp only [nul] at r0 r1 r2 r3
  simp only [Nat.zero_add] at r1 r2 r3
  have f0 := br.free 0
  have f1 := br.free 1
  have f2 := br.free 2
  have f3 := br.free 3
  have lt1 := br.lt
  have Be := below_trans Bw B1
  have lr := bxr.lt
  have np : ¬ w.heap.size = p := by omega
  have nq : ¬ w.heap.size = q := by omega
  clear gp gq lr
  clear br bxr g c0 c1 c2 c3 hg
  go_wp2_with (first
    | (go_at_call 105; refine (qwhole_any _ _ _).mono ?_; rintro e w2 ⟨rfl, os2, n2, rfl⟩))
  refine bodyPost_ret_by (v := rs (wholeR (ab.length : Int) 0)) ?_ rfl ⟨rfl, ?_⟩
  · simp [results, Tryz.results80, go_sem, r0, r1, r2, r3, lt1]
  · refine below_trans (Be.setCell (p := ⟨w.heap.size, 0, none⟩) (Nat.le_refl _) (.int .i64 (wholeR (ab.length : Int) 0).1.k) |>.setCell (p := ⟨w.heap.size, 1, none⟩) (Nat.le_refl _) (.int .i64 (wholeR (ab.length : Int) 0).1.n) |>.setCell (p := ⟨w.heap.size, 2, none⟩) (Nat.le_refl _) (.int .i64 (wholeR (ab.length : Int) 0).1.m) |>.setCell (p := ⟨w.heap.size, 3, none⟩) (Nat.le_refl _) (.string ⟨(wholeR (ab.length : Int) 0).1.b.toArray⟩)) (Grew.below ?_)
    repeat (first | assumption | exact Grew.refl _ | apply Grew.drew | apply Grew.drewN | apply Grew.alloc | apply Grew.more)
end Go.Proofs.YtgapmofhnjfdiaaGreatDoor

namespace Go.Proofs.YtgapmofhnjfdiaaGreatDoor
open Go.RowKit Go.Shelf
attribute [local go_sem] cell?_more frozen?_more setCell_more more_lt more_more more_drew more_drewN setCell_drewN alloc_drewN cell?_drawTo frozen?_drawTo heap_drawTo setCell_drawTo alloc_drawTo drewN_drawTo drew_drawTo drawTo_drewN drawTo_drew drawTo_drawTo more_drawTo

set_option maxHeartbeats 1000000 in
theorem isf_len1 (w : World) : Calls Tryz.prog 77 #[.string ⟨#[108, 101, 110, 103, 116, 104]⟩, .int .i64 1] w fun e w' => e = .returned (.bool true) ∧ Below w.heap.size w w' := by
  go_enter Tryz.func77, Tryz.ntmps77
  go_wp2
  all_goals go_ret
  all_goals exact ⟨rfl, Below.refl _ _⟩

set_option maxHeartbeats 1000000 in
theorem fun_length (ao : Option Addr) (cap : Nat) (rk rn rm re : Int) (rb : ByteArray) (w : World) (A : Tells 76 #[.slice ao 1 cap] w (.bool true)) (I : Tells 77 #[.string ⟨#[108, 101, 110, 103, 116, 104]⟩, .int .i64 1] w (.bool true))
    (C : Tells 79 #[.slice ao 1 cap, va 0 0 0 ⟨#[]⟩] w (.bool false)) (F : Tells 80 #[.string ⟨#[108, 101, 110, 103, 116, 104]⟩, .slice ao 1 cap] w (.tuple #[va rk rn rm rb, .int .i64 re])) :
    Calls Tryz.prog 22 #[.string ⟨#[108, 101, 110, 103, 116, 104]⟩, .slice ao 1 cap] w fun e w' => e = .returned (.tuple #[va rk rn rm rb, .int .i64 re]) ∧ Below w.heap.size w w' := by
  obtain ⟨w0, hw0, bxr, Bw⟩ := res_box w
  go_enter Tryz.func22, Tryz.ntmps22
  go_upto_region 1 with fail
  rw [← hw0]
  clear hw0
  have B0 : Below w0.heap.size w0 w0 := Below.refl _ _
  go_wp2_with fail
  refine (A _ (below_trans Bw B0)).mono ?_
  rintro e w1 ⟨rfl, c⟩
  have B1 := below_trans B0 c
  clear c
  go_wp2_with fail
  refine (I _ (below_trans Bw B1)).mono ?_
  rintro e w2 ⟨rfl, c⟩
  have B2 := below_trans B1 c
  clear c
  go_wp2_with fail
  refine (C _ (below_trans Bw B2)).mono ?_
  rintro e w3 ⟨rfl, c⟩
  have B3 := below_trans B2 c
  clear c
  go_wp2_with fail
  refine (F _ (below_trans Bw B3)).mono ?_
  rintro e w4 ⟨rfl, c⟩
  have B4 := below_trans B3 c
  clear c
  have br := bxr.later B4
  obtain ⟨r0, r1, r2, r3⟩ := br.at4
  dsimp only [nul] at r0 r1 r2 r3
  simp only [Nat.zero_add] at r1 r2 r3
  have f0 := br.free 0
  have f1 := br.free 1
  have f2 := br.free 2
  have f3 := br.free 3
  have lt1 := br.lt
  have Be := below_trans Bw B4
  go_wp2
  refine bodyPost_ret_by (v := .tuple #[va rk rn rm rb, .int .i64 re]) ?_ rfl ⟨rfl, ?_⟩
  · simp [results, Tryz.results22, go_sem, r0, r1, r2, r3]
  · exact (Be.setCell (p := ⟨w.heap.size, 0, none⟩) (Nat.le_refl _) (.int .i64 rk) |>.setCell (p := ⟨w.heap.size, 1, none⟩) (Nat.le_refl _) (.int .i64 rn) |>.setCell (p := ⟨w.heap.size, 2, none⟩) (Nat.le_refl _) (.int .i64 rm) |>.setCell (p := ⟨w.heap.size, 3, none⟩) (Nat.le_refl _) (.string rb))

theorem qnum7_any (n : Int) (w : World) : Calls Tryz.prog 19 #[.int .i64 n] w fun e w' => e = .returned (.int .i64 n) ∧ w = w' := by
  go_enter Tryz.func19, Tryz.ntmps19
  go_wp2
  go_ret
  exact ⟨rfl, rfl⟩

theorem qints7_any (n : Int) (w : World) : Calls Tryz.prog 75 #[.int .i64 n] w fun e w' => e = .returned (va 1 n 0 ⟨#[]⟩) ∧ Grew w w' := by
  go_enter Tryz.func75, Tryz.ntmps75
  go_wp2
  refine bodyPost_ret_by (v := va 1 n 0 ⟨#[]⟩) ?_ rfl ⟨rfl, ?_⟩
  · simp [results, Tryz.results75, go_sem]
  · repeat (first | exact Grew.refl _ | apply Grew.drew | apply Grew.drewN | apply Grew.alloc | apply Grew.more)

theorem vr_of {v : Va} (h : vok Lib.validD v) : vr v = true := (vr_iff v).2 h
theorem know1 : binR 7 (vI 1) (vD 30 1) = (vD 333333 6, 0) := by
  have h1 : vr (vI 1) = true := vr_of (by simp [vok, vI])
  have h2 : vr (vD 30 1) = true := vr_of (by simp [vok, vD])
  unfold binR
  rw [if_neg (by simp [h1, h2]), if_neg (by decide), if_neg (by simp [vI, vD]), if_neg (by simp [vI, vD]), if_pos (by simp [isn, vI, vD])]
  unfold numsR
  rw [if_neg (by decide), if_neg (by decide), if_neg (by decide), if_pos rfl, if_neg (by simp [vD])]
  rfl
theorem know2 : binR 17 nul (vB false) = (vB false, 0) := by
  have h1 : vr nul = true := vr_of (by simp [vok, nul])
  have h2 : vr (vB false) = true := vr_of (by simp [vok, vB])
  have t1 : tB nul = true := by
    show (vr nul && _) = true
    rw [h1]; rfl
  have t2 : tB (vB false) = true := by
    show (vr (vB false) && _) = true
    rw [h2]; rfl
  have n1 : tN nul = 2 := by
    unfold tN truN
    rw [if_neg (by simp [nul])]
  have n2 : tN (vB false) = 0 := by
    unfold tN truN
    rw [if_pos ⟨h2, rfl⟩]; rfl
  unfold binR
  rw [if_neg (by simp [h1, h2]), if_pos (.inl rfl)]
  unfold truR
  rw [t1, t2, n1, n2]
  rfl
theorem vr_abc : vr ⟨3, 0, 0, [97, 98, 99]⟩ = true := vr_of (by
  have : Lib.validD [97, 98, 99] = true := by kernel_rfl
  simp [vok, this])

set_option maxHeartbeats 4000000 in
theorem knows7_any (w : World) (hT : Tabs w) (hP : Pw w) : Calls Tryz.prog 20 #[] w fun e w' => e = .returned (.bool true) ∧ Below w.heap.size w w' := by
  have K1 : Tells 16 #[.int .i64 7, va 1 1 0 ⟨#[]⟩, va 2 30 1 ⟨#[]⟩] w (.tuple #[va 2 333333 6 ⟨#[]⟩, .int .i64 0]) := fun W h => by
    have := qbin_any 7 (vI 1) (vD 30 1) W (hT.later h) (hP.below h) ⟨⟨by decide, by decide⟩, ⟨by decide, by decide⟩⟩ ⟨⟨by decide, by decide⟩, ⟨by decide, by decide⟩⟩
    rw [know1] at this
    exact this
  have K2 : Tells 16 #[.int .i64 17, va 0 0 0 ⟨#[]⟩, va 4 0 0 ⟨#[]⟩] w (.tuple #[va 4 0 0 ⟨#[]⟩, .int .i64 0]) := fun W h => by
    have := qbin_any 17 nul (vB false) W (hT.later h) (hP.below h) ⟨⟨by decide, by decide⟩, ⟨by decide, by decide⟩⟩ ⟨⟨by decide, by decide⟩, ⟨by decide, by decide⟩⟩
    rw [know2] at this
    exact this
  have K3 : ∀ (bl cap : Nat) (W : World), Below w.heap.size w W → At4 W bl 0 ⟨3, 0, 0, [97, 98, 99]⟩ →
      Calls Tryz.prog 22 #[.string ⟨#[108, 101, 110, 103, 116, 104]⟩, .slice (some ⟨bl, 0, none⟩) 1 cap] W fun e w' => e = .returned (.tuple #[va 1 3 0 ⟨#[]⟩, .int .i64 0]) ∧ Below W.heap.size W w' := by
    intro bl cap W h h4
    have hv : Vs W (some ⟨bl, 0, none⟩) [⟨3, 0, 0, [97, 98, 99]⟩] := fun _ => ⟨bl, 0, rfl, fun i hi => by
      have : i = 0 := by simpa using hi
      subst this
      exact h4⟩
    refine fun_length _ _ _ _ _ _ _ W (fun W' h' => ?_) (fun W' _ => isf_len1 W') (fun W' h' => ?_) (fun W' h' => ?_)
    · have := qall_any (some ⟨bl, 0, none⟩) cap [⟨3, 0, 0, [97, 98, 99]⟩] W' ((hT.later h).later h') (hv.later h') (by decide)
      rwa [show ([⟨3, 0, 0, [97, 98, 99]⟩] : List Va).all vr = true by rw [List.all_cons, vr_abc]; rfl] at this
    · have := qcont_any (some ⟨bl, 0, none⟩) cap [⟨3, 0, 0, [97, 98, 99]⟩] W' (hv.later h') (by decide)
      rwa [show ([⟨3, 0, 0, [97, 98, 99]⟩] : List Va).any zq = false by rfl] at this
    · obtain ⟨c0, c1, c2, c3⟩ := h4.later h'
      exact called_length bl 0 cap 0 0 [97, 98, 99] W' (h4.later h').lt c0 c1 c2 c3
  have H1 := fun W => qints7_any 1 W
  have N := fun n W => qnum7_any n W
  clear hT hP
  have G : Below w.heap.size w w := Below.refl _ _
  go_enter Tryz.func20, Tryz.ntmps20
  go_upto_region 1 with fail
  go_cut [1, 2] from 7 (fun s0 s1 wx => ∃ p : Nat, s0 = .pointer (some ⟨p, 0, none⟩) ∧ s1 = .int .i64 0 ∧ At4 wx p 0 ⟨2, 333333, 6, []⟩ ∧ Below w.heap.size w wx)
  case first =>
    clear K2 K3 N
    go_wp2_with (first
      | (go_at_call 75; refine (H1 _).mono ?_; rintro e wc ⟨rfl, osc, nc, rfl⟩)
      | (go_at_call 16; refine (K1 _ (Grown.below (by repeat (first | assumption | exact Grown.refl _ | apply Grown.drew | apply Grown.drewN | apply Grown.alloc | apply Grown.more | apply Grown.drawTo)))).mono ?_; rintro e wc ⟨rfl, bc⟩; obtain ⟨osc, dc, rfl⟩ := wide bc; clear bc))
    all_goals go_meet
    all_goals exact ⟨_, rfl, rfl, ⟨by simp (maxDischargeDepth := 12) [go_sem], by simp (maxDischargeDepth := 12) [go_sem], by simp (maxDischargeDepth := 12) [go_sem], by simp (maxDischargeDepth := 12) [go_sem]⟩, Grown.below (by repeat (first | assumption | exact Grown.refl _ | apply Grown.drew | apply Grown.drewN | apply Grown.alloc | apply Grown.more | apply Grown.drawTo))⟩
  rename World => v1
  obtain ⟨p1, rfl, rfl, hp1, gv1⟩ := hcut
  replace K1 := K1.later gv1
  replace K2 := K2.later gv1
  replace G := below_trans G gv1
  clear gv1
  go_upto_region 2 with fail
  obtain ⟨k0a, k0b, k0c, k0d⟩ := id hp1
  have k0l := hp1.lt
  simp only [Nat.zero_add] at k0b k0c k0d
  go_cut [3, 4] from 7 (fun s0 s1 wx => ∃ p : Nat, s0 = .pointer (some ⟨p, 0, none⟩) ∧ s1 = .int .i64 0 ∧ At4 wx p 0 ⟨4, 0, 0, []⟩ ∧ Below v1.heap.size v1 wx)
  case first =>
    clear K1 K3 N
    go_wp2_with (first
      | (go_at_call 16; refine (K2 _ (Grown.below (by repeat (first | assumption | exact Grown.refl _ | apply Grown.drew | apply Grown.drewN | apply Grown.alloc | apply Grown.more | apply Grown.drawTo)))).mono ?_; rintro e wc ⟨rfl, bc⟩; obtain ⟨osc, dc, rfl⟩ := wide bc; clear bc))
    all_goals go_meet
    all_goals exact ⟨_, rfl, rfl, ⟨by simp (maxDischargeDepth := 12) [go_sem], by simp (maxDischargeDepth := 12) [go_sem], by simp (maxDischargeDepth := 12) [go_sem], by simp (maxDischargeDepth := 12) [go_sem]⟩, Grown.below (by repeat (first | assumption | exact Grown.refl _ | apply Grown.drew | apply Grown.drewN | apply Grown.alloc | apply Grown.more | apply Grown.drawTo))⟩
  rename World => v2
  obtain ⟨p2, rfl, rfl, hp2, gv2⟩ := hcut
  clear k0a k0b k0c k0d k0l
  replace hp1 := hp1.later gv2
  replace K1 := K1.later gv2
  replace K2 := K2.later gv2
  replace G := below_trans G gv2
  clear gv2
  go_upto_region 3 with fail
  obtain ⟨k0a, k0b, k0c, k0d⟩ := id hp1
  have k0l := hp1.lt
  simp only [Nat.zero_add] at k0b k0c k0d
  obtain ⟨k1a, k1b, k1c, k1d⟩ := id hp2
  have k1l := hp2.lt
  simp only [Nat.zero_add] at k1b k1c k1d
  go_cut [5, 6] from 7 (fun s0 s1 wx => ∃ p : Nat, s0 = .pointer (some ⟨p, 0, none⟩) ∧ s1 = .int .i64 0 ∧ At4 wx p 0 ⟨1, 3, 0, []⟩ ∧ Below v2.heap.size v2 wx)
  case first =>
    clear K1 K2 N
    go_wp2_with (first
      | (go_at_call 22; refine (K3 _ _ _ (below_trans G (Grown.below (by repeat (first | assumption | exact Grown.refl _ | apply Grown.drew | apply Grown.drewN | apply Grown.alloc | apply Grown.more | apply Grown.drawTo)))) ⟨by simp (maxDischargeDepth := 12) [go_sem], by simp (maxDischargeDepth := 12) [go_sem], by simp (maxDischargeDepth := 12) [go_sem], by simp (maxDischargeDepth := 12) [go_sem]⟩).mono ?_; rintro e wc ⟨rfl, bc⟩; obtain ⟨osc, dc, rfl⟩ := wide bc; clear bc))
    all_goals go_meet
    all_goals exact ⟨_, rfl, rfl, ⟨by simp (maxDischargeDepth := 12) [go_sem], by simp (maxDischargeDepth := 12) [go_sem], by simp (maxDischargeDepth := 12) [go_sem], by simp (maxDischargeDepth := 12) [go_sem]⟩, Grown.below (by repeat (first | assumption | exact Grown.refl _ | apply Grown.drew | apply Grown.drewN | apply Grown.alloc | apply Grown.more | apply Grown.drawTo))⟩
  rename World => v3
  obtain ⟨p3, rfl, rfl, hp3, gv3⟩ := hcut
  clear k0a k0b k0c k0d k0l k1a k1b k1c k1d k1l
  replace hp1 := hp1.later gv3
  replace hp2 := hp2.later gv3
  replace K1 := K1.later gv3
  replace K2 := K2.later gv3
  replace G := below_trans G gv3
  clear gv3
  obtain ⟨k0a, k0b, k0c, k0d⟩ := id hp1
  have k0l := hp1.lt
  simp only [Nat.zero_add] at k0b k0c k0d
  obtain ⟨k1a, k1b, k1c, k1d⟩ := id hp2
  have k1l := hp2.lt
  simp only [Nat.zero_add] at k1b k1c k1d
  obtain ⟨k2a, k2b, k2c, k2d⟩ := id hp3
  have k2l := hp3.lt
  simp only [Nat.zero_add] at k2b k2c k2d
  clear K1 K2 K3 H1
  go_wp2_with (go_at_call 19; refine (N _ _).mono ?_; rintro e wc ⟨rfl, rfl⟩)
  go_ret
  exact ⟨rfl, G⟩
end Go.Proofs.YtgapmofhnjfdiaaGreatDoor

namespace Go.Proofs.YtgapmofhnjfdiaaGreatDoor
open Go.RowKit Go.Shelf
attribute [local go_sem] cell?_more frozen?_more setCell_more more_lt more_more more_drew more_drewN setCell_drewN alloc_drewN

set_option maxHeartbeats 2000000 in
theorem qneg_null (an am : Int) (ab : ByteArray) (w : World)  :
    Calls Tryz.prog 45 #[va 0 an am ab] w fun e w' => e = .returned (.tuple #[va 0 0 0 ⟨#[]⟩, .int .i64 0]) ∧ Grew w w' := by
  go_enter Tryz.func45, Tryz.ntmps45
  go_wp2_with fail
  refine wp_scope_on 5 ?_
  go_wp2
  refine onward_ret (by intro l h; cases h) ?_
  refine bodyPost_ret_by (v := .tuple #[va 0 0 0 ⟨#[]⟩, .int .i64 0]) ?_ rfl ⟨rfl, (by repeat (first | assumption | exact Grew.refl _ | apply Grew.drew | apply Grew.drewN | apply Grew.alloc | apply Grew.more))⟩
  simp [results, Tryz.results45, go_sem]

set_option maxHeartbeats 2000000 in
theorem qneg_int (an am : Int) (ab : ByteArray) (w : World) (z x : Int) (D : ∀ W, Grew w W → Calls Tryz.prog 106 #[.int .i64 0, .int .i64 an] W fun e w' => e = .returned (.tuple #[.int .i64 z, .int .i64 x]) ∧ Grew W w') :
    Calls Tryz.prog 45 #[va 1 an am ab] w fun e w' => e = .returned (rs (wholeR z x)) ∧ Grew w w' := by
  have H := fun n x W => qwhole_any n x W
  go_enter Tryz.func45, Tryz.ntmps45
  go_wp2_with fail
  refine wp_scope_on 5 ?_
  go_wp2_with fail
  refine goto_on (n := 4) rfl ?_
  go_wp2_with (first
    | (go_at_call 106; refine (D _ (by repeat (first | assumption | exact Grew.refl _ | apply Grew.drew | apply Grew.drewN | apply Grew.alloc | apply Grew.more))).mono ?_; rintro e w1 ⟨rfl, os1, n1, rfl⟩)
    | (go_at_call 105; refine (H _ _ _).mono ?_; rintro e w1 ⟨rfl, os2, n2, rfl⟩))
  refine onward_ret (by intro l h; cases h) ?_
  refine bodyPost_ret_by (v := rs (wholeR z x)) ?_ rfl ⟨rfl, (by repeat (first | assumption | exact Grew.refl _ | apply Grew.drew | apply Grew.drewN | apply Grew.alloc | apply Grew.more))⟩
  simp [results, Tryz.results45, go_sem]

set_option maxHeartbeats 2000000 in
theorem qneg_dec (an am : Int) (ab : ByteArray) (w : World) (z s x : Int) (D : ∀ W, Grew w W → Calls Tryz.prog 108 #[dv an am] W fun e w' => e = .returned (.tuple #[dv z s, .int .i64 x]) ∧ Grew W w') :
    Calls Tryz.prog 45 #[va 2 an am ab] w fun e w' => e = .returned (rs (exactR z s x)) ∧ Grew w w' := by
  have H := fun n s x W => qexact_any n s x W
  have U := fun k n m b W => qunits_any k n m b W
  go_enter Tryz.func45, Tryz.ntmps45
  go_wp2_with fail
  refine wp_scope_on 5 ?_
  go_wp2_with fail
  refine goto_on (n := 4) rfl ?_
  go_wp2_with fail
  refine goto_on (n := 3) rfl ?_
  go_wp2_with (first
    | (go_at_call 62; refine (U _ _ _ _ _).mono ?_; rintro e w1 ⟨rfl, os0, n0, rfl⟩)
    | (go_at_call 108; refine (D _ (by repeat (first | assumption | exact Grew.refl _ | apply Grew.drew | apply Grew.drewN | apply Grew.alloc | apply Grew.more))).mono ?_; rintro e w1 ⟨rfl, os1, n1, rfl⟩)
    | (go_at_call 107; refine (H _ _ _ _).mono ?_; rintro e w1 ⟨rfl, os2, n2, rfl⟩))
  refine onward_ret (by intro l h; cases h) ?_
  refine bodyPost_ret_by (v := rs (exactR z s x)) ?_ rfl ⟨rfl, (by repeat (first | assumption | exact Grew.refl _ | apply Grew.drew | apply Grew.drewN | apply Grew.alloc | apply Grew.more))⟩
  simp [results, Tryz.results45, go_sem]

set_option maxHeartbeats 2000000 in
theorem qneg_pt (an am : Int) (ab : ByteArray) (w : World) (x y : Int) (D : ∀ W, Calls Tryz.prog 110 #[dv an am, .int .i64 2] W fun e w' => e = .returned (dv x y) ∧ Grew W w') :
    Calls Tryz.prog 45 #[va 5 an am ab] w fun e w' => e = .returned (rs (placedR x y 0)) ∧ Grew w w' := by
  have H := fun n s x W => qplaced_any n s x W
  have U := fun k n m b W => qpoint_any k n m b W
  go_enter Tryz.func45, Tryz.ntmps45
  go_wp2_with fail
  refine wp_scope_on 5 ?_
  go_wp2_with fail
  refine goto_on (n := 4) rfl ?_
  go_wp2_with fail
  refine goto_on (n := 3) rfl ?_
  go_wp2_with fail
  refine goto_on (n := 2) rfl ?_
  go_wp2_with (first
    | (go_at_call 111; refine (U _ _ _ _ _).mono ?_; rintro e w1 ⟨rfl, os0, n0, rfl⟩)
    | (go_at_call 110; refine (D _).mono ?_; rintro e w1 ⟨rfl, os1, n1, rfl⟩)
    | (go_at_call 109; refine (H _ _ _ _).mono ?_; rintro e w1 ⟨rfl, os2, n2, rfl⟩))
  refine onward_ret (by intro l h; cases h) ?_
  refine bodyPost_ret_by (v := rs (placedR x y 0)) ?_ rfl ⟨rfl, (by repeat (first | assumption | exact Grew.refl _ | apply Grew.drew | apply Grew.drewN | apply Grew.alloc | apply Grew.more))⟩
  simp [results, Tryz.results45, go_sem]

set_option maxHeartbeats 2000000 in
theorem qneg_other (ak : Int) (an am : Int) (ab : ByteArray) (w : World) (e0 : (ak != 0) = true) (e1 : (ak != 1) = true) (e2 : (ak != 2) = true) (e5 : (ak != 5) = true) :
    Calls Tryz.prog 45 #[va ak an am ab] w fun e w' => e = .returned (.tuple #[va 0 0 0 ⟨#[]⟩, .int .i64 31]) ∧ Grew w w' := by
  go_enter Tryz.func45, Tryz.ntmps45
  go_wp2_with fail
  refine wp_scope_on 5 ?_
  go_wp2_with fail
  refine goto_on (n := 4) rfl ?_
  go_wp2_with fail
  refine goto_on (n := 3) rfl ?_
  go_wp2_with fail
  refine goto_on (n := 2) rfl ?_
  go_wp2_with fail
  refine goto_on (n := 1) rfl ?_
  go_wp2
  refine onward_ret (by intro l h; cases h) ?_
  refine bodyPost_ret_by (v := .tuple #[va 0 0 0 ⟨#[]⟩, .int .i64 31]) ?_ rfl ⟨rfl, (by repeat (first | assumption | exact Grew.refl _ | apply Grew.drew | apply Grew.drewN | apply Grew.alloc | apply Grew.more))⟩
  simp [results, Tryz.results45, go_sem]

theorem qneg_any (a : Va) (w : World) (hP : Pw w) (hr : vr a = true) (va' : vin a) : Calls Tryz.prog 45 #[vv a] w fun e w' => e = .returned (rs (negR a)) ∧ Grew w w' := by
  obtain ⟨k, n, m, b⟩ := a
  have hv := (vr_iff _).1 hr
  simp only [vok] at hv
  obtain ⟨⟨a0, a1⟩, -⟩ := va'
  simp only at a0 a1
  unfold negR
  by_cases h0 : k = 0
  · subst h0
    exact qneg_null n m _ w
  by_cases h1 : k = 1
  · subst h1
    exact qneg_int n m _ w _ _ (fun W h => qdiff_any 0 n W (hP.later h) (by decide) (by decide) a0 a1)
  by_cases h2 : k = 2
  · subst h2
    have hm : 0 ≤ m ∧ m ≤ 6 := by omega
    have hs : rightS m = true := (rightS_iff m).2 hm
    have := qneg_dec n m ⟨b.toArray⟩ w _ _ _ (fun W h => neg_any n m W (hP.later h) a0 a1)
    simp only [negU, negS, negE, hs, if_true] at this
    exact this
  by_cases h5 : k = 5
  · subst h5
    have hp : Ga.ok2 n m = true := (Ga.ok2_iff n m).2 (by omega)
    exact qneg_pt n m _ w _ _ (fun W => Ga.turn_good n m 2 W hp)
  simp only [h0, h1, h2, h5, if_false]
  exact qneg_other k n m _ w (by simpa using h0) (by simpa using h1) (by simpa using h2) (by simpa using h5)
end Go.Proofs.YtgapmofhnjfdiaaGreatDoor

namespace Go.Proofs.YtgapmofhnjfdiaaGreatDoor
open Go.RowKit Go.Shelf
attribute [local go_sem] cell?_more frozen?_more setCell_more more_lt more_more more_drew more_drewN setCell_drewN alloc_drewN

theorem one_boxes (w : World) (a : Va) : ∃ w0, w0 = (w.alloc (.cells #[.int .i64 a.k, .int .i64 a.n, .int .i64 a.m, .string ⟨a.b.toArray⟩] 30)).alloc (.cells #[.int .i64 0, .int .i64 0, .int .i64 0, .string ⟨#[]⟩] 30) ∧
    Box w0 w.heap.size a ∧ Box w0 (w.heap.size + 1) nul ∧ Below w.heap.size w w0 := by
  obtain ⟨h1, h2, h3⟩ := two_boxes w a nul
  exact ⟨_, rfl, h1, h2, h3⟩

set_option maxHeartbeats 2000000 in
theorem qun_low (op : Int) (ak : Int) (an am : Int) (ab : List UInt8) (w : World) (o1 : op < 3)  :
    Calls Tryz.prog 14 #[.int .i64 op, va ak an am ⟨ab.toArray⟩] w fun e w' => e = .returned (.tuple #[va 0 0 0 ⟨#[]⟩, .int .i64 1]) ∧ Below w.heap.size w w' := by
  obtain ⟨w0, hw0, bxa, bxr, Bw⟩ := one_boxes w ⟨ak, an, am, ab⟩
  dsimp only at hw0
  have B0 : Below w0.heap.size w0 w0 := Below.refl _ _
  go_enter Tryz.func14, Tryz.ntmps14
  go_upto_region 1 with fail
  rw [← hw0]
  clear hw0
  obtain ⟨a0, a1, a2, a3⟩ := bxa.at4
  dsimp only at a0 a1 a2 a3
  have br := bxr.later B0
  obtain ⟨r0, r1, r2, r3⟩ := br.at4
  dsimp only [nul] at r0 r1 r2 r3
  simp only [Nat.zero_add] at r1 r2 r3
  have f0 := br.free 0
  have f1 := br.free 1
  have f2 := br.free 2
  have f3 := br.free 3
  have lt1 := br.lt
  have Be := below_trans Bw B0
  go_wp2
  refine bodyPost_ret_by (v := .tuple #[va 0 0 0 ⟨#[]⟩, .int .i64 1]) ?_ rfl ⟨rfl, ?_⟩
  · simp [results, Tryz.results14, go_sem, r0, r1, r2, r3]
  · refine below_trans (Be.setCell (p := ⟨w.heap.size + 1, 0, none⟩) (by dsimp only; omega) (.int .i64 0) |>.setCell (p := ⟨w.heap.size + 1, 1, none⟩) (by dsimp only; omega) (.int .i64 0) |>.setCell (p := ⟨w.heap.size + 1, 2, none⟩) (by dsimp only; omega) (.int .i64 0) |>.setCell (p := ⟨w.heap.size + 1, 3, none⟩) (by dsimp only; omega) (.string ⟨#[]⟩)) (Grew.below ?_)
    repeat (first | assumption | exact Grew.refl _ | apply Grew.drew | apply Grew.drewN | apply Grew.alloc | apply Grew.more)

set_option maxHeartbeats 2000000 in
theorem qun_high (op : Int) (ak : Int) (an am : Int) (ab : List UInt8) (w : World) (o1 : ¬ op < 3) (o2 : op > 5)  :
    Calls Tryz.prog 14 #[.int .i64 op, va ak an am ⟨ab.toArray⟩] w fun e w' => e = .returned (.tuple #[va 0 0 0 ⟨#[]⟩, .int .i64 1]) ∧ Below w.heap.size w w' := by
  obtain ⟨w0, hw0, bxa, bxr, Bw⟩ := one_boxes w ⟨ak, an, am, ab⟩
  dsimp only at hw0
  have B0 : Below w0.heap.size w0 w0 := Below.refl _ _
  go_enter Tryz.func14, Tryz.ntmps14
  go_upto_region 1 with fail
  rw [← hw0]
  clear hw0
  obtain ⟨a0, a1, a2, a3⟩ := bxa.at4
  dsimp only at a0 a1 a2 a3
  have br := bxr.later B0
  obtain ⟨r0, r1, r2, r3⟩ := br.at4
  dsimp only [nul] at r0 r1 r2 r3
  simp only [Nat.zero_add] at r1 r2 r3
  have f0 := br.free 0
  have f1 := br.free 1
  have f2 := br.free 2
  have f3 := br.free 3
  have lt1 := br.lt
  have Be := below_trans Bw B0
  go_wp2
  refine bodyPost_ret_by (v := .tuple #[va 0 0 0 ⟨#[]⟩, .int .i64 1]) ?_ rfl ⟨rfl, ?_⟩
  · simp [results, Tryz.results14, go_sem, r0, r1, r2, r3]
  · refine below_trans (Be.setCell (p := ⟨w.heap.size + 1, 0, none⟩) (by dsimp only; omega) (.int .i64 0) |>.setCell (p := ⟨w.heap.size + 1, 1, none⟩) (by dsimp only; omega) (.int .i64 0) |>.setCell (p := ⟨w.heap.size + 1, 2, none⟩) (by dsimp only; omega) (.int .i64 0) |>.setCell (p := ⟨w.heap.size + 1, 3, none⟩) (by dsimp only; omega) (.string ⟨#[]⟩)) (Grew.below ?_)
    repeat (first | assumption | exact Grew.refl _ | apply Grew.drew | apply Grew.drewN | apply Grew.alloc | apply Grew.more)

set_option maxHeartbeats 2000000 in
theorem qun_bad (op : Int) (ak : Int) (an am : Int) (ab : List UInt8) (w : World) (o1 : ¬ op < 3) (o2 : ¬ op > 5) (Ra : Tells 42 #[va ak an am ⟨ab.toArray⟩] w (.bool false)) :
    Calls Tryz.prog 14 #[.int .i64 op, va ak an am ⟨ab.toArray⟩] w fun e w' => e = .returned (.tuple #[va 0 0 0 ⟨#[]⟩, .int .i64 1]) ∧ Below w.heap.size w w' := by
  obtain ⟨w0, hw0, bxa, bxr, Bw⟩ := one_boxes w ⟨ak, an, am, ab⟩
  dsimp only at hw0
  have B0 : Below w0.heap.size w0 w0 := Below.refl _ _
  go_enter Tryz.func14, Tryz.ntmps14
  go_upto_region 1 with fail
  rw [← hw0]
  clear hw0
  obtain ⟨a0, a1, a2, a3⟩ := bxa.at4
  dsimp only at a0 a1 a2 a3
  go_wp2_with fail
  refine (Ra _ (below_trans Bw B0)).mono ?_
  rintro e w1 ⟨rfl, cc⟩
  have B1 := below_trans B0 cc
  clear a0 a1 a2 a3 cc
  obtain ⟨a0, a1, a2, a3⟩ := (bxa.later B1).at4
  dsimp only at a0 a1 a2 a3
  have br := bxr.later B1
  obtain ⟨r0, r1, r2, r3⟩ := br.at4
  dsimp only [nul] at r0 r1 r2 r3
  simp only [Nat.zero_add] at r1 r2 r3
  have f0 := br.free 0
  have f1 := br.free 1
  have f2 := br.free 2
  have f3 := br.free 3
  have lt1 := br.lt
  have Be := below_trans Bw B1
  go_wp2
  refine bodyPost_ret_by (v := .tuple #[va 0 0 0 ⟨#[]⟩, .int .i64 1]) ?_ rfl ⟨rfl, ?_⟩
  · simp [results, Tryz.results14, go_sem, r0, r1, r2, r3]
  · refine below_trans (Be.setCell (p := ⟨w.heap.size + 1, 0, none⟩) (by dsimp only; omega) (.int .i64 0) |>.setCell (p := ⟨w.heap.size + 1, 1, none⟩) (by dsimp only; omega) (.int .i64 0) |>.setCell (p := ⟨w.heap.size + 1, 2, none⟩) (by dsimp only; omega) (.int .i64 0) |>.setCell (p := ⟨w.heap.size + 1, 3, none⟩) (by dsimp only; omega) (.string ⟨#[]⟩)) (Grew.below ?_)
    repeat (first | assumption | exact Grew.refl _ | apply Grew.drew | apply Grew.drewN | apply Grew.alloc | apply Grew.more)

set_option maxHeartbeats 2000000 in
theorem qun_isnull (ak : Int) (an am : Int) (ab : List UInt8) (w : World) (rn : Int) (Ra : Tells 42 #[va ak an am ⟨ab.toArray⟩] w (.bool true)) (T : Tells 43 #[.bool (ak == 0)] w (va 4 rn 0 ⟨#[]⟩)) :
    Calls Tryz.prog 14 #[.int .i64 5, va ak an am ⟨ab.toArray⟩] w fun e w' => e = .returned (.tuple #[va 4 rn 0 ⟨#[]⟩, .int .i64 0]) ∧ Below w.heap.size w w' := by
  obtain ⟨w0, hw0, bxa, bxr, Bw⟩ := one_boxes w ⟨ak, an, am, ab⟩
  dsimp only at hw0
  have B0 : Below w0.heap.size w0 w0 := Below.refl _ _
  go_enter Tryz.func14, Tryz.ntmps14
  go_upto_region 1 with fail
  rw [← hw0]
  clear hw0
  obtain ⟨a0, a1, a2, a3⟩ := bxa.at4
  dsimp only at a0 a1 a2 a3
  go_wp2_with fail
  refine (Ra _ (below_trans Bw B0)).mono ?_
  rintro e w1 ⟨rfl, cc⟩
  have B1 := below_trans B0 cc
  clear a0 a1 a2 a3 cc
  obtain ⟨a0, a1, a2, a3⟩ := (bxa.later B1).at4
  dsimp only at a0 a1 a2 a3
  go_wp2_with fail
  refine (T _ (below_trans Bw B1)).mono ?_
  rintro e w2 ⟨rfl, cc⟩
  have B2 := below_trans B1 cc
  clear a0 a1 a2 a3 cc
  obtain ⟨a0, a1, a2, a3⟩ := (bxa.later B2).at4
  dsimp only at a0 a1 a2 a3
  have br := bxr.later B2
  obtain ⟨r0, r1, r2, r3⟩ := br.at4
  dsimp only [nul] at r0 r1 r2 r3
  simp only [Nat.zero_add] at r1 r2 r3
  have f0 := br.free 0
  have f1 := br.free 1
  have f2 := br.free 2
  have f3 := br.free 3
  have lt1 := br.lt
  have Be := below_trans Bw B2
  go_wp2
  refine bodyPost_ret_by (v := .tuple #[va 4 rn 0 ⟨#[]⟩, .int .i64 0]) ?_ rfl ⟨rfl, ?_⟩
  · simp [results, Tryz.results14, go_sem, r0, r1, r2, r3]
  · refine below_trans (Be.setCell (p := ⟨w.heap.size + 1, 0, none⟩) (by dsimp only; omega) (.int .i64 4) |>.setCell (p := ⟨w.heap.size + 1, 1, none⟩) (by dsimp only; omega) (.int .i64 rn) |>.setCell (p := ⟨w.heap.size + 1, 2, none⟩) (by dsimp only; omega) (.int .i64 0) |>.setCell (p := ⟨w.heap.size + 1, 3, none⟩) (by dsimp only; omega) (.string ⟨#[]⟩)) (Grew.below ?_)
    repeat (first | assumption | exact Grew.refl _ | apply Grew.drew | apply Grew.drewN | apply Grew.alloc | apply Grew.more)

set_option maxHeartbeats 2000000 in
theorem qun_not (ak : Int) (an am : Int) (ab : List UInt8) (w : World) (rk rn rm re : Int) (rb : ByteArray) (Ra : Tells 42 #[va ak an am ⟨ab.toArray⟩] w (.bool true)) (F : Tells 44 #[va ak an am ⟨ab.toArray⟩] w (.tuple #[va rk rn rm rb, .int .i64 re])) :
    Calls Tryz.prog 14 #[.int .i64 4, va ak an am ⟨ab.toArray⟩] w fun e w' => e = .returned (.tuple #[va rk rn rm rb, .int .i64 re]) ∧ Below w.heap.size w w' := by
  obtain ⟨w0, hw0, bxa, bxr, Bw⟩ := one_boxes w ⟨ak, an, am, ab⟩
  dsimp only at hw0
  have B0 : Below w0.heap.size w0 w0 := Below.refl _ _
  go_enter Tryz.func14, Tryz.ntmps14
  go_upto_region 1 with fail
  rw [← hw0]
  clear hw0
  obtain ⟨a0, a1, a2, a3⟩ := bxa.at4
  dsimp only at a0 a1 a2 a3
  go_wp2_with fail
  refine (Ra _ (below_trans Bw B0)).mono ?_
  rintro e w1 ⟨rfl, cc⟩
  have B1 := below_trans B0 cc
  clear a0 a1 a2 a3 cc
  obtain ⟨a0, a1, a2, a3⟩ := (bxa.later B1).at4
  dsimp only at a0 a1 a2 a3
  go_wp2_with fail
  refine (F _ (below_trans Bw B1)).mono ?_
  rintro e w2 ⟨rfl, cc⟩
  have B2 := below_trans B1 cc
  clear a0 a1 a2 a3 cc
  obtain ⟨a0, a1, a2, a3⟩ := (bxa.later B2).at4
  dsimp only at a0 a1 a2 a3
  have br := bxr.later B2
  obtain ⟨r0, r1, r2, r3⟩ := br.at4
  dsimp only [nul] at r0 r1 r2 r3
  simp only [Nat.zero_add] at r1 r2 r3
  have f0 := br.free 0
  have f1 := br.free 1
  have f2 := br.free 2
  have f3 := br.free 3
  have lt1 := br.lt
  have Be := below_trans Bw B2
  go_wp2
  refine bodyPost_ret_by (v := .tuple #[va rk rn rm rb, .int .i64 re]) ?_ rfl ⟨rfl, ?_⟩
  · simp [results, Tryz.results14, go_sem, r0, r1, r2, r3]
  · refine below_trans (Be.setCell (p := ⟨w.heap.size + 1, 0, none⟩) (by dsimp only; omega) (.int .i64 rk) |>.setCell (p := ⟨w.heap.size + 1, 1, none⟩) (by dsimp only; omega) (.int .i64 rn) |>.setCell (p := ⟨w.heap.size + 1, 2, none⟩) (by dsimp only; omega) (.int .i64 rm) |>.setCell (p := ⟨w.heap.size + 1, 3, none⟩) (by dsimp only; omega) (.string rb)) (Grew.below ?_)
    repeat (first | assumption | exact Grew.refl _ | apply Grew.drew | apply Grew.drewN | apply Grew.alloc | apply Grew.more)

set_option maxHeartbeats 2000000 in
theorem qun_neg (ak : Int) (an am : Int) (ab : List UInt8) (w : World) (rk rn rm re : Int) (rb : ByteArray) (Ra : Tells 42 #[va ak an am ⟨ab.toArray⟩] w (.bool true)) (F : Tells 45 #[va ak an am ⟨ab.toArray⟩] w (.tuple #[va rk rn rm rb, .int .i64 re])) :
    Calls Tryz.prog 14 #[.int .i64 3, va ak an am ⟨ab.toArray⟩] w fun e w' => e = .returned (.tuple #[va rk rn rm rb, .int .i64 re]) ∧ Below w.heap.size w w' := by
  obtain ⟨w0, hw0, bxa, bxr, Bw⟩ := one_boxes w ⟨ak, an, am, ab⟩
  dsimp only at hw0
  have B0 : Below w0.heap.size w0 w0 := Below.refl _ _
  go_enter Tryz.func14, Tryz.ntmps14
  go_upto_region 1 with fail
  rw [← hw0]
  clear hw0
  obtain ⟨a0, a1, a2, a3⟩ := bxa.at4
  dsimp only at a0 a1 a2 a3
  go_wp2_with fail
  refine (Ra _ (below_trans Bw B0)).mono ?_
  rintro e w1 ⟨rfl, cc⟩
  have B1 := below_trans B0 cc
  clear a0 a1 a2 a3 cc
  obtain ⟨a0, a1, a2, a3⟩ := (bxa.later B1).at4
  dsimp only at a0 a1 a2 a3
  go_wp2_with fail
  refine (F _ (below_trans Bw B1)).mono ?_
  rintro e w2 ⟨rfl, cc⟩
  have B2 := below_trans B1 cc
  clear a0 a1 a2 a3 cc
  obtain ⟨a0, a1, a2, a3⟩ := (bxa.later B2).at4
  dsimp only at a0 a1 a2 a3
  have br := bxr.later B2
  obtain ⟨r0, r1, r2, r3⟩ := br.at4
  dsimp only [nul] at r0 r1 r2 r3
  simp only [Nat.zero_add] at r1 r2 r3
  have f0 := br.free 0
  have f1 := br.free 1
  have f2 := br.free 2
  have f3 := br.free 3
  have lt1 := br.lt
  have Be := below_trans Bw B2
  go_wp2
  refine bodyPost_ret_by (v := .tuple #[va rk rn rm rb, .int .i64 re]) ?_ rfl ⟨rfl, ?_⟩
  · simp [results, Tryz.results14, go_sem, r0, r1, r2, r3]
  · refine below_trans (Be.setCell (p := ⟨w.heap.size + 1, 0, none⟩) (by dsimp only; omega) (.int .i64 rk) |>.setCell (p := ⟨w.heap.size + 1, 1, none⟩) (by dsimp only; omega) (.int .i64 rn) |>.setCell (p := ⟨w.heap.size + 1, 2, none⟩) (by dsimp only; omega) (.int .i64 rm) |>.setCell (p := ⟨w.heap.size + 1, 3, none⟩) (by dsimp only; omega) (.string rb)) (Grew.below ?_)
    repeat (first | assumption | exact Grew.refl _ | apply Grew.drew | apply Grew.drewN | apply Grew.alloc | apply Grew.more)

theorem qun_any (op : Int) (a : Va) (w : World) (hT : Tabs w) (hP : Pw w) (va' : vin a) :
    Calls Tryz.prog 14 #[.int .i64 op, vv a] w fun e w' => e = .returned (rs (unR op a)) ∧ Below w.heap.size w w' := by
  have Ra : Tells 42 #[vv a] w (.bool (vr a)) := fun W h => vright_any a.k a.n a.m ⟨a.b.toArray⟩ W (hT.later h)
  unfold unR
  by_cases o1 : op < 3
  · rw [if_pos (by omega)]
    exact qun_low op a.k a.n a.m a.b w o1
  by_cases o2 : op > 5
  · rw [if_pos (by omega)]
    exact qun_high op a.k a.n a.m a.b w o1 o2
  cases hr : vr a
  · rw [hr] at Ra
    rw [if_pos (by simp)]
    exact qun_bad op a.k a.n a.m a.b w o1 o2 Ra
  rw [hr] at Ra
  rw [if_neg (by simp; omega)]
  by_cases h5 : op = 5
  · subst h5
    rw [if_pos rfl]
    exact qun_isnull a.k a.n a.m a.b w _ Ra (fun W _ => (qtruth_any (a.k == 0) W).mono fun _ _ h => ⟨h.1, h.2.below⟩)
  rw [if_neg h5]
  by_cases h4 : op = 4
  · subst h4
    rw [if_pos rfl]
    exact qun_not a.k a.n a.m a.b w _ _ _ _ _ Ra (fun W _ => (qnot_any a W).mono fun _ _ h => ⟨h.1, h.2.below⟩)
  rw [if_neg h4]
  obtain rfl : op = 3 := by omega
  exact qun_neg a.k a.n a.m a.b w _ _ _ _ _ Ra (fun W h => (qneg_any a W (hP.below h) hr va').mono fun _ _ h => ⟨h.1, h.2.below⟩)
end Go.Proofs.YtgapmofhnjfdiaaGreatDoor
