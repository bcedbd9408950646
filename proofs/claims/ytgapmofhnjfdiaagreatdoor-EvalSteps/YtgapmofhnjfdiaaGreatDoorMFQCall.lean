/-
  Truths: eval.ofTruths, notOf.
  A world with some blocks more, whatever has been drawn: out of 'Below', so that its cells read as those of a world that has grown. Nothing of the program is in it.
  Rows of values: eval.allRight, slices.Contains at the value Null.
  eval.called.
-/
import Derived.Test.YtgapmofhnjfdiaaGreatDoorMCQBinB
import Derived.Test.YtgapmofhnjfdiaaGreatDoorMeDWide3
import Derived.BigRegion
import Derived.Deep.Cut
namespace Go.Proofs.YtgapmofhnjfdiaaGreatDoor
open Go.RowKit Go.Shelf
attribute [local go_sem] cell?_more frozen?_more setCell_more more_lt more_more more_drew more_drewN setCell_drewN alloc_drewN

theorem vof_vO (t : Int) : vof t = vv (vO t) := by unfold vof vO; split <;> rfl
theorem qof_any (t : Int) (w : World) : Calls Tryz.prog 103 #[.int .i64 t] w fun e w' => e = .returned (vv (vO t)) ∧ Grew w w' := by rw [← vof_vO]; exact of_any t w

set_option maxHeartbeats 2000000 in
theorem qtr_ff (op ak an am bk bn bm t u : Int) (ab bb : ByteArray) (w : World) (y0 : Bool) (Ta : ∀ W, Calls Tryz.prog 90 #[va ak an am ab] W fun e w' => e = .returned (.tuple #[.int .i64 t, .bool false]) ∧ Grew W w') (Tb : ∀ W, Calls Tryz.prog 90 #[va bk bn bm bb] W fun e w' => e = .returned (.tuple #[.int .i64 u, .bool y0]) ∧ Grew W w') :
    Calls Tryz.prog 58 #[.int .i64 op, va ak an am ab, va bk bn bm bb] w fun e w' => e = .returned (.tuple #[va 0 0 0 ⟨#[]⟩, .int .i64 31]) ∧ Grew w w' := by
  go_enter Tryz.func58, Tryz.ntmps58
  go_wp2_with fail
  refine (Ta _).mono ?_
  rintro e w1 ⟨rfl, os1, n1, rfl⟩
  go_wp2_with fail
  refine (Tb _).mono ?_
  rintro e w2 ⟨rfl, os2, n2, rfl⟩
  go_wp2
  all_goals refine bodyPost_ret_by (v := .tuple #[va 0 0 0 ⟨#[]⟩, .int .i64 31]) ?_ rfl ⟨rfl, (by repeat (first | assumption | exact Grew.refl _ | apply Grew.drew | apply Grew.drewN | apply Grew.alloc | apply Grew.more))⟩
  all_goals simp [results, Tryz.results58, go_sem]

set_option maxHeartbeats 2000000 in
theorem qtr_tf (op ak an am bk bn bm t u : Int) (ab bb : ByteArray) (w : World)  (Ta : ∀ W, Calls Tryz.prog 90 #[va ak an am ab] W fun e w' => e = .returned (.tuple #[.int .i64 t, .bool true]) ∧ Grew W w') (Tb : ∀ W, Calls Tryz.prog 90 #[va bk bn bm bb] W fun e w' => e = .returned (.tuple #[.int .i64 u, .bool false]) ∧ Grew W w') :
    Calls Tryz.prog 58 #[.int .i64 op, va ak an am ab, va bk bn bm bb] w fun e w' => e = .returned (.tuple #[va 0 0 0 ⟨#[]⟩, .int .i64 31]) ∧ Grew w w' := by
  go_enter Tryz.func58, Tryz.ntmps58
  go_wp2_with fail
  refine (Ta _).mono ?_
  rintro e w1 ⟨rfl, os1, n1, rfl⟩
  go_wp2_with fail
  refine (Tb _).mono ?_
  rintro e w2 ⟨rfl, os2, n2, rfl⟩
  go_wp2
  all_goals refine bodyPost_ret_by (v := .tuple #[va 0 0 0 ⟨#[]⟩, .int .i64 31]) ?_ rfl ⟨rfl, (by repeat (first | assumption | exact Grew.refl _ | apply Grew.drew | apply Grew.drewN | apply Grew.alloc | apply Grew.more))⟩
  all_goals simp [results, Tryz.results58, go_sem]

set_option maxHeartbeats 2000000 in
theorem qtr_and (ak an am bk bn bm t u : Int) (ab bb : ByteArray) (w : World)  (Ta : ∀ W, Calls Tryz.prog 90 #[va ak an am ab] W fun e w' => e = .returned (.tuple #[.int .i64 t, .bool true]) ∧ Grew W w') (Tb : ∀ W, Calls Tryz.prog 90 #[va bk bn bm bb] W fun e w' => e = .returned (.tuple #[.int .i64 u, .bool true]) ∧ Grew W w') :
    Calls Tryz.prog 58 #[.int .i64 17, va ak an am ab, va bk bn bm bb] w fun e w' => e = .returned (rs (vO (tand t u), 0)) ∧ Grew w w' := by
  have C := fun W => and_any t u W
  have O := fun W => qof_any (tand t u) W
  go_enter Tryz.func58, Tryz.ntmps58
  go_wp2_with fail
  refine (Ta _).mono ?_
  rintro e w1 ⟨rfl, os1, n1, rfl⟩
  go_wp2_with fail
  refine (Tb _).mono ?_
  rintro e w2 ⟨rfl, os2, n2, rfl⟩
  go_wp2_with (first
    | (go_at_call 114; refine (C _).mono ?_; rintro e w3 ⟨rfl, rfl⟩)
    | (go_at_call 103; refine (O _).mono ?_; rintro e w3 ⟨rfl, os3, n3, rfl⟩))
  refine bodyPost_ret_by (v := rs (vO (tand t u), 0)) ?_ rfl ⟨rfl, (by repeat (first | assumption | exact Grew.refl _ | apply Grew.drew | apply Grew.drewN | apply Grew.alloc | apply Grew.more))⟩
  simp [results, Tryz.results58, go_sem]

set_option maxHeartbeats 2000000 in
theorem qtr_or (op ak an am bk bn bm t u : Int) (ab bb : ByteArray) (w : World) (e17 : (op == 17) = false) (Ta : ∀ W, Calls Tryz.prog 90 #[va ak an am ab] W fun e w' => e = .returned (.tuple #[.int .i64 t, .bool true]) ∧ Grew W w') (Tb : ∀ W, Calls Tryz.prog 90 #[va bk bn bm bb] W fun e w' => e = .returned (.tuple #[.int .i64 u, .bool true]) ∧ Grew W w') :
    Calls Tryz.prog 58 #[.int .i64 op, va ak an am ab, va bk bn bm bb] w fun e w' => e = .returned (rs (vO (tor t u), 0)) ∧ Grew w w' := by
  have C := fun W => or_any t u W
  have O := fun W => qof_any (tor t u) W
  go_enter Tryz.func58, Tryz.ntmps58
  go_wp2_with fail
  refine (Ta _).mono ?_
  rintro e w1 ⟨rfl, os1, n1, rfl⟩
  go_wp2_with fail
  refine (Tb _).mono ?_
  rintro e w2 ⟨rfl, os2, n2, rfl⟩
  go_wp2_with (first
    | (go_at_call 115; refine (C _).mono ?_; rintro e w3 ⟨rfl, rfl⟩)
    | (go_at_call 103; refine (O _).mono ?_; rintro e w3 ⟨rfl, os3, n3, rfl⟩))
  refine bodyPost_ret_by (v := rs (vO (tor t u), 0)) ?_ rfl ⟨rfl, (by repeat (first | assumption | exact Grew.refl _ | apply Grew.drew | apply Grew.drewN | apply Grew.alloc | apply Grew.more))⟩
  simp [results, Tryz.results58, go_sem]

theorem qtru_any (op : Int) (a b : Va) (w : World) : Calls Tryz.prog 58 #[.int .i64 op, vv a, vv b] w fun e w' => e = .returned (rs (truR op a b)) ∧ Grew w w' := by
  have A := fun W => truth_any a.k a.n a.m ⟨a.b.toArray⟩ W
  have B := fun W => truth_any b.k b.n b.m ⟨b.b.toArray⟩ W
  unfold truR
  cases ha : tB a
  · rw [if_neg (by simp)]
    rw [show truB a.k a.n a.m ⟨a.b.toArray⟩ = false from ha] at A
    exact qtr_ff op _ _ _ _ _ _ _ _ _ _ w _ A B
  · rw [show truB a.k a.n a.m ⟨a.b.toArray⟩ = true from ha] at A
    cases hb : tB b
    · rw [if_neg (by simp)]
      rw [show truB b.k b.n b.m ⟨b.b.toArray⟩ = false from hb] at B
      exact qtr_tf op _ _ _ _ _ _ _ _ _ _ w A B
    · rw [if_pos (by rfl)]
      rw [show truB b.k b.n b.m ⟨b.b.toArray⟩ = true from hb] at B
      by_cases h : op = 17
      · subst h
        rw [if_pos rfl]
        exact qtr_and _ _ _ _ _ _ _ _ _ _ w A B
      · rw [if_neg h]
        exact qtr_or op _ _ _ _ _ _ _ _ _ _ w (by simpa using h) A B

set_option maxHeartbeats 2000000 in
theorem qnot_any (a : Va) (w : World) : Calls Tryz.prog 44 #[vv a] w fun e w' => e = .returned (rs (notR a)) ∧ Grew w w' := by
  have A := fun W => truth_any a.k a.n a.m ⟨a.b.toArray⟩ W
  unfold notR
  cases ha : tB a
  · rw [if_neg (by simp)]
    rw [show truB a.k a.n a.m ⟨a.b.toArray⟩ = false from ha] at A
    generalize truN a.k a.n a.m ⟨a.b.toArray⟩ = t at *
    go_enter Tryz.func44, Tryz.ntmps44
    go_wp2_with (go_at_call 90; refine (A _).mono ?_; rintro e w1 ⟨rfl, os1, n1, rfl⟩)
    refine bodyPost_ret_by (v := rs (nul, 31)) ?_ rfl ⟨rfl, (by repeat (first | assumption | exact Grew.refl _ | apply Grew.drew | apply Grew.drewN | apply Grew.alloc | apply Grew.more))⟩
    simp [results, Tryz.results44, go_sem, nul]
  · rw [if_pos rfl]
    rw [show truB a.k a.n a.m ⟨a.b.toArray⟩ = true from ha] at A
    unfold tN
    generalize truN a.k a.n a.m ⟨a.b.toArray⟩ = t at *
    have C := fun W => not_any t W
    have O := fun W => qof_any (tnot t) W
    go_enter Tryz.func44, Tryz.ntmps44
    go_wp2_with (first
      | (go_at_call 90; refine (A _).mono ?_; rintro e w1 ⟨rfl, os1, n1, rfl⟩)
      | (go_at_call 104; refine (C _).mono ?_; rintro e w3 ⟨rfl, rfl⟩)
      | (go_at_call 103; refine (O _).mono ?_; rintro e w3 ⟨rfl, os3, n3, rfl⟩))
    refine bodyPost_ret_by (v := rs (vO (tnot t), 0)) ?_ rfl ⟨rfl, (by repeat (first | assumption | exact Grew.refl _ | apply Grew.drew | apply Grew.drewN | apply Grew.alloc | apply Grew.more))⟩
    simp [results, Tryz.results44, go_sem]
end Go.Proofs.YtgapmofhnjfdiaaGreatDoor

namespace Go.Proofs.YtgapmofhnjfdiaaGreatDoor
open Go.RowKit

/-- The same world, that many draws. -/
def drawTo (w : World) (d : Nat) : World := { w with drawn := d }
theorem cell?_drawTo (w : World) (d : Nat) (a : Addr) : (drawTo w d).cell? a = w.cell? a := rfl
theorem frozen?_drawTo (w : World) (d : Nat) (a : Addr) : (drawTo w d).frozen? a = w.frozen? a := rfl
theorem heap_drawTo (w : World) (d : Nat) : (drawTo w d).heap = w.heap := rfl
theorem setCell_drawTo (w : World) (d : Nat) (a : Addr) (v : Value) : (drawTo w d).setCell a v = drawTo (w.setCell a v) d := by
  unfold World.setCell drawTo
  split <;> rfl
theorem alloc_drawTo (w : World) (d : Nat) (o : Obj) : (drawTo w d).alloc o = drawTo (w.alloc o) d := rfl
theorem drewN_drawTo (w : World) (d n : Nat) : (drawTo w d).drewN n = drawTo w (d + n) := rfl
theorem drew_drawTo (w : World) (d : Nat) : (drawTo w d).drew = drawTo w (d + 1) := rfl
theorem drawTo_drewN (w : World) (d n : Nat) : drawTo (w.drewN n) d = drawTo w d := rfl
theorem drawTo_drew (w : World) (d : Nat) : drawTo w.drew d = drawTo w d := rfl
theorem drawTo_drawTo (w : World) (d n : Nat) : drawTo (drawTo w d) n = drawTo w n := rfl
theorem more_drawTo (os : List Obj) (d : Nat) : ∀ w : World, more (drawTo w d) os = drawTo (more w os) d := by
  induction os with
  | nil => intro w; rfl
  | cons p a ih => intro w; exact ih (w.alloc p)
theorem more_heap (os : List Obj) : ∀ w : World, (more w os).heap = w.heap ++ os.toArray := by
  induction os with
  | nil => intro w; simp [more]
  | cons p a ih =>
    intro w
    show (more (w.alloc p) a).heap = _
    rw [ih, World.alloc]
    simp
theorem more_rest (os : List Obj) : ∀ w : World, (more w os).tape = w.tape ∧ (more w os).os = w.os ∧ (more w os).output = w.output := by
  induction os with
  | nil => intro w; exact ⟨rfl, rfl, rfl⟩
  | cons p a ih => intro w; exact ih (w.alloc p)
/-- What a call may have done: blocks more, whatever was drawn. -/
theorem wide {w w' : World} (h : Below w.heap.size w w') : ∃ (os : List Obj) (d : Nat), w' = drawTo (more w os) d := by
  refine ⟨w'.heap.toList.drop w.heap.size, w'.drawn, ?_⟩
  have e1 : w'.heap = (more w (w'.heap.toList.drop w.heap.size)).heap := by
    rw [more_heap]
    apply Array.ext'
    have : w.heap.toList = w'.heap.toList.take w.heap.size := by
      apply List.ext_getElem?
      intro i
      rw [List.getElem?_take]
      by_cases hi : i < w.heap.size
      · rw [if_pos hi]
        have := h.block i hi
        simpa using this.symm
      · rw [if_neg hi]
        simp
        omega
    simp only [Array.toList_append]
    rw [this, List.take_append_drop]
  obtain ⟨t, o, p⟩ := more_rest (w'.heap.toList.drop w.heap.size) w
  generalize more w (w'.heap.toList.drop w.heap.size) = m at *
  obtain ⟨h', t', d', o', p'⟩ := w'
  obtain ⟨hm, tm, dm, om, pm⟩ := m
  simp only [drawTo, World.mk.injEq] at *
  exact ⟨e1, h.tape.trans t.symm, trivial, h.os.trans o.symm, h.output.trans p.symm⟩

/-- Blocks more, whatever was drawn. -/
def Grown (w w' : World) : Prop := ∃ (os : List Obj) (d : Nat), w' = drawTo (more w os) d
theorem Grown.refl (w : World) : Grown w w := ⟨[], w.drawn, rfl⟩
theorem Grown.alloc {a w : World} (h : Grown a w) (o : Obj) : Grown a (w.alloc o) := by
  obtain ⟨os, n, rfl⟩ := h
  exact ⟨os ++ [o], n, by rw [more_snoc]; rfl⟩
theorem Grown.drawTo {a w : World} (h : Grown a w) (m : Nat) : Grown a (drawTo w m) := by
  obtain ⟨os, n, rfl⟩ := h
  exact ⟨os, m, rfl⟩
theorem Grown.drewN {a w : World} (h : Grown a w) (m : Nat) : Grown a (w.drewN m) := by
  obtain ⟨os, n, rfl⟩ := h
  exact ⟨os, n + m, rfl⟩
theorem Grown.drew {a w : World} (h : Grown a w) : Grown a w.drew := h.drewN 1
theorem Grown.trans {a b c : World} (h : Grown a b) (k : Grown b c) : Grown a c := by
  obtain ⟨os, n, rfl⟩ := h
  obtain ⟨ps, m, rfl⟩ := k
  exact ⟨os ++ ps, m, by rw [more_drawTo, more_more]; rfl⟩
theorem Grown.more {a w : World} (h : Grown a w) (os : List Obj) : Grown a (more w os) := h.trans ⟨os, (Proofs.YtgapmofhnjfdiaaGreatDoor.more w os).drawn, rfl⟩
theorem Grown.below {w w' : World} (h : Grown w w') : Below w.heap.size w w' := by
  obtain ⟨os, n, rfl⟩ := h
  have := more_below os w w _ (Below.refl _ _) (Nat.le_refl _)
  exact ⟨this.os, this.tape, this.output, this.size, this.block⟩
end Go.Proofs.YtgapmofhnjfdiaaGreatDoor

namespace Go.Proofs.YtgapmofhnjfdiaaGreatDoor
open Go.RowKit Go.Shelf
attribute [local go_sem] cell?_more frozen?_more setCell_more more_lt more_more more_drew more_drewN setCell_drewN alloc_drewN

set_option maxHeartbeats 1000000 in
theorem qall_any (ao : Option Addr) (cap : Nat) (l : List Va) (w : World) (hT : Tabs w) (hv : Vs w ao l) (hl : l.length ≤ 9223372036854775807) :
    Calls Tryz.prog 76 #[.slice ao l.length cap] w fun e w' => e = .returned (.bool (l.all vr)) ∧ Below w.heap.size w w' := by
  obtain ⟨E, hE⟩ : ∃ E, E = l.all vr := ⟨_, rfl⟩
  rw [← hE]
  have HE : Hid (E = l.all vr) := hE
  obtain ⟨n, hn⟩ : ∃ n, l.length = n := ⟨_, rfl⟩
  rw [hn] at hl ⊢
  have HN : Hid (l.length = n) := hn
  clear hE hn
  go_enter Tryz.func76, Tryz.ntmps76
  go_wp2
  go_loopw [7] (fun r wr => ∃ k : Nat, r = .int .i64 (k : Int) ∧ k ≤ n ∧ Below w.heap.size w wr ∧ Hid (∀ i (h : i < l.length), i < k → vr l[i] = true)) (fun r _ => n - (intOf r).toNat)
  case atStart => exact ⟨0, rfl, Nat.zero_le _, Below.refl _ _, fun i _ h => by omega⟩
  case round =>
    obtain ⟨k, rfl, hk, hB, hA⟩ := hrel
    have sB := hB.size
    by_cases hlt : k < n
    · have hlt' : (k : Int) < (n : Int) := by omega
      have hkl : k < l.length := by rw [HN.out]; exact hlt
      obtain ⟨b, off, rfl, hc⟩ := hv (by omega)
      obtain ⟨c0, c1, c2, c3⟩ := ((hc k (by omega)).later hB)
      have hg := (hc k (by omega)).lt
      have hg' : b < wr.heap.size := by omega
      have hT' := hT.later hB
      have R : ∀ W, Grew wr W → Calls Tryz.prog 42 #[vv l[k]] W fun e w' => e = .returned (.bool (vr l[k])) ∧ Below W.heap.size W w' := fun W h => vright_any _ _ _ _ W (hT'.later h.below)
      obtain ⟨⟨vk, vn, vm, vb⟩, he⟩ : ∃ v : Va, v = l[k] := ⟨_, rfl⟩
      rw [← he] at c0 c1 c2 c3 R
      have HV : Hid (Va.mk vk vn vm vb = l[k]) := he
      clear hc hT' hT he
      cases hvr : vr ⟨vk, vn, vm, vb⟩
      · rw [hvr] at R
        go_wp2_with (go_at_call 42; refine (R _ (by repeat (first | exact Grew.refl _ | apply Grew.drew | apply Grew.drewN | apply Grew.alloc | apply Grew.more))).mono ?_; rintro e w2 ⟨rfl, hb2⟩)
        go_ret
        have hall : (l.all vr) = false := by
          rw [List.all_eq_false]
          exact ⟨l[k]'(by have := HN.out; omega), List.getElem_mem _, by rw [← HV.out, hvr]; simp⟩
        refine ⟨by rw [HE.out, hall]; rfl, ?_⟩
        exact hB.trans ((Below.mono (below_trans (Grew.below (by repeat (first | exact Grew.refl _ | apply Grew.drew | apply Grew.drewN | apply Grew.alloc | apply Grew.more))) hb2)) sB)
      · rw [hvr] at R
        go_wp2_with (go_at_call 42; refine (R _ (by repeat (first | exact Grew.refl _ | apply Grew.drew | apply Grew.drewN | apply Grew.alloc | apply Grew.more))).mono ?_; rintro e w2 ⟨rfl, hb2⟩)
        go_roundw
        case rel =>
          refine ⟨k + 1, by go_num, by omega, hB.trans ((Below.mono (below_trans (Grew.below (by repeat (first | exact Grew.refl _ | apply Grew.drew | apply Grew.drewN | apply Grew.alloc | apply Grew.more))) hb2)) sB), fun i hi hik => ?_⟩
          by_cases h : i < k
          · exact hA.out i hi h
          · have : i = k := by omega
            subst this
            rw [← HV.out, hvr]
        case measure => simp [intOf]; omega
    · have hlt' : ¬ (k : Int) < (n : Int) := by omega
      go_wp2
      go_ret
      have hall : (l.all vr) = true := by
        rw [List.all_eq_true]
        intro v hv'
        obtain ⟨i, hi, rfl⟩ := List.getElem_of_mem hv'
        exact hA.out i hi (by have := HN.out; omega)
      exact ⟨by rw [HE.out, hall]; rfl, hB⟩

/-- Is it the value Null? -/
def zq (x : Va) : Bool := eqv 0 0 0 ⟨#[]⟩ x.k x.n x.m ⟨x.b.toArray⟩

theorem cstq (k : Nat) : ((k + 1 : Nat) : Int) = (k : Int) + 1 := by omega

set_option maxHeartbeats 1000000 in
theorem qidx_any (ao : Option Addr) (cap : Nat) (l : List Va) (w : World) (hv : Vs w ao l) (hn : l.length ≤ 140737488351232) :
    Calls Tryz.prog 143 #[.slice ao l.length cap, va 0 0 0 ⟨#[]⟩] w fun e w' => (∃ i : Int, e = .returned (.int .i64 i) ∧ decide (0 ≤ i) = l.any zq) ∧ Below w.heap.size w w' := by
  obtain ⟨R, hR⟩ : ∃ R, R = l.any zq := ⟨_, rfl⟩
  rw [← hR]
  have HR : Hid (R = (l.drop 0).any zq) := hR
  clear hR
  obtain ⟨n, hnn⟩ : ∃ n, l.length = n := ⟨_, rfl⟩
  rw [hnn] at hn ⊢
  have HN : Hid (l.length = n) := hnn
  clear hnn
  go_enter Tryz.func143, Tryz.ntmps143
  go_wp2
  go_loopw [8] (fun r wr => ∃ k : Nat, r = .int .i64 (k : Int) ∧ k ≤ n ∧ Box wr w.heap.size nul ∧ Below w.heap.size w wr ∧ Hid (R = (l.drop k).any zq)) (fun r _ => n - (intOf r).toNat)
  case atStart => exact ⟨0, rfl, Nat.zero_le _, Box.new w 0 0 0 [], (Below.refl _ w).alloc (Nat.le_refl _) _, HR⟩
  case round =>
    obtain ⟨k, rfl, hk, hc, hb, hH⟩ := hrel
    have sB := hb.size
    by_cases hlt : k < n
    · have hlt' : (k : Int) < (n : Int) := by omega
      have k0 : (0 : Int) ≤ (k : Int) := by omega
      have hkl : k < l.length := by rw [HN.out]; exact hlt
      obtain ⟨b, off, rfl, hcl⟩ := hv (by omega)
      obtain ⟨c0, c1, c2, c3⟩ := ((hcl k hkl).later hb)
      have hg := (hcl k hkl).lt
      have hg' : b < wr.heap.size := by omega
      have hdr : l.drop k = l[k] :: l.drop (k + 1) := List.drop_eq_getElem_cons hkl
      obtain ⟨x, he⟩ : ∃ x : Va, x = l[k] := ⟨_, rfl⟩
      rw [← he] at c0 c1 c2 c3 hdr
      have HST : Hid (R = (zq x || (l.drop (k + 1)).any zq)) := by
        show R = _
        rw [hH.out, hdr]; rfl
      obtain ⟨xk, xn, xm, xb⟩ := x
      have eqx : ∀ W, (Op.equalIn 10000 30 (va 0 0 0 ⟨#[]⟩) (va xk xn xm ⟨xb.toArray⟩)).run Tryz.prog W = .ok (zq ⟨xk, xn, xm, xb⟩) W := fun W => eqVb 0 0 0 xk xn xm ⟨#[]⟩ ⟨xb.toArray⟩ W
      generalize zq ⟨xk, xn, xm, xb⟩ = q at eqx HST
      obtain ⟨z0, z1, z2, z3⟩ := hc.at4
      have zl := hc.lt
      have HC : Hid (Box wr w.heap.size nul) := hc
      dsimp only [nul] at z0 z1 z2 z3
      simp only [Nat.zero_add] at z1 z2 z3
      clear hdr he hcl hH HR hc
      cases q with
      | true =>
        go_wp2
        go_region
        all_goals go_wp2
        all_goals go_ret
        all_goals exact ⟨⟨(k : Int), rfl, by rw [HST.out]; simp⟩, by first | exact hb | exact hb.drew⟩
      | false =>
        have HF : Hid (R = (l.drop (k + 1)).any zq) := by show R = _; rw [HST.out, Bool.false_or]
        go_wp2
        go_region
        all_goals go_wp2
        all_goals exact ⟨⟨k + 1, by rw [cstq], by omega, HC.out, by first | exact hb | exact hb.drew, HF⟩, by simp [intOf]; omega⟩
    · have hlt' : ¬ (k : Int) < (n : Int) := by omega
      have HF : Hid (R = false) := by
        show R = false
        rw [hH.out, List.drop_eq_nil_of_le (by rw [HN.out]; omega)]; rfl
      clear hH HR hc
      go_wp2
      go_ret
      exact ⟨⟨-1, rfl, by rw [HF.out]; rfl⟩, hb⟩

theorem qcont_any (ao : Option Addr) (cap : Nat) (l : List Va) (w : World) (hv : Vs w ao l) (hn : l.length ≤ 140737488351232) :
    Calls Tryz.prog 79 #[.slice ao l.length cap, va 0 0 0 ⟨#[]⟩] w fun e w' => e = .returned (.bool (l.any zq)) ∧ Below w.heap.size w w' := by
  have I : ∀ W, Below w.heap.size w W → _ := fun W h => qidx_any ao cap l W (hv.later h) hn
  have A0 := (Below.refl w.heap.size w).alloc (Nat.le_refl _) (.cells #[.int .i64 0, .int .i64 0, .int .i64 0, .string ⟨#[]⟩] 30)
  clear hv
  generalize l.any zq = q at *
  generalize l.length = n at *
  go_enter Tryz.func79, Tryz.ntmps79
  go_wp2_with fail
  refine (I _ (by first | exact A0 | exact Below.refl _ _)).mono ?_
  rintro e w1 ⟨⟨i, rfl, hi⟩, b1⟩
  have HI : Hid (decide (0 ≤ i) = q) := hi
  clear hi I
  go_wp2
  go_ret
  exact ⟨by rw [← HI.out]; rfl, by first | exact A0.trans (b1.mono A0.size) | exact b1⟩
end Go.Proofs.YtgapmofhnjfdiaaGreatDoor

namespace Go.Proofs.YtgapmofhnjfdiaaGreatDoor
open Go.RowKit Go.Shelf
attribute [local go_sem] cell?_more frozen?_more setCell_more more_lt more_more more_drew more_drewN setCell_drewN alloc_drewN

/-- The box of the answer. -/
theorem res_box (w : World) : ∃ w0, w0 = w.alloc (.cells #[.int .i64 0, .int .i64 0, .int .i64 0, .string ⟨#[]⟩] 30) ∧ Box w0 w.heap.size nul ∧ Below w.heap.size w w0 :=
  ⟨_, rfl, Box.new w 0 0 0 [], (Below.refl _ w).alloc (Nat.le_refl _) _⟩

set_option maxRecDepth 20000 in
set_option maxHeartbeats 2000000 in
theorem called_length (bl off cap : Nat) (an am : Int) (ab : List UInt8) (w : World) (hg : bl < w.heap.size) (c0 : w.cell? ⟨bl, off, none⟩ = some (.int .i64 3)) (c1 : w.cell? ⟨bl, off + 1, none⟩ = some (.int .i64 an)) (c2 : w.cell? ⟨bl, off + 2, none⟩ = some (.int .i64 am)) (c3 : w.cell? ⟨bl, off + 3, none⟩ = some (.string ⟨ab.toArray⟩)) 
    :
    Calls Tryz.prog 80 #[.string ⟨#[108, 101, 110, 103, 116, 104]⟩, .slice (some ⟨bl, off, none⟩) 1 cap] w fun e w' => e = .returned (rs (wholeR (ab.length : Int) 0)) ∧ Below w.heap.size w w' := by
  obtain ⟨w0, hw0, bxr, Bw⟩ := res_box w
  have z0 : IntKind.i64.wrap 0 = 0 := by rw [IntKind.wrap_i64]; rfl
  go_enter Tryz.func80, Tryz.ntmps80
  go_wp2_with fail
  rw [← hw0]
  clear hw0
  rw [← Bw.cell (p := ⟨bl, off, none⟩) hg] at c0
  rw [← Bw.cell (p := ⟨bl, off + 1, none⟩) hg] at c1
  rw [← Bw.cell (p := ⟨bl, off + 2, none⟩) hg] at c2
  rw [← Bw.cell (p := ⟨bl, off + 3, none⟩) hg] at c3
  replace hg : bl < w0.heap.size := Nat.lt_of_lt_of_le hg Bw.size
  go_cut [6, 7] from 8 (fun s0 s1 wx => ∃ p q : Nat, s0 = .pointer (some ⟨p, 0, none⟩) ∧ s1 = .pointer (some ⟨q, 0, none⟩) ∧ (wx.cell? ⟨p, 0, none⟩ = some (.int .i64 3) ∧ wx.cell? ⟨p, 1, none⟩ = some (.int .i64 an) ∧ wx.cell? ⟨p, 2, none⟩ = some (.int .i64 am) ∧ wx.cell? ⟨p, 3, none⟩ = some (.string ⟨ab.toArray⟩)) ∧ (wx.cell? ⟨q, 0, none⟩ = some (.int .i64 3) ∧ wx.cell? ⟨q, 1, none⟩ = some (.int .i64 an) ∧ wx.cell? ⟨q, 2, none⟩ = some (.int .i64 am) ∧ wx.cell? ⟨q, 3, none⟩ = some (.string ⟨ab.toArray⟩)) ∧ w0.heap.size ≤ p ∧ w0.heap.size ≤ q ∧ Grew w0 wx)
  case first =>
    refine wp_region_held_drew (S := (fun W => W.cell? ⟨bl, off, none⟩ = some (.int .i64 3) ∧ W.cell? ⟨bl, off + 1, none⟩ = some (.int .i64 an) ∧ W.cell? ⟨bl, off + 2, none⟩ = some (.int .i64 am) ∧ W.cell? ⟨bl, off + 3, none⟩ = some (.string ⟨ab.toArray⟩))) (by kernel_rfl) ?_ (fun hHeld => ?_)
    · ((try dsimp only); (simp (maxDischargeDepth := 12) [go_sem, c0, c1, c2, c3]))
    refine wpAnyH_take (i := 0) (oi := { dst := some 8, op := Op.move (Operand.tmp 1), type := 45, pos := "function.go:57", after := #[], guard := none }) (v := ?_) rfl (by kernel_rfl) (by kernel_rfl) (by kernel_rfl) (fun _ _ _ h => h) (Or.inl ⟨by rfl, ?_⟩) (by assumption) ?_
    rotate_left
    · (intro W hSw; (try dsimp only at hSw); first | (go_simp; done) | (go_simp; with_reducible rfl))
    try simp only [Act.put, List.setIfInBounds_toArray, List.set_cons_zero, List.set_cons_succ]
    refine wpAnyH_take (i := 1) (oi := { dst := some 9, op := Op.indexAddr 45 (Operand.tmp 8) (Operand.const (Value.int IntKind.i64 0)), type := 0, pos := "function.go:57", after := #[{ on := 0, ground := Ground.data }], guard := none }) (v := ?_) rfl (by kernel_rfl) (by kernel_rfl) (by kernel_rfl) (fun _ _ _ h => h) (Or.inl ⟨by rfl, ?_⟩) (by assumption) ?_
    rotate_left
    · (intro W hSw; (try dsimp only at hSw); first | (go_simp; done) | (go_simp; with_reducible rfl))
    try simp only [Act.put, List.setIfInBounds_toArray, List.set_cons_zero, List.set_cons_succ]
    refine wpAnyH_take (i := 2) (oi := { dst := some 10, op := Op.load 30 (Operand.tmp 9), type := 30, pos := "function.go:57", after := #[{ on := 1, ground := Ground.data }], guard := none }) (v := ?_) rfl (by kernel_rfl) (by kernel_rfl) (by kernel_rfl) (fun _ _ _ h => h) (Or.inl ⟨by rfl, ?_⟩) (by assumption) ?_
    rotate_left
    · (intro W hSw; (try dsimp only at hSw); first | (go_simp; done) | (go_simp; with_reducible rfl))
    try simp only [Act.put, List.setIfInBounds_toArray, List.set_cons_zero, List.set_cons_succ]
    refine wpAnyH_take (i := 3) (oi := { dst := some 11, op := Op.move (Operand.tmp 1), type := 45, pos := "function.go:57", after := #[{ on := 11, ground := Ground.gcOnly Departure.lateStores }], guard := none }) (v := ?_) rfl (by kernel_rfl) (by kernel_rfl) (by kernel_rfl) (fun _ _ _ h => h) (Or.inl ⟨by rfl, ?_⟩) (by assumption) ?_
    rotate_left
    · (intro W hSw; (try dsimp only at hSw); first | (go_simp; done) | (go_simp; with_reducible rfl))
    try simp only [Act.put, List.setIfInBounds_toArray, List.set_cons_zero, List.set_cons_succ]
    refine wpAnyH_take (i := 4) (oi := { dst := some 12, op := Op.move (Operand.tmp 1), type := 45, pos := "function.go:57", after := #[], guard := none }) (v := ?_) rfl (by kernel_rfl) (by kernel_rfl) (by kernel_rfl) (fun _ _ _ h => h) (Or.inl ⟨by rfl, ?_⟩) (by assumption) ?_
    rotate_left
    · (intro W hSw; (try dsimp only at hSw); first | (go_simp; done) | (go_simp; with_reducible rfl))
    try simp only [Act.put, List.setIfInBounds_toArray, List.set_cons_zero, List.set_cons_succ]
    refine wpAnyH_take (i := 5) (oi := { dst := some 13, op := Op.call { callee := Callee.builtin Builtin.len, args := #[Operand.tmp 12], argTypes := #[45] }, type := 3, pos := "function.go:57", after := #[{ on := 4, ground := Ground.data }], guard := none }) (v := ?_) rfl (by kernel_rfl) (by kernel_rfl) (by kernel_rfl) (fun _ _ _ h => h) (Or.inl ⟨by rfl, ?_⟩) (by assumption) ?_
    rotate_left
    · (intro W hSw; (try dsimp only at hSw); first | (go_simp; done) | (go_simp; with_reducible rfl))
    try simp only [Act.put, List.setIfInBounds_toArray, List.set_cons_zero, List.set_cons_succ]
    refine wpAnyH_take (i := 6) (oi := { dst := some 14, op := Op.binOp BinOp.sub 3 (Operand.tmp 13) (Operand.const (Value.int IntKind.i64 1)) 3, type := 3, pos := "function.go:57", after := #[{ on := 5, ground := Ground.data }, { on := 11, ground := Ground.gcOnly Departure.lateStores }], guard := none }) (v := ?_) rfl (by kernel_rfl) (by kernel_rfl) (by kernel_rfl) (fun _ _ _ h => h) (Or.inl ⟨by rfl, ?_⟩) (by assumption) ?_
    rotate_left
    · (intro W hSw; (try dsimp only at hSw); first | (go_simp; done) | (go_simp; with_reducible rfl))
    try simp only [Act.put, List.setIfInBounds_toArray, List.set_cons_zero, List.set_cons_succ]
    refine wpAnyH_take (i := 7) (oi := { dst := some 15, op := Op.indexAddr 45 (Operand.tmp 11) (Operand.tmp 14), type := 0, pos := "function.go:57", after := #[{ on := 3, ground := Ground.data }, { on := 6, ground := Ground.data }, { on := 11, ground := Ground.gcOnly Departure.lateStores }], guard := none }) (v := ?_) rfl (by kernel_rfl) (by kernel_rfl) (by kernel_rfl) (fun _ _ _ h => h) (Or.inl ⟨by rfl, ?_⟩) (by assumption) ?_
    rotate_left
    · (intro W hSw; (try dsimp only at hSw); first | (go_simp; done) | (go_simp; with_reducible rfl))
    try simp only [Act.put, List.setIfInBounds_toArray, List.set_cons_zero, List.set_cons_succ]
    refine wpAnyH_take (i := 8) (oi := { dst := some 16, op := Op.load 30 (Operand.tmp 15), type := 30, pos := "function.go:57", after := #[{ on := 7, ground := Ground.data }, { on := 11, ground := Ground.gcOnly Departure.lateStores }], guard := none }) (v := ?_) rfl (by kernel_rfl) (by kernel_rfl) (by kernel_rfl) (fun _ _ _ h => h) (Or.inl ⟨by rfl, ?_⟩) (by assumption) ?_
    rotate_left
    · (intro W hSw; (try dsimp only at hSw); first | (go_simp; done) | (go_simp; with_reducible rfl))
    try simp only [Act.put, List.setIfInBounds_toArray, List.set_cons_zero, List.set_cons_succ]
    refine wpAnyH_ready (rs := [9, 10]) (by kernel_rfl) (by simp) ?_
    refine AllReadyH.cons (o := { dst := some 6, op := Op.alloc 30, type := 0, pos := "function.go:57", after := #[], guard := none }) rfl (fun K hK => ?_) (AllReadyH.cons (o := { dst := some 7, op := Op.alloc 30, type := 0, pos := "function.go:57", after := #[], guard := none }) rfl (fun K hK => ?_) AllReadyH.nil)
    ·
      go_simp
      refine hK.out _ _ ?_ (fun hHeld => ?_)
      · ((try dsimp only); (simp (maxDischargeDepth := 12) [go_sem, c0, c1, c2, c3, hg]))
      clear hK K
      try simp only [Act.put, List.setIfInBounds_toArray, List.set_cons_zero, List.set_cons_succ]
      refine wpAnyH_ready (rs := [10]) (by kernel_rfl) (by simp) ?_
      refine AllReadyH.cons (o := { dst := some 7, op := Op.alloc 30, type := 0, pos := "function.go:57", after := #[], guard := none }) rfl (fun K hK => ?_) AllReadyH.nil
      go_simp
      refine hK.out _ _ ?_ (fun hHeld => ?_)
      · ((try dsimp only); (simp (maxDischargeDepth := 12) [go_sem, c0, c1, c2, c3, hg]))
      clear hK K
      try simp only [Act.put, List.setIfInBounds_toArray, List.set_cons_zero, List.set_cons_succ]
      refine wpAnyH_ready (rs := [11]) (by kernel_rfl) (by simp) ?_
      refine AllReadyH.cons (o := { dst := none, op := Op.store 30 (Operand.tmp 6) (Operand.tmp 10), type := 0, pos := "function.go:57", after := #[{ on := 9, ground := Ground.data }, { on := 2, ground := Ground.data }, { on := 0, ground := Ground.phase }, { on := 1, ground := Ground.phase }, { on := 2, ground := Ground.phase }, { on := 3, ground := Ground.textOnly Departure.lateStores }, { on := 4, ground := Ground.textOnly Departure.lateStores }, { on := 5, ground := Ground.textOnly Departure.lateStoresUnsure }, { on := 6, ground := Ground.textOnly Departure.lateStores }, { on := 7, ground := Ground.textOnly Departure.lateStores }, { on := 8, ground := Ground.textOnly Departure.lateStores }, { on := 9, ground := Ground.phase }, { on := 10, ground := Ground.phase }], guard := none }) rfl (fun K hK => ?_) AllReadyH.nil
      go_simp
      refine hK.out _ _ ?_ (fun hHeld => ?_)
      · ((try dsimp only); (simp (maxDischargeDepth := 12) [go_sem, c0, c1, c2, c3, hg]))
      clear hK K
      try simp only [Act.put, List.setIfInBounds_toArray, List.set_cons_zero, List.set_cons_succ]
      refine wpAnyH_ready (rs := [12]) (by kernel_rfl) (by simp) ?_
      refine AllReadyH.cons (o := { dst := none, op := Op.store 30 (Operand.tmp 7) (Operand.tmp 16), type := 0, pos := "function.go:57", after := #[{ on := 10, ground := Ground.data }, { on := 8, ground := Ground.data }, { on := 11, ground := Ground.chain }, { on := 0, ground := Ground.phase }, { on := 1, ground := Ground.phase }, { on := 2, ground := Ground.phase }, { on := 3, ground := Ground.phase }, { on := 4, ground := Ground.phase }, { on := 5, ground := Ground.phase }, { on := 6, ground := Ground.phase }, { on := 7, ground := Ground.phase }, { on := 8, ground := Ground.phase }, { on := 9, ground := Ground.phase }, { on := 10, ground := Ground.phase }, { on := 11, ground := Ground.phase }], guard := none }) rfl (fun K hK => ?_) AllReadyH.nil
      go_simp
      refine hK.out _ _ ?_ (fun hHeld => ?_)
      · ((try dsimp only); (simp (maxDischargeDepth := 12) [go_sem, c0, c1, c2, c3, hg]))
      clear hK K
      try simp only [Act.put, List.setIfInBounds_toArray, List.set_cons_zero, List.set_cons_succ]
      refine wpAnyH_done (by kernel_rfl) ?_ _
      go_wp2_with fail
      go_meet
      exact ⟨_, _, rfl, rfl, ⟨by simp (maxDischargeDepth := 12) [go_sem], by simp (maxDischargeDepth := 12) [go_sem], by simp (maxDischargeDepth := 12) [go_sem], by simp (maxDischargeDepth := 12) [go_sem]⟩, ⟨by simp (maxDischargeDepth := 12) [go_sem], by simp (maxDischargeDepth := 12) [go_sem], by simp (maxDischargeDepth := 12) [go_sem], by simp (maxDischargeDepth := 12) [go_sem]⟩, by simp, by simp, (by repeat (first | assumption | exact Grew.refl _ | apply Grew.drew | apply Grew.drewN | apply Grew.alloc | apply Grew.more))⟩
    ·
      go_simp
      refine hK.out _ _ ?_ (fun hHeld => ?_)
      · ((try dsimp only); (simp (maxDischargeDepth := 12) [go_sem, c0, c1, c2, c3, hg]))
      clear hK K
      try simp only [Act.put, List.setIfInBounds_toArray, List.set_cons_zero, List.set_cons_succ]
      refine wpAnyH_ready (rs := [9]) (by kernel_rfl) (by simp) ?_
      refine AllReadyH.cons (o := { dst := some 6, op := Op.alloc 30, type := 0, pos := "function.go:57", after := #[], guard := none }) rfl (fun K hK => ?_) AllReadyH.nil
      go_simp
      refine hK.out _ _ ?_ (fun hHeld => ?_)
      · ((try dsimp only); (simp (maxDischargeDepth := 12) [go_sem, c0, c1, c2, c3, hg]))
      clear hK K
      try simp only [Act.put, List.setIfInBounds_toArray, List.set_cons_zero, List.set_cons_succ]
      refine wpAnyH_ready (rs := [11]) (by kernel_rfl) (by simp) ?_
      refine AllReadyH.cons (o := { dst := none, op := Op.store 30 (Operand.tmp 6) (Operand.tmp 10), type := 0, pos := "function.go:57", after := #[{ on := 9, ground := Ground.data }, { on := 2, ground := Ground.data }, { on := 0, ground := Ground.phase }, { on := 1, ground := Ground.phase }, { on := 2, ground := Ground.phase }, { on := 3, ground := Ground.textOnly Departure.lateStores }, { on := 4, ground := Ground.textOnly Departure.lateStores }, { on := 5, ground := Ground.textOnly Departure.lateStoresUnsure }, { on := 6, ground := Ground.textOnly Departure.lateStores }, { on := 7, ground := Ground.textOnly Departure.lateStores }, { on := 8, ground := Ground.textOnly Departure.lateStores }, { on := 9, ground := Ground.phase }, { on := 10, ground := Ground.phase }], guard := none }) rfl (fun K hK => ?_) AllReadyH.nil
      go_simp
      refine hK.out _ _ ?_ (fun hHeld => ?_)
      · ((try dsimp only); (simp (maxDischargeDepth := 12) [go_sem, c0, c1, c2, c3, hg]))
      clear hK K
      try simp only [Act.put, List.setIfInBounds_toArray, List.set_cons_zero, List.set_cons_succ]
      refine wpAnyH_ready (rs := [12]) (by kernel_rfl) (by simp) ?_
      refine AllReadyH.cons (o := { dst := none, op := Op.store 30 (Operand.tmp 7) (Operand.tmp 16), type := 0, pos := "function.go:57", after := #[{ on := 10, ground := Ground.data }, { on := 8, ground := Ground.data }, { on := 11, ground := Ground.chain }, { on := 0, ground := Ground.phase }, { on := 1, ground := Ground.phase }, { on := 2, ground := Ground.phase }, { on := 3, ground := Ground.phase }, { on := 4, ground := Ground.phase }, { on := 5, ground := Ground.phase }, { on := 6, ground := Ground.phase }, { on := 7, ground := Ground.phase }, { on := 8, ground := Ground.phase }, { on := 9, ground := Ground.phase }, { on := 10, ground := Ground.phase }, { on := 11, ground := Ground.phase }], guard := none }) rfl (fun K hK => ?_) AllReadyH.nil
      go_simp
      refine hK.out _ _ ?_ (fun hHeld => ?_)
      · ((try dsimp only); (simp (maxDischargeDepth := 12) [go_sem, c0, c1, c2, c3, hg]))
      clear hK K
      try simp only [Act.put, List.setIfInBounds_toArray, List.set_cons_zero, List.set_cons_succ]
      refine wpAnyH_done (by kernel_rfl) ?_ _
      go_wp2_with fail
      go_meet
      exact ⟨_, _, rfl, rfl, ⟨by simp (maxDischargeDepth := 12) [go_sem], by simp (maxDischargeDepth := 12) [go_sem], by simp (maxDischargeDepth := 12) [go_sem], by simp (maxDischargeDepth := 12) [go_sem]⟩, ⟨by simp (maxDischargeDepth := 12) [go_sem], by simp (maxDischargeDepth := 12) [go_sem], by simp (maxDischargeDepth := 12) [go_sem], by simp (maxDischargeDepth := 12) [go_sem]⟩, by simp, by simp, (by repeat (first | assumption | exact Grew.refl _ | apply Grew.drew | apply Grew.drewN | apply Grew.alloc | apply Grew.more))⟩
  rename World => w1
  obtain ⟨p, q, rfl, rfl, ⟨p0, p1, p2, p3⟩, ⟨q0, q1, q2, q3⟩, gp, gq, g⟩ := hcut
  have lp := World.block_lt_of_cell? w1 _ p0
  have lq := World.block_lt_of_cell? w1 _ q0
  have B1 := g.below
  have br := bxr.later B1
  obtain ⟨r0, r1, r2, r3⟩ := br.at4
  dsimp only [nul] at r0 r1 r2 r3
  simp only [Nat.zero_add] at r1 r2 r3
  have f0 := br.free 0
  have f1 := br.free 1
  have f2 := br.free 2
  have f3 := br.free 3
  have lt1 := br.lt
  have Be := below_trans Bw B1
  have lr := bxr.lt
  have np : ¬ w.heap.size = p := by omega
  have nq : ¬ w.heap.size = q := by omega
  clear gp gq lr
  clear br bxr g c0 c1 c2 c3 hg
  go_wp2_with (first
    | (go_at_call 105; refine (qwhole_any _ _ _).mono ?_; rintro e w2 ⟨rfl, os2, n2, rfl⟩))
  refine bodyPost_ret_by (v := rs (wholeR (ab.length : Int) 0)) ?_ rfl ⟨rfl, ?_⟩
  · simp [results, Tryz.results80, go_sem, r0, r1, r2, r3, lt1]
  · refine below_trans (Be.setCell (p := ⟨w.heap.size, 0, none⟩) (Nat.le_refl _) (.int .i64 (wholeR (ab.length : Int) 0).1.k) |>.setCell (p := ⟨w.heap.size, 1, none⟩) (Nat.le_refl _) (.int .i64 (wholeR (ab.length : Int) 0).1.n) |>.setCell (p := ⟨w.heap.size, 2, none⟩) (Nat.le_refl _) (.int .i64 (wholeR (ab.length : Int) 0).1.m) |>.setCell (p := ⟨w.heap.size, 3, none⟩) (Nat.le_refl _) (.string ⟨(wholeR (ab.length : Int) 0).1.b.toArray⟩)) (Grew.below ?_)
    repeat (first | assumption | exact Grew.refl _ | apply Grew.drew | apply Grew.drewN | apply Grew.alloc | apply Grew.more)
end Go.Proofs.YtgapmofhnjfdiaaGreatDoor
