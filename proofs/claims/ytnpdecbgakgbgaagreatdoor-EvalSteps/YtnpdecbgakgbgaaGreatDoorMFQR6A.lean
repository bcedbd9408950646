/-
  Truths: eval.ofTruths, notOf.
  A world with some blocks more, whatever has been drawn: out of 'Below', so that its cells read as those of a world that has grown. Nothing of the program is in it.
  Rows of values: eval.allRight, slices.Contains at the value Null.
  eval.called.
  eval.negOf: from kind to kind.
  eval.Unary.
  The document's answers for eval: the smallest functions.
  The document's answers for eval: points.
  The document's answers for eval: Binary, path by path.
-/
import Derived.Test.YtnpdecbgakgbgaaGreatDoorMCQBinB
import Derived.Test.YtnpdecbgakgbgaaGreatDoorMeDWide3
import Derived.BigRegion
import Derived.Deep.Cut
import Derived.Test.YtnpdecbgakgbgaaGreatDoorMDQNums
import Derived.Test.YtnpdecbgakgbgaaGreatDoorDNeg
import Derived.Test.YtnpdecbgakgbgaaGreatDoorMBHRef3
namespace Go.Proofs.YtnpdecbgakgbgaaGreatDoor
open Go.RowKit Go.Shelf
attribute [local go_sem] cell?_more frozen?_more setCell_more more_lt more_more more_drew more_drewN setCell_drewN alloc_drewN

theorem vof_vO (t : Int) : vof t = vv (vO t) := by unfold vof vO; split <;> rfl
theorem qof_any (t : Int) (w : World) : Calls Tryz.prog 90 #[.int .i64 t] w fun e w' => e = .returned (vv (vO t)) ∧ Grew w w' := by rw [← vof_vO]; exact of_any t w

set_option maxHeartbeats 2000000 in
theorem qtr_ff (op ak an am bk bn bm t u : Int) (ab bb : ByteArray) (w : World) (y0 : Bool) (Ta : ∀ W, Calls Tryz.prog 91 #[va ak an am ab] W fun e w' => e = .returned (.tuple #[.int .i64 t, .bool false]) ∧ Grew W w') (Tb : ∀ W, Calls Tryz.prog 91 #[va bk bn bm bb] W fun e w' => e = .returned (.tuple #[.int .i64 u, .bool y0]) ∧ Grew W w') :
    Calls Tryz.prog 50 #[.int .i64 op, va ak an am ab, va bk bn bm bb] w fun e w' => e = .returned (.tuple #[va 0 0 0 ⟨#[]⟩, .int .i64 31]) ∧ Grew w w' := by
  go_enter Tryz.func50, Tryz.ntmps50
  go_wp2_with fail
  refine (Ta _).mono ?_
  rintro e w1 ⟨rfl, os1, n1, rfl⟩
  go_wp2_with fail
  refine (Tb _).mono ?_
  rintro e w2 ⟨rfl, os2, n2, rfl⟩
  go_wp2
  all_goals refine bodyPost_ret_by (v := .tuple #[va 0 0 0 ⟨#[]⟩, .int .i64 31]) ?_ rfl ⟨rfl, (by repeat (first | assumption | exact Grew.refl _ | apply Grew.drew | apply Grew.drewN | apply Grew.alloc | apply Grew.more))⟩
  all_goals simp [results, Tryz.results50, go_sem]

set_option maxHeartbeats 2000000 in
theorem qtr_tf (op ak an am bk bn bm t u : Int) (ab bb : ByteArray) (w : World)  (Ta : ∀ W, Calls Tryz.prog 91 #[va ak an am ab] W fun e w' => e = .returned (.tuple #[.int .i64 t, .bool true]) ∧ Grew W w') (Tb : ∀ W, Calls Tryz.prog 91 #[va bk bn bm bb] W fun e w' => e = .returned (.tuple #[.int .i64 u, .bool false]) ∧ Grew W w') :
    Calls Tryz.prog 50 #[.int .i64 op, va ak an am ab, va bk bn bm bb] w fun e w' => e = .returned (.tuple #[va 0 0 0 ⟨#[]⟩, .int .i64 31]) ∧ Grew w w' := by
  go_enter Tryz.func50, Tryz.ntmps50
  go_wp2_with fail
  refine (Ta _).mono ?_
  rintro e w1 ⟨rfl, os1, n1, rfl⟩
  go_wp2_with fail
  refine (Tb _).mono ?_
  rintro e w2 ⟨rfl, os2, n2, rfl⟩
  go_wp2
  all_goals refine bodyPost_ret_by (v := .tuple #[va 0 0 0 ⟨#[]⟩, .int .i64 31]) ?_ rfl ⟨rfl, (by repeat (first | assumption | exact Grew.refl _ | apply Grew.drew | apply Grew.drewN | apply Grew.alloc | apply Grew.more))⟩
  all_goals simp [results, Tryz.results50, go_sem]

set_option maxHeartbeats 2000000 in
theorem qtr_and (ak an am bk bn bm t u : Int) (ab bb : ByteArray) (w : World)  (Ta : ∀ W, Calls Tryz.prog 91 #[va ak an am ab] W fun e w' => e = .returned (.tuple #[.int .i64 t, .bool true]) ∧ Grew W w') (Tb : ∀ W, Calls Tryz.prog 91 #[va bk bn bm bb] W fun e w' => e = .returned (.tuple #[.int .i64 u, .bool true]) ∧ Grew W w') :
    Calls Tryz.prog 50 #[.int .i64 17, va ak an am ab, va bk bn bm bb] w fun e w' => e = .returned (rs (vO (tand t u), 0)) ∧ Grew w w' := by
  have C := fun W => and_any t u W
  have O := fun W => qof_any (tand t u) W
  go_enter Tryz.func50, Tryz.ntmps50
  go_wp2_with fail
  refine (Ta _).mono ?_
  rintro e w1 ⟨rfl, os1, n1, rfl⟩
  go_wp2_with fail
  refine (Tb _).mono ?_
  rintro e w2 ⟨rfl, os2, n2, rfl⟩
  go_wp2_with (first
    | (go_at_call 101; refine (C _).mono ?_; rintro e w3 ⟨rfl, rfl⟩)
    | (go_at_call 90; refine (O _).mono ?_; rintro e w3 ⟨rfl, os3, n3, rfl⟩))
  refine bodyPost_ret_by (v := rs (vO (tand t u), 0)) ?_ rfl ⟨rfl, (by repeat (first | assumption | exact Grew.refl _ | apply Grew.drew | apply Grew.drewN | apply Grew.alloc | apply Grew.more))⟩
  simp [results, Tryz.results50, go_sem]

set_option maxHeartbeats 2000000 in
theorem qtr_or (op ak an am bk bn bm t u : Int) (ab bb : ByteArray) (w : World) (e17 : (op == 17) = false) (Ta : ∀ W, Calls Tryz.prog 91 #[va ak an am ab] W fun e w' => e = .returned (.tuple #[.int .i64 t, .bool true]) ∧ Grew W w') (Tb : ∀ W, Calls Tryz.prog 91 #[va bk bn bm bb] W fun e w' => e = .returned (.tuple #[.int .i64 u, .bool true]) ∧ Grew W w') :
    Calls Tryz.prog 50 #[.int .i64 op, va ak an am ab, va bk bn bm bb] w fun e w' => e = .returned (rs (vO (tor t u), 0)) ∧ Grew w w' := by
  have C := fun W => or_any t u W
  have O := fun W => qof_any (tor t u) W
  go_enter Tryz.func50, Tryz.ntmps50
  go_wp2_with fail
  refine (Ta _).mono ?_
  rintro e w1 ⟨rfl, os1, n1, rfl⟩
  go_wp2_with fail
  refine (Tb _).mono ?_
  rintro e w2 ⟨rfl, os2, n2, rfl⟩
  go_wp2_with (first
    | (go_at_call 102; refine (C _).mono ?_; rintro e w3 ⟨rfl, rfl⟩)
    | (go_at_call 90; refine (O _).mono ?_; rintro e w3 ⟨rfl, os3, n3, rfl⟩))
  refine bodyPost_ret_by (v := rs (vO (tor t u), 0)) ?_ rfl ⟨rfl, (by repeat (first | assumption | exact Grew.refl _ | apply Grew.drew | apply Grew.drewN | apply Grew.alloc | apply Grew.more))⟩
  simp [results, Tryz.results50, go_sem]

theorem qtru_any (op : Int) (a b : Va) (w : World) : Calls Tryz.prog 50 #[.int .i64 op, vv a, vv b] w fun e w' => e = .returned (rs (truR op a b)) ∧ Grew w w' := by
  have A := fun W => truth_any a.k a.n a.m ⟨a.b.toArray⟩ W
  have B := fun W => truth_any b.k b.n b.m ⟨b.b.toArray⟩ W
  unfold truR
  cases ha : tB a
  · rw [if_neg (by simp)]
    rw [show truB a.k a.n a.m ⟨a.b.toArray⟩ = false from ha] at A
    exact qtr_ff op _ _ _ _ _ _ _ _ _ _ w _ A B
  · rw [show truB a.k a.n a.m ⟨a.b.toArray⟩ = true from ha] at A
    cases hb : tB b
    · rw [if_neg (by simp)]
      rw [show truB b.k b.n b.m ⟨b.b.toArray⟩ = false from hb] at B
      exact qtr_tf op _ _ _ _ _ _ _ _ _ _ w A B
    · rw [if_pos (by rfl)]
      rw [show truB b.k b.n b.m ⟨b.b.toArray⟩ = true from hb] at B
      by_cases h : op = 17
      · subst h
        rw [if_pos rfl]
        exact qtr_and _ _ _ _ _ _ _ _ _ _ w A B
      · rw [if_neg h]
        exact qtr_or op _ _ _ _ _ _ _ _ _ _ w (by simpa using h) A B

set_option maxHeartbeats 2000000 in
theorem qnot_any (a : Va) (w : World) : Calls Tryz.prog 37 #[vv a] w fun e w' => e = .returned (rs (notR a)) ∧ Grew w w' := by
  have A := fun W => truth_any a.k a.n a.m ⟨a.b.toArray⟩ W
  unfold notR
  cases ha : tB a
  · rw [if_neg (by simp)]
    rw [show truB a.k a.n a.m ⟨a.b.toArray⟩ = false from ha] at A
    generalize truN a.k a.n a.m ⟨a.b.toArray⟩ = t at *
    go_enter Tryz.func37, Tryz.ntmps37
    go_wp2_with (go_at_call 91; refine (A _).mono ?_; rintro e w1 ⟨rfl, os1, n1, rfl⟩)
    refine bodyPost_ret_by (v := rs (nul, 31)) ?_ rfl ⟨rfl, (by repeat (first | assumption | exact Grew.refl _ | apply Grew.drew | apply Grew.drewN | apply Grew.alloc | apply Grew.more))⟩
    simp [results, Tryz.results37, go_sem, nul]
  · rw [if_pos rfl]
    rw [show truB a.k a.n a.m ⟨a.b.toArray⟩ = true from ha] at A
    unfold tN
    generalize truN a.k a.n a.m ⟨a.b.toArray⟩ = t at *
    have C := fun W => not_any t W
    have O := fun W => qof_any (tnot t) W
    go_enter Tryz.func37, Tryz.ntmps37
    go_wp2_with (first
      | (go_at_call 91; refine (A _).mono ?_; rintro e w1 ⟨rfl, os1, n1, rfl⟩)
      | (go_at_call 92; refine (C _).mono ?_; rintro e w3 ⟨rfl, rfl⟩)
      | (go_at_call 90; refine (O _).mono ?_; rintro e w3 ⟨rfl, os3, n3, rfl⟩))
    refine bodyPost_ret_by (v := rs (vO (tnot t), 0)) ?_ rfl ⟨rfl, (by repeat (first | assumption | exact Grew.refl _ | apply Grew.drew | apply Grew.drewN | apply Grew.alloc | apply Grew.more))⟩
    simp [results, Tryz.results37, go_sem]
end Go.Proofs.YtnpdecbgakgbgaaGreatDoor

namespace Go.Proofs.YtnpdecbgakgbgaaGreatDoor
open Go.RowKit

/-- The same world, that many draws. -/
def drawTo (w : World) (d : Nat) : World := { w with drawn := d }
theorem cell?_drawTo (w : World) (d : Nat) (a : Addr) : (drawTo w d).cell? a = w.cell? a := rfl
theorem frozen?_drawTo (w : World) (d : Nat) (a : Addr) : (drawTo w d).frozen? a = w.frozen? a := rfl
theorem heap_drawTo (w : World) (d : Nat) : (drawTo w d).heap = w.heap := rfl
theorem setCell_drawTo (w : World) (d : Nat) (a : Addr) (v : Value) : (drawTo w d).setCell a v = drawTo (w.setCell a v) d := by
  unfold World.setCell drawTo
  split <;> rfl
theorem alloc_drawTo (w : World) (d : Nat) (o : Obj) : (drawTo w d).alloc o = drawTo (w.alloc o) d := rfl
theorem drewN_drawTo (w : World) (d n : Nat) : (drawTo w d).drewN n = drawTo w (d + n) := rfl
theorem drew_drawTo (w : World) (d : Nat) : (drawTo w d).drew = drawTo w (d + 1) := rfl
theorem drawTo_drewN (w : World) (d n : Nat) : drawTo (w.drewN n) d = drawTo w d := rfl
theorem drawTo_drew (w : World) (d : Nat) : drawTo w.drew d = drawTo w d := rfl
theorem drawTo_drawTo (w : World) (d n : Nat) : drawTo (drawTo w d) n = drawTo w n := rfl
theorem more_drawTo (os : List Obj) (d : Nat) : ∀ w : World, more (drawTo w d) os = drawTo (more w os) d := by
  induction os with
  | nil => intro w; rfl
  | cons p a ih => intro w; exact ih (w.alloc p)
theorem more_heap (os : List Obj) : ∀ w : World, (more w os).heap = w.heap ++ os.toArray := by
  induction os with
  | nil => intro w; simp [more]
  | cons p a ih =>
    intro w
    show (more (w.alloc p) a).heap = _
    rw [ih, World.alloc]
    simp
theorem more_rest (os : List Obj) : ∀ w : World, (more w os).tape = w.tape ∧ (more w os).os = w.os ∧ (more w os).output = w.output := by
  induction os with
  | nil => intro w; exact ⟨rfl, rfl, rfl⟩
  | cons p a ih => intro w; exact ih (w.alloc p)
/-- What a call may have done: blocks more, whatever was drawn. -/
theorem wide {w w' : World} (h : Below w.heap.size w w') : ∃ (os : List Obj) (d : Nat), w' = drawTo (more w os) d := by
  refine ⟨w'.heap.toList.drop w.heap.size, w'.drawn, ?_⟩
  have e1 : w'.heap = (more w (w'.heap.toList.drop w.heap.size)).heap := by
    rw [more_heap]
    apply Array.ext'
    have : w.heap.toList = w'.heap.toList.take w.heap.size := by
      apply List.ext_getElem?
      intro i
      rw [List.getElem?_take]
      by_cases hi : i < w.heap.size
      · rw [if_pos hi]
        have := h.block i hi
        simpa using this.symm
      · rw [if_neg hi]
        simp
        omega
    simp only [Array.toList_append]
    rw [this, List.take_append_drop]
  obtain ⟨t, o, p⟩ := more_rest (w'.heap.toList.drop w.heap.size) w
  generalize more w (w'.heap.toList.drop w.heap.size) = m at *
  obtain ⟨h', t', d', o', p'⟩ := w'
  obtain ⟨hm, tm, dm, om, pm⟩ := m
  simp only [drawTo, World.mk.injEq] at *
  exact ⟨e1, h.tape.trans t.symm, trivial, h.os.trans o.symm, h.output.trans p.symm⟩

/-- Blocks more, whatever was drawn. -/
def Grown (w w' : World) : Prop := ∃ (os : List Obj) (d : Nat), w' = drawTo (more w os) d
theorem Grown.refl (w : World) : Grown w w := ⟨[], w.drawn, rfl⟩
theorem Grown.alloc {a w : World} (h : Grown a w) (o : Obj) : Grown a (w.alloc o) := by
  obtain ⟨os, n, rfl⟩ := h
  exact ⟨os ++ [o], n, by rw [more_snoc]; rfl⟩
theorem Grown.drawTo {a w : World} (h : Grown a w) (m : Nat) : Grown a (drawTo w m) := by
  obtain ⟨os, n, rfl⟩ := h
  exact ⟨os, m, rfl⟩
theorem Grown.drewN {a w : World} (h : Grown a w) (m : Nat) : Grown a (w.drewN m) := by
  obtain ⟨os, n, rfl⟩ := h
  exact ⟨os, n + m, rfl⟩
theorem Grown.drew {a w : World} (h : Grown a w) : Grown a w.drew := h.drewN 1
theorem Grown.trans {a b c : World} (h : Grown a b) (k : Grown b c) : Grown a c := by
  obtain ⟨os, n, rfl⟩ := h
  obtain ⟨ps, m, rfl⟩ := k
  exact ⟨os ++ ps, m, by rw [more_drawTo, more_more]; rfl⟩
theorem Grown.more {a w : World} (h : Grown a w) (os : List Obj) : Grown a (more w os) := h.trans ⟨os, (Proofs.YtnpdecbgakgbgaaGreatDoor.more w os).drawn, rfl⟩
theorem Grown.below {w w' : World} (h : Grown w w') : Below w.heap.size w w' := by
  obtain ⟨os, n, rfl⟩ := h
  have := more_below os w w _ (Below.refl _ _) (Nat.le_refl _)
  exact ⟨this.os, this.tape, this.output, this.size, this.block⟩
theorem grown_of {w w' : World} (h : Below w.heap.size w w') : Grown w w' := wide h
end Go.Proofs.YtnpdecbgakgbgaaGreatDoor

namespace Go.Proofs.YtnpdecbgakgbgaaGreatDoor
open Go.RowKit Go.Shelf
attribute [local go_sem] cell?_more frozen?_more setCell_more more_lt more_more more_drew more_drewN setCell_drewN alloc_drewN

set_option maxHeartbeats 1000000 in
theorem qall_any (ao : Option Addr) (cap : Nat) (l : List Va) (w : World) (hT : Tabs w) (hv : Vs w ao l) (hl : l.length ≤ 9223372036854775807) :
    Calls Tryz.prog 68 #[.slice ao l.length cap] w fun e w' => e = .returned (.bool (l.all vr)) ∧ Below w.heap.size w w' := by
  obtain ⟨E, hE⟩ : ∃ E, E = l.all vr := ⟨_, rfl⟩
  rw [← hE]
  have HE : Hid (E = l.all vr) := hE
  obtain ⟨n, hn⟩ : ∃ n, l.length = n := ⟨_, rfl⟩
  rw [hn] at hl ⊢
  have HN : Hid (l.length = n) := hn
  clear hE hn
  go_enter Tryz.func68, Tryz.ntmps68
  go_wp2
  go_loopw [7] (fun r wr => ∃ k : Nat, r = .int .i64 (k : Int) ∧ k ≤ n ∧ Below w.heap.size w wr ∧ Hid (∀ i (h : i < l.length), i < k → vr l[i] = true)) (fun r _ => n - (intOf r).toNat)
  case atStart => exact ⟨0, rfl, Nat.zero_le _, Below.refl _ _, fun i _ h => by omega⟩
  case round =>
    obtain ⟨k, rfl, hk, hB, hA⟩ := hrel
    have sB := hB.size
    by_cases hlt : k < n
    · have hlt' : (k : Int) < (n : Int) := by omega
      have hkl : k < l.length := by rw [HN.out]; exact hlt
      obtain ⟨b, off, rfl, hc⟩ := hv (by omega)
      obtain ⟨c0, c1, c2, c3⟩ := ((hc k (by omega)).later hB)
      have hg := (hc k (by omega)).lt
      have hg' : b < wr.heap.size := by omega
      have hT' := hT.later hB
      have R : ∀ W, Grew wr W → Calls Tryz.prog 35 #[vv l[k]] W fun e w' => e = .returned (.bool (vr l[k])) ∧ Below W.heap.size W w' := fun W h => vright_any _ _ _ _ W (hT'.later h.below)
      obtain ⟨⟨vk, vn, vm, vb⟩, he⟩ : ∃ v : Va, v = l[k] := ⟨_, rfl⟩
      rw [← he] at c0 c1 c2 c3 R
      have HV : Hid (Va.mk vk vn vm vb = l[k]) := he
      clear hc hT' hT he
      cases hvr : vr ⟨vk, vn, vm, vb⟩
      · rw [hvr] at R
        go_wp2_with (go_at_call 35; refine (R _ (by repeat (first | exact Grew.refl _ | apply Grew.drew | apply Grew.drewN | apply Grew.alloc | apply Grew.more))).mono ?_; rintro e w2 ⟨rfl, hb2⟩)
        go_ret
        have hall : (l.all vr) = false := by
          rw [List.all_eq_false]
          exact ⟨l[k]'(by have := HN.out; omega), List.getElem_mem _, by rw [← HV.out, hvr]; simp⟩
        refine ⟨by rw [HE.out, hall]; rfl, ?_⟩
        exact hB.trans ((Below.mono (below_trans (Grew.below (by repeat (first | exact Grew.refl _ | apply Grew.drew | apply Grew.drewN | apply Grew.alloc | apply Grew.more))) hb2)) sB)
      · rw [hvr] at R
        go_wp2_with (go_at_call 35; refine (R _ (by repeat (first | exact Grew.refl _ | apply Grew.drew | apply Grew.drewN | apply Grew.alloc | apply Grew.more))).mono ?_; rintro e w2 ⟨rfl, hb2⟩)
        go_roundw
        case rel =>
          refine ⟨k + 1, by go_num, by omega, hB.trans ((Below.mono (below_trans (Grew.below (by repeat (first | exact Grew.refl _ | apply Grew.drew | apply Grew.drewN | apply Grew.alloc | apply Grew.more))) hb2)) sB), fun i hi hik => ?_⟩
          by_cases h : i < k
          · exact hA.out i hi h
          · have : i = k := by omega
            subst this
            rw [← HV.out, hvr]
        case measure => simp [intOf]; omega
    · have hlt' : ¬ (k : Int) < (n : Int) := by omega
      go_wp2
      go_ret
      have hall : (l.all vr) = true := by
        rw [List.all_eq_true]
        intro v hv'
        obtain ⟨i, hi, rfl⟩ := List.getElem_of_mem hv'
        exact hA.out i hi (by have := HN.out; omega)
      exact ⟨by rw [HE.out, hall]; rfl, hB⟩

/-- Is it the value Null? -/
def zq (x : Va) : Bool := eqv 0 0 0 ⟨#[]⟩ x.k x.n x.m ⟨x.b.toArray⟩

theorem cstq (k : Nat) : ((k + 1 : Nat) : Int) = (k : Int) + 1 := by omega

set_option maxHeartbeats 1000000 in
theorem qidx_any (ao : Option Addr) (cap : Nat) (l : List Va) (w : World) (hv : Vs w ao l) (hn : l.length ≤ 140737488351232) :
    Calls Tryz.prog 131 #[.slice ao l.length cap, va 0 0 0 ⟨#[]⟩] w fun e w' => (∃ i : Int, e = .returned (.int .i64 i) ∧ decide (0 ≤ i) = l.any zq) ∧ Below w.heap.size w w' := by
  obtain ⟨R, hR⟩ : ∃ R, R = l.any zq := ⟨_, rfl⟩
  rw [← hR]
  have HR : Hid (R = (l.drop 0).any zq) := hR
  clear hR
  obtain ⟨n, hnn⟩ : ∃ n, l.length = n := ⟨_, rfl⟩
  rw [hnn] at hn ⊢
  have HN : Hid (l.length = n) := hnn
  clear hnn
  go_enter Tryz.func131, Tryz.ntmps131
  go_wp2
  go_loopw [8] (fun r wr => ∃ k : Nat, r = .int .i64 (k : Int) ∧ k ≤ n ∧ Box wr w.heap.size nul ∧ Below w.heap.size w wr ∧ Hid (R = (l.drop k).any zq)) (fun r _ => n - (intOf r).toNat)
  case atStart => exact ⟨0, rfl, Nat.zero_le _, Box.new w 0 0 0 [], (Below.refl _ w).alloc (Nat.le_refl _) _, HR⟩
  case round =>
    obtain ⟨k, rfl, hk, hc, hb, hH⟩ := hrel
    have sB := hb.size
    by_cases hlt : k < n
    · have hlt' : (k : Int) < (n : Int) := by omega
      have k0 : (0 : Int) ≤ (k : Int) := by omega
      have hkl : k < l.length := by rw [HN.out]; exact hlt
      obtain ⟨b, off, rfl, hcl⟩ := hv (by omega)
      obtain ⟨c0, c1, c2, c3⟩ := ((hcl k hkl).later hb)
      have hg := (hcl k hkl).lt
      have hg' : b < wr.heap.size := by omega
      have hdr : l.drop k = l[k] :: l.drop (k + 1) := List.drop_eq_getElem_cons hkl
      obtain ⟨x, he⟩ : ∃ x : Va, x = l[k] := ⟨_, rfl⟩
      rw [← he] at c0 c1 c2 c3 hdr
      have HST : Hid (R = (zq x || (l.drop (k + 1)).any zq)) := by
        show R = _
        rw [hH.out, hdr]; rfl
      obtain ⟨xk, xn, xm, xb⟩ := x
      have eqx : ∀ W, (Op.equalIn 10000 30 (va 0 0 0 ⟨#[]⟩) (va xk xn xm ⟨xb.toArray⟩)).run Tryz.prog W = .ok (zq ⟨xk, xn, xm, xb⟩) W := fun W => eqVb 0 0 0 xk xn xm ⟨#[]⟩ ⟨xb.toArray⟩ W
      generalize zq ⟨xk, xn, xm, xb⟩ = q at eqx HST
      obtain ⟨z0, z1, z2, z3⟩ := hc.at4
      have zl := hc.lt
      have HC : Hid (Box wr w.heap.size nul) := hc
      dsimp only [nul] at z0 z1 z2 z3
      simp only [Nat.zero_add] at z1 z2 z3
      clear hdr he hcl hH HR hc
      cases q with
      | true =>
        go_wp2
        go_region
        all_goals go_wp2
        all_goals go_ret
        all_goals exact ⟨⟨(k : Int), rfl, by rw [HST.out]; simp⟩, by first | exact hb | exact hb.drew⟩
      | false =>
        have HF : Hid (R = (l.drop (k + 1)).any zq) := by show R = _; rw [HST.out, Bool.false_or]
        go_wp2
        go_region
        all_goals go_wp2
        all_goals exact ⟨⟨k + 1, by rw [cstq], by omega, HC.out, by first | exact hb | exact hb.drew, HF⟩, by simp [intOf]; omega⟩
    · have hlt' : ¬ (k : Int) < (n : Int) := by omega
      have HF : Hid (R = false) := by
        show R = false
        rw [hH.out, List.drop_eq_nil_of_le (by rw [HN.out]; omega)]; rfl
      clear hH HR hc
      go_wp2
      go_ret
      exact ⟨⟨-1, rfl, by rw [HF.out]; rfl⟩, hb⟩

theorem qcont_any (ao : Option Addr) (cap : Nat) (l : List Va) (w : World) (hv : Vs w ao l) (hn : l.length ≤ 140737488351232) :
    Calls Tryz.prog 71 #[.slice ao l.length cap, va 0 0 0 ⟨#[]⟩] w fun e w' => e = .returned (.bool (l.any zq)) ∧ Below w.heap.size w w' := by
  have I : ∀ W, Below w.heap.size w W → _ := fun W h => qidx_any ao cap l W (hv.later h) hn
  have A0 := (Below.refl w.heap.size w).alloc (Nat.le_refl _) (.cells #[.int .i64 0, .int .i64 0, .int .i64 0, .string ⟨#[]⟩] 30)
  clear hv
  generalize l.any zq = q at *
  generalize l.length = n at *
  go_enter Tryz.func71, Tryz.ntmps71
  go_wp2_with fail
  refine (I _ (by first | exact A0 | exact Below.refl _ _)).mono ?_
  rintro e w1 ⟨⟨i, rfl, hi⟩, b1⟩
  have HI : Hid (decide (0 ≤ i) = q) := hi
  clear hi I
  go_wp2
  go_ret
  exact ⟨by rw [← HI.out]; rfl, by first | exact A0.trans (b1.mono A0.size) | exact b1⟩
end Go.Proofs.YtnpdecbgakgbgaaGreatDoor

namespace Go.Proofs.YtnpdecbgakgbgaaGreatDoor
open Go.RowKit Go.Shelf
attribute [local go_sem] cell?_more frozen?_more setCell_more more_lt more_more more_drew more_drewN setCell_drewN alloc_drewN

/-- The box of the answer. -/
theorem res_box (w : World) : ∃ w0, w0 = w.alloc (.cells #[.int .i64 0, .int .i64 0, .int .i64 0, .string ⟨#[]⟩] 30) ∧ Box w0 w.heap.size nul ∧ Below w.heap.size w w0 :=
  ⟨_, rfl, Box.new w 0 0 0 [], (Below.refl _ w).alloc (Nat.le_refl _) _⟩

set_option maxRecDepth 20000 in
set_option maxHeartbeats 2000000 in
theorem called_length (bl off cap : Nat) (an am : Int) (ab : List UInt8) (w : World) (hg : bl < w.heap.size) (c0 : w.cell? ⟨bl, off, none⟩ = some (.int .i64 3)) (c1 : w.cell? ⟨bl, off + 1, none⟩ = some (.int .i64 an)) (c2 : w.cell? ⟨bl, off + 2, none⟩ = some (.int .i64 am)) (c3 : w.cell? ⟨bl, off + 3, none⟩ = some (.string ⟨ab.toArray⟩)) 
    :
    Calls Tryz.prog 72 #[.string ⟨#[108, 101, 110, 103, 116, 104]⟩, .slice (some ⟨bl, off, none⟩) 1 cap] w fun e w' => e = .returned (rs (wholeR (ab.length : Int) 0)) ∧ Below w.heap.size w w' := by
  obtain ⟨w0, hw0, bxr, Bw⟩ := res_box w
  have z0 : IntKind.i64.wrap 0 = 0 := by rw [IntKind.wrap_i64]; rfl
  go_enter Tryz.func72, Tryz.ntmps72
  go_wp2_with fail
  rw [← hw0]
  clear hw0
  rw [← Bw.cell (p := ⟨bl, off, none⟩) hg] at c0
  rw [← Bw.cell (p := ⟨bl, off + 1, none⟩) hg] at c1
  rw [← Bw.cell (p := ⟨bl, off + 2, none⟩) hg] at c2
  rw [← Bw.cell (p := ⟨bl, off + 3, none⟩) hg] at c3
  replace hg : bl < w0.heap.size := Nat.lt_of_lt_of_le hg Bw.size
  go_cut [6, 7] from 8 (fun s0 s1 wx => ∃ p q : Nat, s0 = .pointer (some ⟨p, 0, none⟩) ∧ s1 = .pointer (some ⟨q, 0, none⟩) ∧ (wx.cell? ⟨p, 0, none⟩ = some (.int .i64 3) ∧ wx.cell? ⟨p, 1, none⟩ = some (.int .i64 an) ∧ wx.cell? ⟨p, 2, none⟩ = some (.int .i64 am) ∧ wx.cell? ⟨p, 3, none⟩ = some (.string ⟨ab.toArray⟩)) ∧ (wx.cell? ⟨q, 0, none⟩ = some (.int .i64 3) ∧ wx.cell? ⟨q, 1, none⟩ = some (.int .i64 an) ∧ wx.cell? ⟨q, 2, none⟩ = some (.int .i64 am) ∧ wx.cell? ⟨q, 3, none⟩ = some (.string ⟨ab.toArray⟩)) ∧ w0.heap.size ≤ p ∧ w0.heap.size ≤ q ∧ Grew w0 wx)
  case first =>
    refine wp_region_held_drew (S := (fun W => W.cell? ⟨bl, off, none⟩ = some (.int .i64 3) ∧ W.cell? ⟨bl, off + 1, none⟩ = some (.int .i64 an) ∧ W.cell? ⟨bl, off + 2, none⟩ = some (.int .i64 am) ∧ W.cell? ⟨bl, off + 3, none⟩ = some (.string ⟨ab.toArray⟩))) (by kernel_rfl) ?_ (fun hHeld => ?_)
    · ((try dsimp only); (simp (maxDischargeDepth := 12) [go_sem, c0, c1, c2, c3]))
    refine wpAnyH_take (i := 0) (oi := { dst := some 8, op := Op.move (Operand.tmp 1), type := 45, pos := "function.go:57", after := #[], guard := none }) (v := ?_) rfl (by kernel_rfl) (by kernel_rfl) (by kernel_rfl) (fun _ _ _ h => h) (Or.inl ⟨by rfl, ?_⟩) (by assumption) ?_
    rotate_left
    · (intro W hSw; (try dsimp only at hSw); first | (go_simp; done) | (go_simp; with_reducible rfl))
    try simp only [Act.put, List.setIfInBounds_toArray, List.set_cons_zero, List.set_cons_succ]
    refine wpAnyH_take (i := 1) (oi := { dst := some 9, op := Op.indexAddr 45 (Operand.tmp 8) (Operand.const (Value.int IntKind.i64 0)), type := 0, pos := "function.go:57", after := #[{ on := 0, ground := Ground.data }], guard := none }) (v := ?_) rfl (by kernel_rfl) (by kernel_rfl) (by kernel_rfl) (fun _ _ _ h => h) (Or.inl ⟨by rfl, ?_⟩) (by assumption) ?_
    rotate_left
    · (intro W hSw; (try dsimp only at hSw); first | (go_simp; done) | (go_simp; with_reducible rfl))
    try simp only [Act.put, List.setIfInBounds_toArray, List.set_cons_zero, List.set_cons_succ]
    refine wpAnyH_take (i := 2) (oi := { dst := some 10, op := Op.load 30 (Operand.tmp 9), type := 30, pos := "function.go:57", after := #[{ on := 1, ground := Ground.data }], guard := none }) (v := ?_) rfl (by kernel_rfl) (by kernel_rfl) (by kernel_rfl) (fun _ _ _ h => h) (Or.inl ⟨by rfl, ?_⟩) (by assumption) ?_
    rotate_left
    · (intro W hSw; (try dsimp only at hSw); first | (go_simp; done) | (go_simp; with_reducible rfl))
    try simp only [Act.put, List.setIfInBounds_toArray, List.set_cons_zero, List.set_cons_succ]
    refine wpAnyH_take (i := 3) (oi := { dst := some 11, op := Op.move (Operand.tmp 1), type := 45, pos := "function.go:57", after := #[{ on := 11, ground := Ground.gcOnly Departure.lateStores }], guard := none }) (v := ?_) rfl (by kernel_rfl) (by kernel_rfl) (by kernel_rfl) (fun _ _ _ h => h) (Or.inl ⟨by rfl, ?_⟩) (by assumption) ?_
    rotate_left
    · (intro W hSw; (try dsimp only at hSw); first | (go_simp; done) | (go_simp; with_reducible rfl))
    try simp only [Act.put, List.setIfInBounds_toArray, List.set_cons_zero, List.set_cons_succ]
    refine wpAnyH_take (i := 4) (oi := { dst := some 12, op := Op.move (Operand.tmp 1), type := 45, pos := "function.go:57", after := #[], guard := none }) (v := ?_) rfl (by kernel_rfl) (by kernel_rfl) (by kernel_rfl) (fun _ _ _ h => h) (Or.inl ⟨by rfl, ?_⟩) (by assumption) ?_
    rotate_left
    · (intro W hSw; (try dsimp only at hSw); first | (go_simp; done) | (go_simp; with_reducible rfl))
    try simp only [Act.put, List.setIfInBounds_toArray, List.set_cons_zero, List.set_cons_succ]
    refine wpAnyH_take (i := 5) (oi := { dst := some 13, op := Op.call { callee := Callee.builtin Builtin.len, args := #[Operand.tmp 12], argTypes := #[45] }, type := 3, pos := "function.go:57", after := #[{ on := 4, ground := Ground.data }], guard := none }) (v := ?_) rfl (by kernel_rfl) (by kernel_rfl) (by kernel_rfl) (fun _ _ _ h => h) (Or.inl ⟨by rfl, ?_⟩) (by assumption) ?_
    rotate_left
    · (intro W hSw; (try dsimp only at hSw); first | (go_simp; done) | (go_simp; with_reducible rfl))
    try simp only [Act.put, List.setIfInBounds_toArray, List.set_cons_zero, List.set_cons_succ]
    refine wpAnyH_take (i := 6) (oi := { dst := some 14, op := Op.binOp BinOp.sub 3 (Operand.tmp 13) (Operand.const (Value.int IntKind.i64 1)) 3, type := 3, pos := "function.go:57", after := #[{ on := 5, ground := Ground.data }, { on := 11, ground := Ground.gcOnly Departure.lateStores }], guard := none }) (v := ?_) rfl (by kernel_rfl) (by kernel_rfl) (by kernel_rfl) (fun _ _ _ h => h) (Or.inl ⟨by rfl, ?_⟩) (by assumption) ?_
    rotate_left
    · (intro W hSw; (try dsimp only at hSw); first | (go_simp; done) | (go_simp; with_reducible rfl))
    try simp only [Act.put, List.setIfInBounds_toArray, List.set_cons_zero, List.set_cons_succ]
    refine wpAnyH_take (i := 7) (oi := { dst := some 15, op := Op.indexAddr 45 (Operand.tmp 11) (Operand.tmp 14), type := 0, pos := "function.go:57", after := #[{ on := 3, ground := Ground.data }, { on := 6, ground := Ground.data }, { on := 11, ground := Ground.gcOnly Departure.lateStores }], guard := none }) (v := ?_) rfl (by kernel_rfl) (by kernel_rfl) (by kernel_rfl) (fun _ _ _ h => h) (Or.inl ⟨by rfl, ?_⟩) (by assumption) ?_
    rotate_left
    · (intro W hSw; (try dsimp only at hSw); first | (go_simp; done) | (go_simp; with_reducible rfl))
    try simp only [Act.put, List.setIfInBounds_toArray, List.set_cons_zero, List.set_cons_succ]
    refine wpAnyH_take (i := 8) (oi := { dst := some 16, op := Op.load 30 (Operand.tmp 15), type := 30, pos := "function.go:57", after := #[{ on := 7, ground := Ground.data }, { on := 11, ground := Ground.gcOnly Departure.lateStores }], guard := none }) (v := ?_) rfl (by kernel_rfl) (by kernel_rfl) (by kernel_rfl) (fun _ _ _ h => h) (Or.inl ⟨by rfl, ?_⟩) (by assumption) ?_
    rotate_left
    · (intro W hSw; (try dsimp only at hSw); first | (go_simp; done) | (go_simp; with_reducible rfl))
    try simp only [Act.put, List.setIfInBounds_toArray, List.set_cons_zero, List.set_cons_succ]
    refine wpAnyH_ready (rs := [9, 10]) (by kernel_rfl) (by simp) ?_
    refine AllReadyH.cons (o := { dst := some 6, op := Op.alloc 30, type := 0, pos := "function.go:57", after := #[], guard := none }) rfl (fun K hK => ?_) (AllReadyH.cons (o := { dst := some 7, op := Op.alloc 30, type := 0, pos := "function.go:57", after := #[], guard := none }) rfl (fun K hK => ?_) AllReadyH.nil)
    ·
      go_simp
      refine hK.out _ _ ?_ (fun hHeld => ?_)
      · ((try dsimp only); (simp (maxDischargeDepth := 12) [go_sem, c0, c1, c2, c3, hg]))
      clear hK K
      try simp only [Act.put, List.setIfInBounds_toArray, List.set_cons_zero, List.set_cons_succ]
      refine wpAnyH_ready (rs := [10]) (by kernel_rfl) (by simp) ?_
      refine AllReadyH.cons (o := { dst := some 7, op := Op.alloc 30, type := 0, pos := "function.go:57", after := #[], guard := none }) rfl (fun K hK => ?_) AllReadyH.nil
      go_simp
      refine hK.out _ _ ?_ (fun hHeld => ?_)
      · ((try dsimp only); (simp (maxDischargeDepth := 12) [go_sem, c0, c1, c2, c3, hg]))
      clear hK K
      try simp only [Act.put, List.setIfInBounds_toArray, List.set_cons_zero, List.set_cons_succ]
      refine wpAnyH_ready (rs := [11]) (by kernel_rfl) (by simp) ?_
      refine AllReadyH.cons (o := { dst := none, op := Op.store 30 (Operand.tmp 6) (Operand.tmp 10), type := 0, pos := "function.go:57", after := #[{ on := 9, ground := Ground.data }, { on := 2, ground := Ground.data }, { on := 0, ground := Ground.phase }, { on := 1, ground := Ground.phase }, { on := 2, ground := Ground.phase }, { on := 3, ground := Ground.textOnly Departure.lateStores }, { on := 4, ground := Ground.textOnly Departure.lateStores }, { on := 5, ground := Ground.textOnly Departure.lateStoresUnsure }, { on := 6, ground := Ground.textOnly Departure.lateStores }, { on := 7, ground := Ground.textOnly Departure.lateStores }, { on := 8, ground := Ground.textOnly Departure.lateStores }, { on := 9, ground := Ground.phase }, { on := 10, ground := Ground.phase }], guard := none }) rfl (fun K hK => ?_) AllReadyH.nil
      go_simp
      refine hK.out _ _ ?_ (fun hHeld => ?_)
      · ((try dsimp only); (simp (maxDischargeDepth := 12) [go_sem, c0, c1, c2, c3, hg]))
      clear hK K
      try simp only [Act.put, List.setIfInBounds_toArray, List.set_cons_zero, List.set_cons_succ]
      refine wpAnyH_ready (rs := [12]) (by kernel_rfl) (by simp) ?_
      refine AllReadyH.cons (o := { dst := none, op := Op.store 30 (Operand.tmp 7) (Operand.tmp 16), type := 0, pos := "function.go:57", after := #[{ on := 10, ground := Ground.data }, { on := 8, ground := Ground.data }, { on := 11, ground := Ground.chain }, { on := 0, ground := Ground.phase }, { on := 1, ground := Ground.phase }, { on := 2, ground := Ground.phase }, { on := 3, ground := Ground.phase }, { on := 4, ground := Ground.phase }, { on := 5, ground := Ground.phase }, { on := 6, ground := Ground.phase }, { on := 7, ground := Ground.phase }, { on := 8, ground := Ground.phase }, { on := 9, ground := Ground.phase }, { on := 10, ground := Ground.phase }, { on := 11, ground := Ground.phase }], guard := none }) rfl (fun K hK => ?_) AllReadyH.nil
      go_simp
      refine hK.out _ _ ?_ (fun hHeld => ?_)
      · ((try dsimp only); (simp (maxDischargeDepth := 12) [go_sem, c0, c1, c2, c3, hg]))
      clear hK K
      try simp only [Act.put, List.setIfInBounds_toArray, List.set_cons_zero, List.set_cons_succ]
      refine wpAnyH_done (by kernel_rfl) ?_ _
      go_wp2_with fail
      go_meet
      exact ⟨_, _, rfl, rfl, ⟨by simp (maxDischargeDepth := 12) [go_sem], by simp (maxDischargeDepth := 12) [go_sem], by simp (maxDischargeDepth := 12) [go_sem], by simp (maxDischargeDepth := 12) [go_sem]⟩, ⟨by simp (maxDischargeDepth := 12) [go_sem], by simp (maxDischargeDepth := 12) [go_sem], by simp (maxDischargeDepth := 12) [go_sem], by simp (maxDischargeDepth := 12) [go_sem]⟩, by simp, by simp, (by repeat (first | assumption | exact Grew.refl _ | apply Grew.drew | apply Grew.drewN | apply Grew.alloc | apply Grew.more))⟩
    ·
      go_simp
      refine hK.out _ _ ?_ (fun hHeld => ?_)
      · ((try dsimp only); (simp (maxDischargeDepth := 12) [go_sem, c0, c1, c2, c3, hg]))
      clear hK K
      try simp only [Act.put, List.setIfInBounds_toArray, List.set_cons_zero, List.set_cons_succ]
      refine wpAnyH_ready (rs := [9]) (by kernel_rfl) (by simp) ?_
      refine AllReadyH.cons (o := { dst := some 6, op := Op.alloc 30, type := 0, pos := "function.go:57", after := #[], guard := none }) rfl (fun K hK => ?_) AllReadyH.nil
      go_simp
      refine hK.out _ _ ?_ (fun hHeld => ?_)
      · ((try dsimp only); (simp (maxDischargeDepth := 12) [go_sem, c0, c1, c2, c3, hg]))
      clear hK K
      try simp only [Act.put, List.setIfInBounds_toArray, List.set_cons_zero, List.set_cons_succ]
      refine wpAnyH_ready (rs := [11]) (by kernel_rfl) (by simp) ?_
      refine AllReadyH.cons (o := { dst := none, op := Op.store 30 (Operand.tmp 6) (Operand.tmp 10), type := 0, pos := "function.go:57", after := #[{ on := 9, ground := Ground.data }, { on := 2, ground := Ground.data }, { on := 0, ground := Ground.phase }, { on := 1, ground := Ground.phase }, { on := 2, ground := Ground.phase }, { on := 3, ground := Ground.textOnly Departure.lateStores }, { on := 4, ground := Ground.textOnly Departure.lateStores }, { on := 5, ground := Ground.textOnly Departure.lateStoresUnsure }, { on := 6, ground := Ground.textOnly Departure.lateStores }, { on := 7, ground := Ground.textOnly Departure.lateStores }, { on := 8, ground := Ground.textOnly Departure.lateStores }, { on := 9, ground := Ground.phase }, { on := 10, ground := Ground.phase }], guard := none }) rfl (fun K hK => ?_) AllReadyH.nil
      go_simp
      refine hK.out _ _ ?_ (fun hHeld => ?_)
      · ((try dsimp only); (simp (maxDischargeDepth := 12) [go_sem, c0, c1, c2, c3, hg]))
      clear hK K
      try simp only [Act.put, List.setIfInBounds_toArray, List.set_cons_zero, List.set_cons_succ]
      refine wpAnyH_ready (rs := [12]) (by kernel_rfl) (by simp) ?_
      refine AllReadyH.cons (o := { dst := none, op := Op.store 30 (Operand.tmp 7) (Operand.tmp 16), type := 0, pos := "function.go:57", after := #[{ on := 10, ground := Ground.data }, { on := 8, ground := Ground.data }, { on := 11, ground := Ground.chain }, { on := 0, ground := Ground.phase }, { on := 1, ground := Ground.phase }, { on := 2, ground := Ground.phase }, { on := 3, ground := Ground.phase }, { on := 4, ground := Ground.phase }, { on := 5, ground := Ground.phase }, { on := 6, ground := Ground.phase }, { on := 7, ground := Ground.phase }, { on := 8, ground := Ground.phase }, { on := 9, ground := Ground.phase }, { on := 10, ground := Ground.phase }, { on := 11, ground := Ground.phase }], guard := none }) rfl (fun K hK => ?_) AllReadyH.nil
      go_simp
      refine hK.out _ _ ?_ (fun hHeld => ?_)
      · ((try dsimp only); (simp (maxDischargeDepth := 12) [go_sem, c0, c1, c2, c3, hg]))
      clear hK K
      try simp only [Act.put, List.setIfInBounds_toArray, List.set_cons_zero, List.set_cons_succ]
      refine wpAnyH_done (by kernel_rfl) ?_ _
      go_wp2_with fail
      go_meet
      exact ⟨_, _, rfl, rfl, ⟨by simp (maxDischargeDepth := 12) [go_sem], by simp (maxDischargeDepth := 12) [go_sem], by simp (maxDischargeDepth := 12) [go_sem], by simp (maxDischargeDepth := 12) [go_sem]⟩, ⟨by simp (maxDischargeDepth := 12) [go_sem], by simp (maxDischargeDepth := 12) [go_sem], by simp (maxDischargeDepth := 12) [go_sem], by simp (maxDischargeDepth := 12) [go_sem]⟩, by simp, by simp, (by repeat (first | assumption | exact Grew.refl _ | apply Grew.drew | apply Grew.drewN | apply Grew.alloc | apply Grew.more))⟩
  rename World => w1
  obtain ⟨p, q, rfl, rfl, ⟨p0, p1, p2, p3⟩, ⟨q0, q1, q2, q3⟩, gp, gq, g⟩ := hcut
  have lp := World.block_lt_of_cell? w1 _ p0
  have lq := World.block_lt_of_cell? w1 _ q0
  have B1 := g.below
  have br := bxr.later B1
  obtain ⟨r0, r1, r2, r3⟩ := br.at4
  dsimp only [nul] at r0 r1 r2 r3
  simp only [Nat.zero_add] at r1 r2 r3
  have f0 := br.free 0
  have f1 := br.free 1
  have f2 := br.free 2
  have f3 := br.free 3
  have lt1 := br.lt
  have Be := below_trans Bw B1
  have lr := bxr.lt
  have np : ¬ w.heap.size = p := by omega
  have nq : ¬ w.heap.size = q := by omega
  clear gp gq lr
  clear br bxr g c0 c1 c2 c3 hg
  go_wp2_with (first
    | (go_at_call 93; refine (qwhole_any _ _ _).mono ?_; rintro e w2 ⟨rfl, os2, n2, rfl⟩))
  refine bodyPost_ret_by (v := rs (wholeR (ab.length : Int) 0)) ?_ rfl ⟨rfl, ?_⟩
  · simp [results, Tryz.results72, go_sem, r0, r1, r2, r3, lt1]
  · refine below_trans (Be.setCell (p := ⟨w.heap.size, 0, none⟩) (Nat.le_refl _) (.int .i64 (wholeR (ab.length : Int) 0).1.k) |>.setCell (p := ⟨w.heap.size, 1, none⟩) (Nat.le_refl _) (.int .i64 (wholeR (ab.length : Int) 0).1.n) |>.setCell (p := ⟨w.heap.size, 2, none⟩) (Nat.le_refl _) (.int .i64 (wholeR (ab.length : Int) 0).1.m) |>.setCell (p := ⟨w.heap.size, 3, none⟩) (Nat.le_refl _) (.string ⟨(wholeR (ab.length : Int) 0).1.b.toArray⟩)) (Grew.below ?_)
    repeat (first | assumption | exact Grew.refl _ | apply Grew.drew | apply Grew.drewN | apply Grew.alloc | apply Grew.more)
end Go.Proofs.YtnpdecbgakgbgaaGreatDoor

namespace Go.Proofs.YtnpdecbgakgbgaaGreatDoor
open Go.RowKit Go.Shelf
attribute [local go_sem] cell?_more frozen?_more setCell_more more_lt more_more more_drew more_drewN setCell_drewN alloc_drewN

set_option maxHeartbeats 2000000 in
theorem qneg_null (an am : Int) (ab : ByteArray) (w : World)  :
    Calls Tryz.prog 38 #[va 0 an am ab] w fun e w' => e = .returned (.tuple #[va 0 0 0 ⟨#[]⟩, .int .i64 0]) ∧ Grew w w' := by
  go_enter Tryz.func38, Tryz.ntmps38
  go_wp2_with fail
  refine wp_scope_on 5 ?_
  go_wp2
  refine onward_ret (by intro l h; cases h) ?_
  refine bodyPost_ret_by (v := .tuple #[va 0 0 0 ⟨#[]⟩, .int .i64 0]) ?_ rfl ⟨rfl, (by repeat (first | assumption | exact Grew.refl _ | apply Grew.drew | apply Grew.drewN | apply Grew.alloc | apply Grew.more))⟩
  simp [results, Tryz.results38, go_sem]

set_option maxHeartbeats 2000000 in
theorem qneg_int (an am : Int) (ab : ByteArray) (w : World) (z x : Int) (D : ∀ W, Grew w W → Calls Tryz.prog 94 #[.int .i64 0, .int .i64 an] W fun e w' => e = .returned (.tuple #[.int .i64 z, .int .i64 x]) ∧ Grew W w') :
    Calls Tryz.prog 38 #[va 1 an am ab] w fun e w' => e = .returned (rs (wholeR z x)) ∧ Grew w w' := by
  have H := fun n x W => qwhole_any n x W
  go_enter Tryz.func38, Tryz.ntmps38
  go_wp2_with fail
  refine wp_scope_on 5 ?_
  go_wp2_with fail
  refine goto_on (n := 4) rfl ?_
  go_wp2_with (first
    | (go_at_call 94; refine (D _ (by repeat (first | assumption | exact Grew.refl _ | apply Grew.drew | apply Grew.drewN | apply Grew.alloc | apply Grew.more))).mono ?_; rintro e w1 ⟨rfl, os1, n1, rfl⟩)
    | (go_at_call 93; refine (H _ _ _).mono ?_; rintro e w1 ⟨rfl, os2, n2, rfl⟩))
  refine onward_ret (by intro l h; cases h) ?_
  refine bodyPost_ret_by (v := rs (wholeR z x)) ?_ rfl ⟨rfl, (by repeat (first | assumption | exact Grew.refl _ | apply Grew.drew | apply Grew.drewN | apply Grew.alloc | apply Grew.more))⟩
  simp [results, Tryz.results38, go_sem]

set_option maxHeartbeats 2000000 in
theorem qneg_dec (an am : Int) (ab : ByteArray) (w : World) (z s x : Int) (D : ∀ W, Grew w W → Calls Tryz.prog 96 #[dv an am] W fun e w' => e = .returned (.tuple #[dv z s, .int .i64 x]) ∧ Grew W w') :
    Calls Tryz.prog 38 #[va 2 an am ab] w fun e w' => e = .returned (rs (exactR z s x)) ∧ Grew w w' := by
  have H := fun n s x W => qexact_any n s x W
  have U := fun k n m b W => qunits_any k n m b W
  go_enter Tryz.func38, Tryz.ntmps38
  go_wp2_with fail
  refine wp_scope_on 5 ?_
  go_wp2_with fail
  refine goto_on (n := 4) rfl ?_
  go_wp2_with fail
  refine goto_on (n := 3) rfl ?_
  go_wp2_with (first
    | (go_at_call 54; refine (U _ _ _ _ _).mono ?_; rintro e w1 ⟨rfl, os0, n0, rfl⟩)
    | (go_at_call 96; refine (D _ (by repeat (first | assumption | exact Grew.refl _ | apply Grew.drew | apply Grew.drewN | apply Grew.alloc | apply Grew.more))).mono ?_; rintro e w1 ⟨rfl, os1, n1, rfl⟩)
    | (go_at_call 95; refine (H _ _ _ _).mono ?_; rintro e w1 ⟨rfl, os2, n2, rfl⟩))
  refine onward_ret (by intro l h; cases h) ?_
  refine bodyPost_ret_by (v := rs (exactR z s x)) ?_ rfl ⟨rfl, (by repeat (first | assumption | exact Grew.refl _ | apply Grew.drew | apply Grew.drewN | apply Grew.alloc | apply Grew.more))⟩
  simp [results, Tryz.results38, go_sem]

set_option maxHeartbeats 2000000 in
theorem qneg_pt (an am : Int) (ab : ByteArray) (w : World) (x y : Int) (D : ∀ W, Calls Tryz.prog 98 #[dv an am, .int .i64 2] W fun e w' => e = .returned (dv x y) ∧ Grew W w') :
    Calls Tryz.prog 38 #[va 5 an am ab] w fun e w' => e = .returned (rs (placedR x y 0)) ∧ Grew w w' := by
  have H := fun n s x W => qplaced_any n s x W
  have U := fun k n m b W => qpoint_any k n m b W
  go_enter Tryz.func38, Tryz.ntmps38
  go_wp2_with fail
  refine wp_scope_on 5 ?_
  go_wp2_with fail
  refine goto_on (n := 4) rfl ?_
  go_wp2_with fail
  refine goto_on (n := 3) rfl ?_
  go_wp2_with fail
  refine goto_on (n := 2) rfl ?_
  go_wp2_with (first
    | (go_at_call 99; refine (U _ _ _ _ _).mono ?_; rintro e w1 ⟨rfl, os0, n0, rfl⟩)
    | (go_at_call 98; refine (D _).mono ?_; rintro e w1 ⟨rfl, os1, n1, rfl⟩)
    | (go_at_call 97; refine (H _ _ _ _).mono ?_; rintro e w1 ⟨rfl, os2, n2, rfl⟩))
  refine onward_ret (by intro l h; cases h) ?_
  refine bodyPost_ret_by (v := rs (placedR x y 0)) ?_ rfl ⟨rfl, (by repeat (first | assumption | exact Grew.refl _ | apply Grew.drew | apply Grew.drewN | apply Grew.alloc | apply Grew.more))⟩
  simp [results, Tryz.results38, go_sem]

set_option maxHeartbeats 2000000 in
theorem qneg_other (ak : Int) (an am : Int) (ab : ByteArray) (w : World) (e0 : (ak != 0) = true) (e1 : (ak != 1) = true) (e2 : (ak != 2) = true) (e5 : (ak != 5) = true) :
    Calls Tryz.prog 38 #[va ak an am ab] w fun e w' => e = .returned (.tuple #[va 0 0 0 ⟨#[]⟩, .int .i64 31]) ∧ Grew w w' := by
  go_enter Tryz.func38, Tryz.ntmps38
  go_wp2_with fail
  refine wp_scope_on 5 ?_
  go_wp2_with fail
  refine goto_on (n := 4) rfl ?_
  go_wp2_with fail
  refine goto_on (n := 3) rfl ?_
  go_wp2_with fail
  refine goto_on (n := 2) rfl ?_
  go_wp2_with fail
  refine goto_on (n := 1) rfl ?_
  go_wp2
  refine onward_ret (by intro l h; cases h) ?_
  refine bodyPost_ret_by (v := .tuple #[va 0 0 0 ⟨#[]⟩, .int .i64 31]) ?_ rfl ⟨rfl, (by repeat (first | assumption | exact Grew.refl _ | apply Grew.drew | apply Grew.drewN | apply Grew.alloc | apply Grew.more))⟩
  simp [results, Tryz.results38, go_sem]

theorem qneg_any (a : Va) (w : World) (hP : Pw w) (hr : vr a = true) (va' : vin a) : Calls Tryz.prog 38 #[vv a] w fun e w' => e = .returned (rs (negR a)) ∧ Grew w w' := by
  obtain ⟨k, n, m, b⟩ := a
  have hv := (vr_iff _).1 hr
  simp only [vok] at hv
  obtain ⟨⟨a0, a1⟩, -⟩ := va'
  simp only at a0 a1
  unfold negR
  by_cases h0 : k = 0
  · subst h0
    exact qneg_null n m _ w
  by_cases h1 : k = 1
  · subst h1
    exact qneg_int n m _ w _ _ (fun W h => qdiff_any 0 n W (hP.later h) (by decide) (by decide) a0 a1)
  by_cases h2 : k = 2
  · subst h2
    have hm : 0 ≤ m ∧ m ≤ 6 := by omega
    have hs : rightS m = true := (rightS_iff m).2 hm
    have := qneg_dec n m ⟨b.toArray⟩ w _ _ _ (fun W h => neg_any n m W (hP.later h) a0 a1)
    simp only [negU, negS, negE, hs, if_true] at this
    exact this
  by_cases h5 : k = 5
  · subst h5
    have hp : Ga.ok2 n m = true := (Ga.ok2_iff n m).2 (by omega)
    exact qneg_pt n m _ w _ _ (fun W => Ga.turn_good n m 2 W hp)
  simp only [h0, h1, h2, h5, if_false]
  exact qneg_other k n m _ w (by simpa using h0) (by simpa using h1) (by simpa using h2) (by simpa using h5)
end Go.Proofs.YtnpdecbgakgbgaaGreatDoor

namespace Go.Proofs.YtnpdecbgakgbgaaGreatDoor
open Go.RowKit Go.Shelf
attribute [local go_sem] cell?_more frozen?_more setCell_more more_lt more_more more_drew more_drewN setCell_drewN alloc_drewN

theorem one_boxes (w : World) (a : Va) : ∃ w0, w0 = (w.alloc (.cells #[.int .i64 a.k, .int .i64 a.n, .int .i64 a.m, .string ⟨a.b.toArray⟩] 30)).alloc (.cells #[.int .i64 0, .int .i64 0, .int .i64 0, .string ⟨#[]⟩] 30) ∧
    Box w0 w.heap.size a ∧ Box w0 (w.heap.size + 1) nul ∧ Below w.heap.size w w0 := by
  obtain ⟨h1, h2, h3⟩ := two_boxes w a nul
  exact ⟨_, rfl, h1, h2, h3⟩

set_option maxHeartbeats 2000000 in
theorem qun_low (op : Int) (ak : Int) (an am : Int) (ab : List UInt8) (w : World) (o1 : op < 3)  :
    Calls Tryz.prog 15 #[.int .i64 op, va ak an am ⟨ab.toArray⟩] w fun e w' => e = .returned (.tuple #[va 0 0 0 ⟨#[]⟩, .int .i64 1]) ∧ Below w.heap.size w w' := by
  obtain ⟨w0, hw0, bxa, bxr, Bw⟩ := one_boxes w ⟨ak, an, am, ab⟩
  dsimp only at hw0
  have B0 : Below w0.heap.size w0 w0 := Below.refl _ _
  go_enter Tryz.func15, Tryz.ntmps15
  go_upto_region 1 with fail
  rw [← hw0]
  clear hw0
  obtain ⟨a0, a1, a2, a3⟩ := bxa.at4
  dsimp only at a0 a1 a2 a3
  have br := bxr.later B0
  obtain ⟨r0, r1, r2, r3⟩ := br.at4
  dsimp only [nul] at r0 r1 r2 r3
  simp only [Nat.zero_add] at r1 r2 r3
  have f0 := br.free 0
  have f1 := br.free 1
  have f2 := br.free 2
  have f3 := br.free 3
  have lt1 := br.lt
  have Be := below_trans Bw B0
  go_wp2
  refine bodyPost_ret_by (v := .tuple #[va 0 0 0 ⟨#[]⟩, .int .i64 1]) ?_ rfl ⟨rfl, ?_⟩
  · simp [results, Tryz.results15, go_sem, r0, r1, r2, r3]
  · refine below_trans (Be.setCell (p := ⟨w.heap.size + 1, 0, none⟩) (by dsimp only; omega) (.int .i64 0) |>.setCell (p := ⟨w.heap.size + 1, 1, none⟩) (by dsimp only; omega) (.int .i64 0) |>.setCell (p := ⟨w.heap.size + 1, 2, none⟩) (by dsimp only; omega) (.int .i64 0) |>.setCell (p := ⟨w.heap.size + 1, 3, none⟩) (by dsimp only; omega) (.string ⟨#[]⟩)) (Grew.below ?_)
    repeat (first | assumption | exact Grew.refl _ | apply Grew.drew | apply Grew.drewN | apply Grew.alloc | apply Grew.more)

set_option maxHeartbeats 2000000 in
theorem qun_high (op : Int) (ak : Int) (an am : Int) (ab : List UInt8) (w : World) (o1 : ¬ op < 3) (o2 : op > 5)  :
    Calls Tryz.prog 15 #[.int .i64 op, va ak an am ⟨ab.toArray⟩] w fun e w' => e = .returned (.tuple #[va 0 0 0 ⟨#[]⟩, .int .i64 1]) ∧ Below w.heap.size w w' := by
  obtain ⟨w0, hw0, bxa, bxr, Bw⟩ := one_boxes w ⟨ak, an, am, ab⟩
  dsimp only at hw0
  have B0 : Below w0.heap.size w0 w0 := Below.refl _ _
  go_enter Tryz.func15, Tryz.ntmps15
  go_upto_region 1 with fail
  rw [← hw0]
  clear hw0
  obtain ⟨a0, a1, a2, a3⟩ := bxa.at4
  dsimp only at a0 a1 a2 a3
  have br := bxr.later B0
  obtain ⟨r0, r1, r2, r3⟩ := br.at4
  dsimp only [nul] at r0 r1 r2 r3
  simp only [Nat.zero_add] at r1 r2 r3
  have f0 := br.free 0
  have f1 := br.free 1
  have f2 := br.free 2
  have f3 := br.free 3
  have lt1 := br.lt
  have Be := below_trans Bw B0
  go_wp2
  refine bodyPost_ret_by (v := .tuple #[va 0 0 0 ⟨#[]⟩, .int .i64 1]) ?_ rfl ⟨rfl, ?_⟩
  · simp [results, Tryz.results15, go_sem, r0, r1, r2, r3]
  · refine below_trans (Be.setCell (p := ⟨w.heap.size + 1, 0, none⟩) (by dsimp only; omega) (.int .i64 0) |>.setCell (p := ⟨w.heap.size + 1, 1, none⟩) (by dsimp only; omega) (.int .i64 0) |>.setCell (p := ⟨w.heap.size + 1, 2, none⟩) (by dsimp only; omega) (.int .i64 0) |>.setCell (p := ⟨w.heap.size + 1, 3, none⟩) (by dsimp only; omega) (.string ⟨#[]⟩)) (Grew.below ?_)
    repeat (first | assumption | exact Grew.refl _ | apply Grew.drew | apply Grew.drewN | apply Grew.alloc | apply Grew.more)

set_option maxHeartbeats 2000000 in
theorem qun_bad (op : Int) (ak : Int) (an am : Int) (ab : List UInt8) (w : World) (o1 : ¬ op < 3) (o2 : ¬ op > 5) (Ra : Tells 35 #[va ak an am ⟨ab.toArray⟩] w (.bool false)) :
    Calls Tryz.prog 15 #[.int .i64 op, va ak an am ⟨ab.toArray⟩] w fun e w' => e = .returned (.tuple #[va 0 0 0 ⟨#[]⟩, .int .i64 1]) ∧ Below w.heap.size w w' := by
  obtain ⟨w0, hw0, bxa, bxr, Bw⟩ := one_boxes w ⟨ak, an, am, ab⟩
  dsimp only at hw0
  have B0 : Below w0.heap.size w0 w0 := Below.refl _ _
  go_enter Tryz.func15, Tryz.ntmps15
  go_upto_region 1 with fail
  rw [← hw0]
  clear hw0
  obtain ⟨a0, a1, a2, a3⟩ := bxa.at4
  dsimp only at a0 a1 a2 a3
  go_wp2_with fail
  refine (Ra _ (below_trans Bw B0)).mono ?_
  rintro e w1 ⟨rfl, cc⟩
  have B1 := below_trans B0 cc
  clear a0 a1 a2 a3 cc
  obtain ⟨a0, a1, a2, a3⟩ := (bxa.later B1).at4
  dsimp only at a0 a1 a2 a3
  have br := bxr.later B1
  obtain ⟨r0, r1, r2, r3⟩ := br.at4
  dsimp only [nul] at r0 r1 r2 r3
  simp only [Nat.zero_add] at r1 r2 r3
  have f0 := br.free 0
  have f1 := br.free 1
  have f2 := br.free 2
  have f3 := br.free 3
  have lt1 := br.lt
  have Be := below_trans Bw B1
  go_wp2
  refine bodyPost_ret_by (v := .tuple #[va 0 0 0 ⟨#[]⟩, .int .i64 1]) ?_ rfl ⟨rfl, ?_⟩
  · simp [results, Tryz.results15, go_sem, r0, r1, r2, r3]
  · refine below_trans (Be.setCell (p := ⟨w.heap.size + 1, 0, none⟩) (by dsimp only; omega) (.int .i64 0) |>.setCell (p := ⟨w.heap.size + 1, 1, none⟩) (by dsimp only; omega) (.int .i64 0) |>.setCell (p := ⟨w.heap.size + 1, 2, none⟩) (by dsimp only; omega) (.int .i64 0) |>.setCell (p := ⟨w.heap.size + 1, 3, none⟩) (by dsimp only; omega) (.string ⟨#[]⟩)) (Grew.below ?_)
    repeat (first | assumption | exact Grew.refl _ | apply Grew.drew | apply Grew.drewN | apply Grew.alloc | apply Grew.more)

set_option maxHeartbeats 2000000 in
theorem qun_isnull (ak : Int) (an am : Int) (ab : List UInt8) (w : World) (rn : Int) (Ra : Tells 35 #[va ak an am ⟨ab.toArray⟩] w (.bool true)) (T : Tells 36 #[.bool (ak == 0)] w (va 4 rn 0 ⟨#[]⟩)) :
    Calls Tryz.prog 15 #[.int .i64 5, va ak an am ⟨ab.toArray⟩] w fun e w' => e = .returned (.tuple #[va 4 rn 0 ⟨#[]⟩, .int .i64 0]) ∧ Below w.heap.size w w' := by
  obtain ⟨w0, hw0, bxa, bxr, Bw⟩ := one_boxes w ⟨ak, an, am, ab⟩
  dsimp only at hw0
  have B0 : Below w0.heap.size w0 w0 := Below.refl _ _
  go_enter Tryz.func15, Tryz.ntmps15
  go_upto_region 1 with fail
  rw [← hw0]
  clear hw0
  obtain ⟨a0, a1, a2, a3⟩ := bxa.at4
  dsimp only at a0 a1 a2 a3
  go_wp2_with fail
  refine (Ra _ (below_trans Bw B0)).mono ?_
  rintro e w1 ⟨rfl, cc⟩
  have B1 := below_trans B0 cc
  clear a0 a1 a2 a3 cc
  obtain ⟨a0, a1, a2, a3⟩ := (bxa.later B1).at4
  dsimp only at a0 a1 a2 a3
  go_wp2_with fail
  refine (T _ (below_trans Bw B1)).mono ?_
  rintro e w2 ⟨rfl, cc⟩
  have B2 := below_trans B1 cc
  clear a0 a1 a2 a3 cc
  obtain ⟨a0, a1, a2, a3⟩ := (bxa.later B2).at4
  dsimp only at a0 a1 a2 a3
  have br := bxr.later B2
  obtain ⟨r0, r1, r2, r3⟩ := br.at4
  dsimp only [nul] at r0 r1 r2 r3
  simp only [Nat.zero_add] at r1 r2 r3
  have f0 := br.free 0
  have f1 := br.free 1
  have f2 := br.free 2
  have f3 := br.free 3
  have lt1 := br.lt
  have Be := below_trans Bw B2
  go_wp2
  refine bodyPost_ret_by (v := .tuple #[va 4 rn 0 ⟨#[]⟩, .int .i64 0]) ?_ rfl ⟨rfl, ?_⟩
  · simp [results, Tryz.results15, go_sem, r0, r1, r2, r3]
  · refine below_trans (Be.setCell (p := ⟨w.heap.size + 1, 0, none⟩) (by dsimp only; omega) (.int .i64 4) |>.setCell (p := ⟨w.heap.size + 1, 1, none⟩) (by dsimp only; omega) (.int .i64 rn) |>.setCell (p := ⟨w.heap.size + 1, 2, none⟩) (by dsimp only; omega) (.int .i64 0) |>.setCell (p := ⟨w.heap.size + 1, 3, none⟩) (by dsimp only; omega) (.string ⟨#[]⟩)) (Grew.below ?_)
    repeat (first | assumption | exact Grew.refl _ | apply Grew.drew | apply Grew.drewN | apply Grew.alloc | apply Grew.more)

set_option maxHeartbeats 2000000 in
theorem qun_not (ak : Int) (an am : Int) (ab : List UInt8) (w : World) (rk rn rm re : Int) (rb : ByteArray) (Ra : Tells 35 #[va ak an am ⟨ab.toArray⟩] w (.bool true)) (F : Tells 37 #[va ak an am ⟨ab.toArray⟩] w (.tuple #[va rk rn rm rb, .int .i64 re])) :
    Calls Tryz.prog 15 #[.int .i64 4, va ak an am ⟨ab.toArray⟩] w fun e w' => e = .returned (.tuple #[va rk rn rm rb, .int .i64 re]) ∧ Below w.heap.size w w' := by
  obtain ⟨w0, hw0, bxa, bxr, Bw⟩ := one_boxes w ⟨ak, an, am, ab⟩
  dsimp only at hw0
  have B0 : Below w0.heap.size w0 w0 := Below.refl _ _
  go_enter Tryz.func15, Tryz.ntmps15
  go_upto_region 1 with fail
  rw [← hw0]
  clear hw0
  obtain ⟨a0, a1, a2, a3⟩ := bxa.at4
  dsimp only at a0 a1 a2 a3
  go_wp2_with fail
  refine (Ra _ (below_trans Bw B0)).mono ?_
  rintro e w1 ⟨rfl, cc⟩
  have B1 := below_trans B0 cc
  clear a0 a1 a2 a3 cc
  obtain ⟨a0, a1, a2, a3⟩ := (bxa.later B1).at4
  dsimp only at a0 a1 a2 a3
  go_wp2_with fail
  refine (F _ (below_trans Bw B1)).mono ?_
  rintro e w2 ⟨rfl, cc⟩
  have B2 := below_trans B1 cc
  clear a0 a1 a2 a3 cc
  obtain ⟨a0, a1, a2, a3⟩ := (bxa.later B2).at4
  dsimp only at a0 a1 a2 a3
  have br := bxr.later B2
  obtain ⟨r0, r1, r2, r3⟩ := br.at4
  dsimp only [nul] at r0 r1 r2 r3
  simp only [Nat.zero_add] at r1 r2 r3
  have f0 := br.free 0
  have f1 := br.free 1
  have f2 := br.free 2
  have f3 := br.free 3
  have lt1 := br.lt
  have Be := below_trans Bw B2
  go_wp2
  refine bodyPost_ret_by (v := .tuple #[va rk rn rm rb, .int .i64 re]) ?_ rfl ⟨rfl, ?_⟩
  · simp [results, Tryz.results15, go_sem, r0, r1, r2, r3]
  · refine below_trans (Be.setCell (p := ⟨w.heap.size + 1, 0, none⟩) (by dsimp only; omega) (.int .i64 rk) |>.setCell (p := ⟨w.heap.size + 1, 1, none⟩) (by dsimp only; omega) (.int .i64 rn) |>.setCell (p := ⟨w.heap.size + 1, 2, none⟩) (by dsimp only; omega) (.int .i64 rm) |>.setCell (p := ⟨w.heap.size + 1, 3, none⟩) (by dsimp only; omega) (.string rb)) (Grew.below ?_)
    repeat (first | assumption | exact Grew.refl _ | apply Grew.drew | apply Grew.drewN | apply Grew.alloc | apply Grew.more)

set_option maxHeartbeats 2000000 in
theorem qun_neg (ak : Int) (an am : Int) (ab : List UInt8) (w : World) (rk rn rm re : Int) (rb : ByteArray) (Ra : Tells 35 #[va ak an am ⟨ab.toArray⟩] w (.bool true)) (F : Tells 38 #[va ak an am ⟨ab.toArray⟩] w (.tuple #[va rk rn rm rb, .int .i64 re])) :
    Calls Tryz.prog 15 #[.int .i64 3, va ak an am ⟨ab.toArray⟩] w fun e w' => e = .returned (.tuple #[va rk rn rm rb, .int .i64 re]) ∧ Below w.heap.size w w' := by
  obtain ⟨w0, hw0, bxa, bxr, Bw⟩ := one_boxes w ⟨ak, an, am, ab⟩
  dsimp only at hw0
  have B0 : Below w0.heap.size w0 w0 := Below.refl _ _
  go_enter Tryz.func15, Tryz.ntmps15
  go_upto_region 1 with fail
  rw [← hw0]
  clear hw0
  obtain ⟨a0, a1, a2, a3⟩ := bxa.at4
  dsimp only at a0 a1 a2 a3
  go_wp2_with fail
  refine (Ra _ (below_trans Bw B0)).mono ?_
  rintro e w1 ⟨rfl, cc⟩
  have B1 := below_trans B0 cc
  clear a0 a1 a2 a3 cc
  obtain ⟨a0, a1, a2, a3⟩ := (bxa.later B1).at4
  dsimp only at a0 a1 a2 a3
  go_wp2_with fail
  refine (F _ (below_trans Bw B1)).mono ?_
  rintro e w2 ⟨rfl, cc⟩
  have B2 := below_trans B1 cc
  clear a0 a1 a2 a3 cc
  obtain ⟨a0, a1, a2, a3⟩ := (bxa.later B2).at4
  dsimp only at a0 a1 a2 a3
  have br := bxr.later B2
  obtain ⟨r0, r1, r2, r3⟩ := br.at4
  dsimp only [nul] at r0 r1 r2 r3
  simp only [Nat.zero_add] at r1 r2 r3
  have f0 := br.free 0
  have f1 := br.free 1
  have f2 := br.free 2
  have f3 := br.free 3
  have lt1 := br.lt
  have Be := below_trans Bw B2
  go_wp2
  refine bodyPost_ret_by (v := .tuple #[va rk rn rm rb, .int .i64 re]) ?_ rfl ⟨rfl, ?_⟩
  · simp [results, Tryz.results15, go_sem, r0, r1, r2, r3]
  · refine below_trans (Be.setCell (p := ⟨w.heap.size + 1, 0, none⟩) (by dsimp only; omega) (.int .i64 rk) |>.setCell (p := ⟨w.heap.size + 1, 1, none⟩) (by dsimp only; omega) (.int .i64 rn) |>.setCell (p := ⟨w.heap.size + 1, 2, none⟩) (by dsimp only; omega) (.int .i64 rm) |>.setCell (p := ⟨w.heap.size + 1, 3, none⟩) (by dsimp only; omega) (.string rb)) (Grew.below ?_)
    repeat (first | assumption | exact Grew.refl _ | apply Grew.drew | apply Grew.drewN | apply Grew.alloc | apply Grew.more)

theorem qun_any (op : Int) (a : Va) (w : World) (hT : Tabs w) (hP : Pw w) (va' : vin a) :
    Calls Tryz.prog 15 #[.int .i64 op, vv a] w fun e w' => e = .returned (rs (unR op a)) ∧ Below w.heap.size w w' := by
  have Ra : Tells 35 #[vv a] w (.bool (vr a)) := fun W h => vright_any a.k a.n a.m ⟨a.b.toArray⟩ W (hT.later h)
  unfold unR
  by_cases o1 : op < 3
  · rw [if_pos (by omega)]
    exact qun_low op a.k a.n a.m a.b w o1
  by_cases o2 : op > 5
  · rw [if_pos (by omega)]
    exact qun_high op a.k a.n a.m a.b w o1 o2
  cases hr : vr a
  · rw [hr] at Ra
    rw [if_pos (by simp)]
    exact qun_bad op a.k a.n a.m a.b w o1 o2 Ra
  rw [hr] at Ra
  rw [if_neg (by simp; omega)]
  by_cases h5 : op = 5
  · subst h5
    rw [if_pos rfl]
    exact qun_isnull a.k a.n a.m a.b w _ Ra (fun W _ => (qtruth_any (a.k == 0) W).mono fun _ _ h => ⟨h.1, h.2.below⟩)
  rw [if_neg h5]
  by_cases h4 : op = 4
  · subst h4
    rw [if_pos rfl]
    exact qun_not a.k a.n a.m a.b w _ _ _ _ _ Ra (fun W _ => (qnot_any a W).mono fun _ _ h => ⟨h.1, h.2.below⟩)
  rw [if_neg h4]
  obtain rfl : op = 3 := by omega
  exact qun_neg a.k a.n a.m a.b w _ _ _ _ _ Ra (fun W h => (qneg_any a W (hP.below h) hr va').mono fun _ _ h => ⟨h.1, h.2.below⟩)
end Go.Proofs.YtnpdecbgakgbgaaGreatDoor

namespace Go.Proofs.YtnpdecbgakgbgaaGreatDoor
open Go.RowKit Go.Shelf
attribute [local go_sem] cell?_more frozen?_more setCell_more more_lt more_more more_drew more_drewN setCell_drewN alloc_drewN

theorem rnumber7_any (k n m : Int) (b : ByteArray) (w : World) : Calls Tryz.prog 62 #[va k n m b] w fun e w' => e = .returned (.bool (k == 1 || k == 2)) ∧ Grew w w' := by
  by_cases h : k = 1
  · subst h
    go_enter Tryz.func62, Tryz.ntmps62
    go_wp2
    all_goals go_ret
    all_goals exact ⟨rfl, by repeat (first | exact Grew.refl _ | apply Grew.drew | apply Grew.drewN | apply Grew.alloc | apply Grew.more)⟩
  · have h' : (k == 1) = false := by simpa using h
    rw [h', Bool.false_or]
    go_enter Tryz.func62, Tryz.ntmps62
    go_wp2
    all_goals go_ret
    all_goals exact ⟨rfl, by repeat (first | exact Grew.refl _ | apply Grew.drew | apply Grew.drewN | apply Grew.alloc | apply Grew.more)⟩

theorem rdec7_any (k n m : Int) (b : ByteArray) (w : World) : Calls Tryz.prog 44 #[va k n m b] w fun e w' => e = .returned (dv n m) ∧ Grew w w' := by
  go_enter Tryz.func44, Tryz.ntmps44
  go_wp2
  refine bodyPost_ret_by (v := dv n m) ?_ rfl ⟨rfl, ?_⟩
  · simp [results, Tryz.results44, go_sem]
  · repeat (first | exact Grew.refl _ | apply Grew.drew | apply Grew.drewN | apply Grew.alloc | apply Grew.more)

theorem rpoint7_any (k n m : Int) (b : ByteArray) (w : World) : Calls Tryz.prog 49 #[va k n m b] w fun e w' => e = .returned (dv n m) ∧ Grew w w' := by
  go_enter Tryz.func49, Tryz.ntmps49
  go_wp2
  refine bodyPost_ret_by (v := dv n m) ?_ rfl ⟨rfl, ?_⟩
  · simp [results, Tryz.results49, go_sem]
  · repeat (first | exact Grew.refl _ | apply Grew.drew | apply Grew.drewN | apply Grew.alloc | apply Grew.more)

theorem rofInt_any (n x : Int) (w : World) : Calls Tryz.prog 45 #[.int .i64 n, .int .i64 x] w fun e w' => e = .returned (rs (wholeR n x)) ∧ Grew w w' := by
  unfold wholeR
  by_cases h : x = 0
  · subst h
    rw [if_pos rfl]
    go_enter Tryz.func45, Tryz.ntmps45
    go_wp2
    refine bodyPost_ret_by (v := rs (vI n, 0)) ?_ rfl ⟨rfl, ?_⟩
    · simp [results, Tryz.results45, go_sem, vI]
    · repeat (first | exact Grew.refl _ | apply Grew.drew | apply Grew.drewN | apply Grew.alloc | apply Grew.more)
  · rw [if_neg h]
    have h' : (x == 0) = false := by simpa using h
    go_enter Tryz.func45, Tryz.ntmps45
    go_wp2
    refine bodyPost_ret_by (v := rs (nul, x)) ?_ rfl ⟨rfl, ?_⟩
    · simp [results, Tryz.results45, go_sem, nul]
    · repeat (first | exact Grew.refl _ | apply Grew.drew | apply Grew.drewN | apply Grew.alloc | apply Grew.more)

theorem rofDec_any (u s x : Int) (w : World) : Calls Tryz.prog 46 #[dv u s, .int .i64 x] w fun e w' => e = .returned (rs (exactR u s x)) ∧ Grew w w' := by
  unfold exactR
  by_cases h : x = 0
  · subst h
    rw [if_pos rfl]
    go_enter Tryz.func46, Tryz.ntmps46
    go_wp2
    refine bodyPost_ret_by (v := rs (vD u s, 0)) ?_ rfl ⟨rfl, ?_⟩
    · simp [results, Tryz.results46, go_sem, vD]
    · repeat (first | exact Grew.refl _ | apply Grew.drew | apply Grew.drewN | apply Grew.alloc | apply Grew.more)
  · rw [if_neg h]
    have h' : (x == 0) = false := by simpa using h
    go_enter Tryz.func46, Tryz.ntmps46
    go_wp2
    refine bodyPost_ret_by (v := rs (nul, x)) ?_ rfl ⟨rfl, ?_⟩
    · simp [results, Tryz.results46, go_sem, nul]
    · repeat (first | exact Grew.refl _ | apply Grew.drew | apply Grew.drewN | apply Grew.alloc | apply Grew.more)

theorem rofPoint_any (u s x : Int) (w : World) : Calls Tryz.prog 47 #[dv u s, .int .i64 x] w fun e w' => e = .returned (rs (placedR u s x)) ∧ Grew w w' := by
  unfold placedR
  by_cases h : x = 0
  · subst h
    rw [if_pos rfl]
    go_enter Tryz.func47, Tryz.ntmps47
    go_wp2
    refine bodyPost_ret_by (v := rs (vP u s, 0)) ?_ rfl ⟨rfl, ?_⟩
    · simp [results, Tryz.results47, go_sem, vP]
    · repeat (first | exact Grew.refl _ | apply Grew.drew | apply Grew.drewN | apply Grew.alloc | apply Grew.more)
  · rw [if_neg h]
    have h' : (x == 0) = false := by simpa using h
    go_enter Tryz.func47, Tryz.ntmps47
    go_wp2
    refine bodyPost_ret_by (v := rs (nul, x)) ?_ rfl ⟨rfl, ?_⟩
    · simp [results, Tryz.results47, go_sem, nul]
    · repeat (first | exact Grew.refl _ | apply Grew.drew | apply Grew.drewN | apply Grew.alloc | apply Grew.more)

theorem rtruth7_any (b : Bool) (w : World) : Calls Tryz.prog 63 #[.bool b] w fun e w' => e = .returned (vv (vB b)) ∧ Grew w w' := by
  have O1 : ∀ W, Calls Tryz.prog 40 #[.int .i64 1] W fun e w' => e = .returned (va 4 1 0 ⟨#[]⟩) ∧ Grew W w' := fun W => rof_any 1 W
  have O0 : ∀ W, Calls Tryz.prog 40 #[.int .i64 0] W fun e w' => e = .returned (va 4 0 0 ⟨#[]⟩) ∧ Grew W w' := fun W => rof_any 0 W
  cases b
  · go_enter Tryz.func63, Tryz.ntmps63
    go_wp2_with (first
      | (go_at_call_of 40 (Value.int IntKind.i64 1); refine (O1 _).mono ?_; rintro e w1 ⟨rfl, os1, n1, rfl⟩)
      | (go_at_call_of 40 (Value.int IntKind.i64 0); refine (O0 _).mono ?_; rintro e w1 ⟨rfl, os1, n1, rfl⟩))
    refine bodyPost_ret_by (v := vv (vB false)) ?_ rfl ⟨rfl, ?_⟩
    · simp [results, Tryz.results63, go_sem, vB]
    · repeat (first | exact Grew.refl _ | apply Grew.drew | apply Grew.drewN | apply Grew.alloc | apply Grew.more)
  · go_enter Tryz.func63, Tryz.ntmps63
    go_wp2_with (first
      | (go_at_call_of 40 (Value.int IntKind.i64 1); refine (O1 _).mono ?_; rintro e w1 ⟨rfl, os1, n1, rfl⟩)
      | (go_at_call_of 40 (Value.int IntKind.i64 0); refine (O0 _).mono ?_; rintro e w1 ⟨rfl, os1, n1, rfl⟩))
    refine bodyPost_ret_by (v := vv (vB true)) ?_ rfl ⟨rfl, ?_⟩
    · simp [results, Tryz.results63, go_sem, vB]
    · repeat (first | exact Grew.refl _ | apply Grew.drew | apply Grew.drewN | apply Grew.alloc | apply Grew.more)

theorem rnull7_any (k n m : Int) (b : ByteArray) (w : World) : Calls Tryz.prog 39 #[va k n m b] w fun e w' => e = .returned (.bool (k == 0)) ∧ Grew w w' := by
  go_enter Tryz.func39, Tryz.ntmps39
  go_wp2
  all_goals go_ret
  all_goals exact ⟨rfl, (by repeat (first | assumption | exact Grew.refl _ | apply Grew.drew | apply Grew.drewN | apply Grew.alloc | apply Grew.more))⟩

/-- Does a comparison hold of two that stand so? -/
def hb7 (op c : Int) : Bool := if op = 11 then c == 0 else if op = 12 then !(c == 0) else if op = 13 then decide (c < 0) else if op = 14 then decide (c ≤ 0) else if op = 15 then decide (c > 0) else decide (c ≥ 0)
theorem cmpR_hb (op c : Int) (h1 : 11 ≤ op) (h2 : op ≤ 16) : cmpR op c = (vB (hb7 op c), 0) := by
  unfold cmpR hb7
  split
  · rfl
  split
  · rfl
  split
  · rfl
  split
  · rfl
  split
  · rfl
  split
  · rfl
  · omega

theorem rholds_any (op c : Int) (w : World) : Calls Tryz.prog 64 #[.int .i64 op, .int .i64 c] w fun e w' => e = .returned (.bool (hb7 op c)) ∧ w = w' := by
  unfold hb7
  by_cases h11 : op = 11
  · subst h11
    rw [if_pos rfl]
    go_enter Tryz.func64, Tryz.ntmps64
    go_wp2
    go_ret
    exact ⟨rfl, rfl⟩
  have c11 : (op == 11) = false := by simpa using h11
  by_cases h12 : op = 12
  · subst h12
    rw [if_neg (by decide), if_pos rfl]
    go_enter Tryz.func64, Tryz.ntmps64
    go_wp2
    go_ret
    exact ⟨rfl, rfl⟩
  have c12 : (op == 12) = false := by simpa using h12
  by_cases h13 : op = 13
  · subst h13
    rw [if_neg (by decide), if_neg (by decide), if_pos rfl]
    go_enter Tryz.func64, Tryz.ntmps64
    go_wp2
    go_ret
    exact ⟨rfl, rfl⟩
  have c13 : (op == 13) = false := by simpa using h13
  by_cases h14 : op = 14
  · subst h14
    rw [if_neg (by decide), if_neg (by decide), if_neg (by decide), if_pos rfl]
    go_enter Tryz.func64, Tryz.ntmps64
    go_wp2
    go_ret
    exact ⟨rfl, rfl⟩
  have c14 : (op == 14) = false := by simpa using h14
  by_cases h15 : op = 15
  · subst h15
    rw [if_neg (by decide), if_neg (by decide), if_neg (by decide), if_neg (by decide), if_pos rfl]
    go_enter Tryz.func64, Tryz.ntmps64
    go_wp2
    go_ret
    exact ⟨rfl, rfl⟩
  have c15 : (op == 15) = false := by simpa using h15
  rw [if_neg h11, if_neg h12, if_neg h13, if_neg h14, if_neg h15]
  go_enter Tryz.func64, Tryz.ntmps64
  go_wp2
  go_ret
  exact ⟨rfl, rfl⟩
end Go.Proofs.YtnpdecbgakgbgaaGreatDoor

namespace Go.Proofs.YtnpdecbgakgbgaaGreatDoor
open Go.RowKit Go.Shelf
attribute [local go_sem] cell?_more frozen?_more setCell_more more_lt more_more more_drew more_drewN setCell_drewN alloc_drewN
attribute [local go_sem high] Ga.cellMA Ga.frozenMA Ga.setMA Ga.cellMAM Ga.frozenMAM Ga.setMAM Ga.cellMAA Ga.frozenMAA Ga.setMAA Ga.cellMAAM Ga.frozenMAAM Ga.setMAAM Ga.cellMAMA Ga.frozenMAMA Ga.setMAMA Ga.cellMAMAM Ga.frozenMAMAM Ga.setMAMAM Ga.cellMAMAMA Ga.frozenMAMAMA Ga.setMAMAMA Ga.cellMAMAMAM Ga.frozenMAMAMAM Ga.setMAMAMAM Ga.size_blank

set_option maxHeartbeats 2000000 in
theorem rpt_9 (an am bn bm x y z : Int) (w : World) (D : ∀ W, Calls Tryz.prog 182 #[dv an am, dv bn bm] W fun e w' => e = .returned (.tuple #[dv x y, .int .i64 z]) ∧ Grew W w') :
    Calls Tryz.prog 122 #[.int .i64 9, dv an am, dv bn bm] w fun e w' => e = .returned (rs (placedR x y z)) ∧ Grew w w' := by
  have H := fun n s x W => rofPoint_any n s x W
  go_enter Tryz.func122, Tryz.ntmps122
  go_wp2_with (first
    | (go_at_call 182; refine (D _).mono ?_; rintro e w1 ⟨rfl, os1, n1, rfl⟩)
    | (go_at_call 47; refine (H _ _ _ _).mono ?_; rintro e w1 ⟨rfl, os2, n2, rfl⟩))
  refine bodyPost_ret_by (v := rs (placedR x y z)) ?_ rfl ⟨rfl, (by repeat (first | assumption | exact Grew.refl _ | apply Grew.drew | apply Grew.drewN | apply Grew.alloc | apply Grew.more))⟩
  simp [results, Tryz.results122, go_sem]

set_option maxHeartbeats 2000000 in
theorem rpt_10 (an am bn bm x y z : Int) (w : World) (D : ∀ W, Calls Tryz.prog 183 #[dv an am, dv bn bm] W fun e w' => e = .returned (.tuple #[dv x y, .int .i64 z]) ∧ Grew W w') :
    Calls Tryz.prog 122 #[.int .i64 10, dv an am, dv bn bm] w fun e w' => e = .returned (rs (placedR x y z)) ∧ Grew w w' := by
  have H := fun n s x W => rofPoint_any n s x W
  go_enter Tryz.func122, Tryz.ntmps122
  go_wp2_with (first
    | (go_at_call 183; refine (D _).mono ?_; rintro e w1 ⟨rfl, os1, n1, rfl⟩)
    | (go_at_call 47; refine (H _ _ _ _).mono ?_; rintro e w1 ⟨rfl, os2, n2, rfl⟩))
  refine bodyPost_ret_by (v := rs (placedR x y z)) ?_ rfl ⟨rfl, (by repeat (first | assumption | exact Grew.refl _ | apply Grew.drew | apply Grew.drewN | apply Grew.alloc | apply Grew.more))⟩
  simp [results, Tryz.results122, go_sem]

set_option maxHeartbeats 2000000 in
theorem rpt_6 (an am bn bm x y z : Int) (w : World) (D : ∀ W, Calls Tryz.prog 181 #[dv an am, dv bn bm] W fun e w' => e = .returned (.tuple #[dv x y, .int .i64 z]) ∧ Grew W w') :
    Calls Tryz.prog 122 #[.int .i64 6, dv an am, dv bn bm] w fun e w' => e = .returned (rs (placedR x y z)) ∧ Grew w w' := by
  have H := fun n s x W => rofPoint_any n s x W
  go_enter Tryz.func122, Tryz.ntmps122
  go_wp2_with (first
    | (go_at_call 181; refine (D _).mono ?_; rintro e w1 ⟨rfl, os1, n1, rfl⟩)
    | (go_at_call 47; refine (H _ _ _ _).mono ?_; rintro e w1 ⟨rfl, os2, n2, rfl⟩))
  refine bodyPost_ret_by (v := rs (placedR x y z)) ?_ rfl ⟨rfl, (by repeat (first | assumption | exact Grew.refl _ | apply Grew.drew | apply Grew.drewN | apply Grew.alloc | apply Grew.more))⟩
  simp [results, Tryz.results122, go_sem]

set_option maxHeartbeats 2000000 in
theorem rpt_7 (an am bn bm x y u v z : Int) (w : World) (D : ∀ W, Calls Tryz.prog 184 #[dv an am, dv bn bm] W fun e w' => e = .returned (.tuple #[dv x y, dv u v, .int .i64 z]) ∧ Grew W w') :
    Calls Tryz.prog 122 #[.int .i64 7, dv an am, dv bn bm] w fun e w' => e = .returned (rs (placedR x y z)) ∧ Grew w w' := by
  have H := fun n s x W => rofPoint_any n s x W
  go_enter Tryz.func122, Tryz.ntmps122
  go_wp2_with (first
    | (go_at_call 184; refine (D _).mono ?_; rintro e w1 ⟨rfl, os1, n1, rfl⟩)
    | (go_at_call 47; refine (H _ _ _ _).mono ?_; rintro e w1 ⟨rfl, os2, n2, rfl⟩))
  refine bodyPost_ret_by (v := rs (placedR x y z)) ?_ rfl ⟨rfl, (by repeat (first | assumption | exact Grew.refl _ | apply Grew.drew | apply Grew.drewN | apply Grew.alloc | apply Grew.more))⟩
  simp [results, Tryz.results122, go_sem]

set_option maxHeartbeats 2000000 in
theorem rpt_8 (an am bn bm x y u v z : Int) (w : World) (D : ∀ W, Calls Tryz.prog 184 #[dv an am, dv bn bm] W fun e w' => e = .returned (.tuple #[dv x y, dv u v, .int .i64 z]) ∧ Grew W w') :
    Calls Tryz.prog 122 #[.int .i64 8, dv an am, dv bn bm] w fun e w' => e = .returned (rs (placedR u v z)) ∧ Grew w w' := by
  have H := fun n s x W => rofPoint_any n s x W
  go_enter Tryz.func122, Tryz.ntmps122
  go_wp2_with (first
    | (go_at_call 184; refine (D _).mono ?_; rintro e w1 ⟨rfl, os1, n1, rfl⟩)
    | (go_at_call 47; refine (H _ _ _ _).mono ?_; rintro e w1 ⟨rfl, os2, n2, rfl⟩))
  refine bodyPost_ret_by (v := rs (placedR u v z)) ?_ rfl ⟨rfl, (by repeat (first | assumption | exact Grew.refl _ | apply Grew.drew | apply Grew.drewN | apply Grew.alloc | apply Grew.more))⟩
  simp [results, Tryz.results122, go_sem]

theorem rpoints7_any (op : Int) (a b : Va) (w : World) (h1 : 6 ≤ op) (h2 : op ≤ 10) (ha : Ga.ok2 a.n a.m = true) (hb : Ga.ok2 b.n b.m = true) :
    Calls Tryz.prog 122 #[.int .i64 op, dv a.n a.m, dv b.n b.m] w fun e w' => e = .returned (rs (ptsR op a b)) ∧ Grew w w' := by
  unfold ptsR ptR
  rcases (by omega : op = 9 ∨ op = 10 ∨ op = 6 ∨ op = 7 ∨ op = 8) with rfl | rfl | rfl | rfl | rfl
  · exact rpt_9 _ _ _ _ _ _ _ w (fun W => Ga.radd_good a.n a.m b.n b.m W ha hb)
  · exact rpt_10 _ _ _ _ _ _ _ w (fun W => Ga.rsub_good a.n a.m b.n b.m W ha hb)
  · exact rpt_6 _ _ _ _ _ _ _ w (fun W => Ga.rmul_good a.n a.m b.n b.m W ha hb)
  · rw [if_neg (by decide), if_neg (by decide), if_neg (by decide), if_pos rfl]
    by_cases hz : b.n = 0 ∧ b.m = 0
    · rw [if_pos hz, hz.1, hz.2]
      exact rpt_7 _ _ _ _ _ _ _ _ _ w (fun W => Ga.rdiv_zero a.n a.m W ha)
    · rw [if_neg hz]
      exact rpt_7 _ _ _ _ _ _ _ _ _ w (fun W => Ga.rdiv_good a.n a.m b.n b.m W ha hb (Ga.norm_pos hz))
  · rw [if_neg (by decide), if_neg (by decide), if_neg (by decide), if_neg (by decide), if_pos rfl]
    by_cases hz : b.n = 0 ∧ b.m = 0
    · rw [if_pos hz, hz.1, hz.2]
      exact rpt_8 _ _ _ _ _ _ _ _ _ w (fun W => Ga.rdiv_zero a.n a.m W ha)
    · rw [if_neg hz]
      exact rpt_8 _ _ _ _ _ _ _ _ _ w (fun W => Ga.rdiv_good a.n a.m b.n b.m W ha hb (Ga.norm_pos hz))
end Go.Proofs.YtnpdecbgakgbgaaGreatDoor

namespace Go.Proofs.YtnpdecbgakgbgaaGreatDoor
open Go.RowKit Go.Shelf
attribute [local go_sem] cell?_more frozen?_more setCell_more more_lt more_more more_drew more_drewN setCell_drewN alloc_drewN

set_option maxRecDepth 20000 in
set_option maxHeartbeats 4000000 in
theorem rbin_low (op : Int) (ak : Int) (bk : Int) (an am bn bm : Int) (ab bb : List UInt8) (w : World) (o1 : op < 6)  :
    Calls Tryz.prog 18 #[.int .i64 op, va ak an am ⟨ab.toArray⟩, va bk bn bm ⟨bb.toArray⟩] w fun e w' => e = .returned (.tuple #[va 0 0 0 ⟨#[]⟩, .int .i64 1]) ∧ Below w.heap.size w w' := by
  obtain ⟨w0, hw0, bxa, bxb, bxr, Bw⟩ := three_boxes w ⟨ak, an, am, ab⟩ ⟨bk, bn, bm, bb⟩
  dsimp only at hw0
  go_enter Tryz.func18, Tryz.ntmps18
  go_upto_region 1 with fail
  rw [← hw0]
  clear hw0
  have B0 : Below w0.heap.size w0 w0 := Below.refl _ _
  obtain ⟨a0, a1, a2, a3⟩ := (bxa.later B0).at4
  obtain ⟨b0, b1, b2, b3⟩ := (bxb.later B0).at4
  dsimp only at a0 a1 a2 a3 b0 b1 b2 b3
  have br := bxr.later B0
  obtain ⟨r0, r1, r2, r3⟩ := br.at4
  dsimp only [nul] at r0 r1 r2 r3
  simp only [Nat.zero_add] at r1 r2 r3
  have f0 := br.free 0
  have f1 := br.free 1
  have f2 := br.free 2
  have f3 := br.free 3
  have lt1 := br.lt
  have Be := below_trans Bw B0
  go_wp2
  refine bodyPost_ret_by (v := .tuple #[va 0 0 0 ⟨#[]⟩, .int .i64 1]) ?_ rfl ⟨rfl, ?_⟩
  · simp [results, Tryz.results18, go_sem, r0, r1, r2, r3]
  · exact (((Be.setCell (p := ⟨w.heap.size + 1 + 1, 0, none⟩) (by dsimp only; omega) _).setCell (p := ⟨w.heap.size + 1 + 1, 1, none⟩) (by dsimp only; omega) _).setCell (p := ⟨w.heap.size + 1 + 1, 2, none⟩) (by dsimp only; omega) _).setCell (p := ⟨w.heap.size + 1 + 1, 3, none⟩) (by dsimp only; omega) _


set_option maxRecDepth 20000 in
set_option maxHeartbeats 4000000 in
theorem rbin_badB (op : Int) (ak : Int) (bk : Int) (an am bn bm : Int) (ab bb : List UInt8) (w : World) (o1 : ¬ op < 6) (o2 : ¬ op > 18) (Ra : Tells 26 #[va ak an am ⟨ab.toArray⟩] w (.bool true)) (Rb : Tells 26 #[va bk bn bm ⟨bb.toArray⟩] w (.bool false)) :
    Calls Tryz.prog 18 #[.int .i64 op, va ak an am ⟨ab.toArray⟩, va bk bn bm ⟨bb.toArray⟩] w fun e w' => e = .returned (.tuple #[va 0 0 0 ⟨#[]⟩, .int .i64 1]) ∧ Below w.heap.size w w' := by
  obtain ⟨w0, hw0, bxa, bxb, bxr, Bw⟩ := three_boxes w ⟨ak, an, am, ab⟩ ⟨bk, bn, bm, bb⟩
  dsimp only at hw0
  go_enter Tryz.func18, Tryz.ntmps18
  go_upto_region 1 with fail
  rw [← hw0]
  clear hw0
  have B0 : Below w0.heap.size w0 w0 := Below.refl _ _
  obtain ⟨a0, a1, a2, a3⟩ := (bxa.later B0).at4
  obtain ⟨b0, b1, b2, b3⟩ := (bxb.later B0).at4
  dsimp only at a0 a1 a2 a3 b0 b1 b2 b3
  go_wp2_with fail
  refine (Ra _ (below_trans Bw B0)).mono ?_
  rintro e w1 ⟨rfl, c⟩
  have B1 := below_trans B0 c
  clear a0 a1 a2 a3 b0 b1 b2 b3 c
  obtain ⟨a0, a1, a2, a3⟩ := (bxa.later B1).at4
  obtain ⟨b0, b1, b2, b3⟩ := (bxb.later B1).at4
  dsimp only at a0 a1 a2 a3 b0 b1 b2 b3
  go_wp2_with fail
  refine (Rb _ (below_trans Bw B1)).mono ?_
  rintro e w2 ⟨rfl, c⟩
  have B2 := below_trans B1 c
  clear a0 a1 a2 a3 b0 b1 b2 b3 c
  obtain ⟨a0, a1, a2, a3⟩ := (bxa.later B2).at4
  obtain ⟨b0, b1, b2, b3⟩ := (bxb.later B2).at4
  dsimp only at a0 a1 a2 a3 b0 b1 b2 b3
  have br := bxr.later B2
  obtain ⟨r0, r1, r2, r3⟩ := br.at4
  dsimp only [nul] at r0 r1 r2 r3
  simp only [Nat.zero_add] at r1 r2 r3
  have f0 := br.free 0
  have f1 := br.free 1
  have f2 := br.free 2
  have f3 := br.free 3
  have lt1 := br.lt
  have Be := below_trans Bw B2
  go_wp2
  refine bodyPost_ret_by (v := .tuple #[va 0 0 0 ⟨#[]⟩, .int .i64 1]) ?_ rfl ⟨rfl, ?_⟩
  · simp [results, Tryz.results18, go_sem, r0, r1, r2, r3]
  · exact (((Be.setCell (p := ⟨w.heap.size + 1 + 1, 0, none⟩) (by dsimp only; omega) _).setCell (p := ⟨w.heap.size + 1 + 1, 1, none⟩) (by dsimp only; omega) _).setCell (p := ⟨w.heap.size + 1 + 1, 2, none⟩) (by dsimp only; omega) _).setCell (p := ⟨w.heap.size + 1 + 1, 3, none⟩) (by dsimp only; omega) _


set_option maxRecDepth 20000 in
set_option maxHeartbeats 4000000 in
theorem rbin_ft17 (ak : Int) (bk : Int) (an am bn bm : Int) (ab bb : List UInt8) (w : World) (t u : Int) (Ra : Tells 26 #[va ak an am ⟨ab.toArray⟩] w (.bool true)) (Rb : Tells 26 #[va bk bn bm ⟨bb.toArray⟩] w (.bool true)) (Ta : Tells 41 #[va ak an am ⟨ab.toArray⟩] w (.tuple #[.int .i64 t, .bool true])) (Tb : Tells 41 #[va bk bn bm ⟨bb.toArray⟩] w (.tuple #[.int .i64 u, .bool false])) :
    Calls Tryz.prog 18 #[.int .i64 17, va ak an am ⟨ab.toArray⟩, va bk bn bm ⟨bb.toArray⟩] w fun e w' => e = .returned (.tuple #[va 0 0 0 ⟨#[]⟩, .int .i64 31]) ∧ Below w.heap.size w w' := by
  obtain ⟨w0, hw0, bxa, bxb, bxr, Bw⟩ := three_boxes w ⟨ak, an, am, ab⟩ ⟨bk, bn, bm, bb⟩
  dsimp only at hw0
  go_enter Tryz.func18, Tryz.ntmps18
  go_upto_region 1 with fail
  rw [← hw0]
  clear hw0
  have B0 : Below w0.heap.size w0 w0 := Below.refl _ _
  obtain ⟨a0, a1, a2, a3⟩ := (bxa.later B0).at4
  obtain ⟨b0, b1, b2, b3⟩ := (bxb.later B0).at4
  dsimp only at a0 a1 a2 a3 b0 b1 b2 b3
  go_wp2_with fail
  refine (Ra _ (below_trans Bw B0)).mono ?_
  rintro e w1 ⟨rfl, c⟩
  have B1 := below_trans B0 c
  clear a0 a1 a2 a3 b0 b1 b2 b3 c
  obtain ⟨a0, a1, a2, a3⟩ := (bxa.later B1).at4
  obtain ⟨b0, b1, b2, b3⟩ := (bxb.later B1).at4
  dsimp only at a0 a1 a2 a3 b0 b1 b2 b3
  go_wp2_with fail
  refine (Rb _ (below_trans Bw B1)).mono ?_
  rintro e w2 ⟨rfl, c⟩
  have B2 := below_trans B1 c
  clear a0 a1 a2 a3 b0 b1 b2 b3 c
  obtain ⟨a0, a1, a2, a3⟩ := (bxa.later B2).at4
  obtain ⟨b0, b1, b2, b3⟩ := (bxb.later B2).at4
  dsimp only at a0 a1 a2 a3 b0 b1 b2 b3
  go_wp2_with fail
  refine (Ta _ (below_trans Bw B2)).mono ?_
  rintro e w3 ⟨rfl, c⟩
  have B3 := below_trans B2 c
  clear a0 a1 a2 a3 b0 b1 b2 b3 c
  obtain ⟨a0, a1, a2, a3⟩ := (bxa.later B3).at4
  obtain ⟨b0, b1, b2, b3⟩ := (bxb.later B3).at4
  dsimp only at a0 a1 a2 a3 b0 b1 b2 b3
  go_wp2_with fail
  refine (Tb _ (below_trans Bw B3)).mono ?_
  rintro e w4 ⟨rfl, c⟩
  have B4 := below_trans B3 c
  clear a0 a1 a2 a3 b0 b1 b2 b3 c
  obtain ⟨a0, a1, a2, a3⟩ := (bxa.later B4).at4
  obtain ⟨b0, b1, b2, b3⟩ := (bxb.later B4).at4
  dsimp only at a0 a1 a2 a3 b0 b1 b2 b3
  have br := bxr.later B4
  obtain ⟨r0, r1, r2, r3⟩ := br.at4
  dsimp only [nul] at r0 r1 r2 r3
  simp only [Nat.zero_add] at r1 r2 r3
  have f0 := br.free 0
  have f1 := br.free 1
  have f2 := br.free 2
  have f3 := br.free 3
  have lt1 := br.lt
  have Be := below_trans Bw B4
  go_wp2
  refine bodyPost_ret_by (v := .tuple #[va 0 0 0 ⟨#[]⟩, .int .i64 31]) ?_ rfl ⟨rfl, ?_⟩
  · simp [results, Tryz.results18, go_sem, r0, r1, r2, r3]
  · exact (((Be.setCell (p := ⟨w.heap.size + 1 + 1, 0, none⟩) (by dsimp only; omega) _).setCell (p := ⟨w.heap.size + 1 + 1, 1, none⟩) (by dsimp only; omega) _).setCell (p := ⟨w.heap.size + 1 + 1, 2, none⟩) (by dsimp only; omega) _).setCell (p := ⟨w.heap.size + 1 + 1, 3, none⟩) (by dsimp only; omega) _


set_option maxRecDepth 20000 in
set_option maxHeartbeats 4000000 in
theorem rbin_ft18 (ak : Int) (bk : Int) (an am bn bm : Int) (ab bb : List UInt8) (w : World) (t u : Int) (Ra : Tells 26 #[va ak an am ⟨ab.toArray⟩] w (.bool true)) (Rb : Tells 26 #[va bk bn bm ⟨bb.toArray⟩] w (.bool true)) (Ta : Tells 41 #[va ak an am ⟨ab.toArray⟩] w (.tuple #[.int .i64 t, .bool true])) (Tb : Tells 41 #[va bk bn bm ⟨bb.toArray⟩] w (.tuple #[.int .i64 u, .bool false])) :
    Calls Tryz.prog 18 #[.int .i64 18, va ak an am ⟨ab.toArray⟩, va bk bn bm ⟨bb.toArray⟩] w fun e w' => e = .returned (.tuple #[va 0 0 0 ⟨#[]⟩, .int .i64 31]) ∧ Below w.heap.size w w' := by
  obtain ⟨w0, hw0, bxa, bxb, bxr, Bw⟩ := three_boxes w ⟨ak, an, am, ab⟩ ⟨bk, bn, bm, bb⟩
  dsimp only at hw0
  go_enter Tryz.func18, Tryz.ntmps18
  go_upto_region 1 with fail
  rw [← hw0]
  clear hw0
  have B0 : Below w0.heap.size w0 w0 := Below.refl _ _
  obtain ⟨a0, a1, a2, a3⟩ := (bxa.later B0).at4
  obtain ⟨b0, b1, b2, b3⟩ := (bxb.later B0).at4
  dsimp only at a0 a1 a2 a3 b0 b1 b2 b3
  go_wp2_with fail
  refine (Ra _ (below_trans Bw B0)).mono ?_
  rintro e w1 ⟨rfl, c⟩
  have B1 := below_trans B0 c
  clear a0 a1 a2 a3 b0 b1 b2 b3 c
  obtain ⟨a0, a1, a2, a3⟩ := (bxa.later B1).at4
  obtain ⟨b0, b1, b2, b3⟩ := (bxb.later B1).at4
  dsimp only at a0 a1 a2 a3 b0 b1 b2 b3
  go_wp2_with fail
  refine (Rb _ (below_trans Bw B1)).mono ?_
  rintro e w2 ⟨rfl, c⟩
  have B2 := below_trans B1 c
  clear a0 a1 a2 a3 b0 b1 b2 b3 c
  obtain ⟨a0, a1, a2, a3⟩ := (bxa.later B2).at4
  obtain ⟨b0, b1, b2, b3⟩ := (bxb.later B2).at4
  dsimp only at a0 a1 a2 a3 b0 b1 b2 b3
  go_wp2_with fail
  refine (Ta _ (below_trans Bw B2)).mono ?_
  rintro e w3 ⟨rfl, c⟩
  have B3 := below_trans B2 c
  clear a0 a1 a2 a3 b0 b1 b2 b3 c
  obtain ⟨a0, a1, a2, a3⟩ := (bxa.later B3).at4
  obtain ⟨b0, b1, b2, b3⟩ := (bxb.later B3).at4
  dsimp only at a0 a1 a2 a3 b0 b1 b2 b3
  go_wp2_with fail
  refine (Tb _ (below_trans Bw B3)).mono ?_
  rintro e w4 ⟨rfl, c⟩
  have B4 := below_trans B3 c
  clear a0 a1 a2 a3 b0 b1 b2 b3 c
  obtain ⟨a0, a1, a2, a3⟩ := (bxa.later B4).at4
  obtain ⟨b0, b1, b2, b3⟩ := (bxb.later B4).at4
  dsimp only at a0 a1 a2 a3 b0 b1 b2 b3
  have br := bxr.later B4
  obtain ⟨r0, r1, r2, r3⟩ := br.at4
  dsimp only [nul] at r0 r1 r2 r3
  simp only [Nat.zero_add] at r1 r2 r3
  have f0 := br.free 0
  have f1 := br.free 1
  have f2 := br.free 2
  have f3 := br.free 3
  have lt1 := br.lt
  have Be := below_trans Bw B4
  go_wp2
  refine bodyPost_ret_by (v := .tuple #[va 0 0 0 ⟨#[]⟩, .int .i64 31]) ?_ rfl ⟨rfl, ?_⟩
  · simp [results, Tryz.results18, go_sem, r0, r1, r2, r3]
  · exact (((Be.setCell (p := ⟨w.heap.size + 1 + 1, 0, none⟩) (by dsimp only; omega) _).setCell (p := ⟨w.heap.size + 1 + 1, 1, none⟩) (by dsimp only; omega) _).setCell (p := ⟨w.heap.size + 1 + 1, 2, none⟩) (by dsimp only; omega) _).setCell (p := ⟨w.heap.size + 1 + 1, 3, none⟩) (by dsimp only; omega) _


set_option maxRecDepth 20000 in
set_option maxHeartbeats 4000000 in
theorem rbin_reck (op : Int) (ak : Int) (bk : Int) (an am bn bm : Int) (ab bb : List UInt8) (w : World) (rk rn rm re : Int) (rb : ByteArray) (o1 : ¬ op < 6) (o2 : ¬ op > 18) (o4 : op ≤ 10) (Ra : Tells 26 #[va ak an am ⟨ab.toArray⟩] w (.bool true)) (Rb : Tells 26 #[va bk bn bm ⟨bb.toArray⟩] w (.bool true)) (Na : Tells 39 #[va ak an am ⟨ab.toArray⟩] w (.bool false)) (Nb : Tells 39 #[va bk bn bm ⟨bb.toArray⟩] w (.bool false)) (F : Tells 61 #[.int .i64 op, va ak an am ⟨ab.toArray⟩, va bk bn bm ⟨bb.toArray⟩] w (.tuple #[va rk rn rm rb, .int .i64 re])) :
    Calls Tryz.prog 18 #[.int .i64 op, va ak an am ⟨ab.toArray⟩, va bk bn bm ⟨bb.toArray⟩] w fun e w' => e = .returned (.tuple #[va rk rn rm rb, .int .i64 re]) ∧ Below w.heap.size w w' := by
  obtain ⟨w0, hw0, bxa, bxb, bxr, Bw⟩ := three_boxes w ⟨ak, an, am, ab⟩ ⟨bk, bn, bm, bb⟩
  dsimp only at hw0
  go_enter Tryz.func18, Tryz.ntmps18
  go_upto_region 1 with fail
  rw [← hw0]
  clear hw0
  have B0 : Below w0.heap.size w0 w0 := Below.refl _ _
  obtain ⟨a0, a1, a2, a3⟩ := (bxa.later B0).at4
  obtain ⟨b0, b1, b2, b3⟩ := (bxb.later B0).at4
  dsimp only at a0 a1 a2 a3 b0 b1 b2 b3
  go_wp2_with fail
  refine (Ra _ (below_trans Bw B0)).mono ?_
  rintro e w1 ⟨rfl, c⟩
  have B1 := below_trans B0 c
  clear a0 a1 a2 a3 b0 b1 b2 b3 c
  obtain ⟨a0, a1, a2, a3⟩ := (bxa.later B1).at4
  obtain ⟨b0, b1, b2, b3⟩ := (bxb.later B1).at4
  dsimp only at a0 a1 a2 a3 b0 b1 b2 b3
  go_wp2_with fail
  refine (Rb _ (below_trans Bw B1)).mono ?_
  rintro e w2 ⟨rfl, c⟩
  have B2 := below_trans B1 c
  clear a0 a1 a2 a3 b0 b1 b2 b3 c
  obtain ⟨a0, a1, a2, a3⟩ := (bxa.later B2).at4
  obtain ⟨b0, b1, b2, b3⟩ := (bxb.later B2).at4
  dsimp only at a0 a1 a2 a3 b0 b1 b2 b3
  go_wp2_with fail
  refine (Na _ (below_trans Bw B2)).mono ?_
  rintro e w3 ⟨rfl, c⟩
  have B3 := below_trans B2 c
  clear a0 a1 a2 a3 b0 b1 b2 b3 c
  obtain ⟨a0, a1, a2, a3⟩ := (bxa.later B3).at4
  obtain ⟨b0, b1, b2, b3⟩ := (bxb.later B3).at4
  dsimp only at a0 a1 a2 a3 b0 b1 b2 b3
  go_wp2_with fail
  refine (Nb _ (below_trans Bw B3)).mono ?_
  rintro e w4 ⟨rfl, c⟩
  have B4 := below_trans B3 c
  clear a0 a1 a2 a3 b0 b1 b2 b3 c
  obtain ⟨a0, a1, a2, a3⟩ := (bxa.later B4).at4
  obtain ⟨b0, b1, b2, b3⟩ := (bxb.later B4).at4
  dsimp only at a0 a1 a2 a3 b0 b1 b2 b3
  go_wp2_with fail
  refine (F _ (below_trans Bw B4)).mono ?_
  rintro e w5 ⟨rfl, c⟩
  have B5 := below_trans B4 c
  clear a0 a1 a2 a3 b0 b1 b2 b3 c
  obtain ⟨a0, a1, a2, a3⟩ := (bxa.later B5).at4
  obtain ⟨b0, b1, b2, b3⟩ := (bxb.later B5).at4
  dsimp only at a0 a1 a2 a3 b0 b1 b2 b3
  have br := bxr.later B5
  obtain ⟨r0, r1, r2, r3⟩ := br.at4
  dsimp only [nul] at r0 r1 r2 r3
  simp only [Nat.zero_add] at r1 r2 r3
  have f0 := br.free 0
  have f1 := br.free 1
  have f2 := br.free 2
  have f3 := br.free 3
  have lt1 := br.lt
  have Be := below_trans Bw B5
  go_wp2
  refine bodyPost_ret_by (v := .tuple #[va rk rn rm rb, .int .i64 re]) ?_ rfl ⟨rfl, ?_⟩
  · simp [results, Tryz.results18, go_sem, r0, r1, r2, r3]
  · exact (((Be.setCell (p := ⟨w.heap.size + 1 + 1, 0, none⟩) (by dsimp only; omega) _).setCell (p := ⟨w.heap.size + 1 + 1, 1, none⟩) (by dsimp only; omega) _).setCell (p := ⟨w.heap.size + 1 + 1, 2, none⟩) (by dsimp only; omega) _).setCell (p := ⟨w.heap.size + 1 + 1, 3, none⟩) (by dsimp only; omega) _


set_option maxRecDepth 20000 in
set_option maxHeartbeats 4000000 in
theorem rbin_othF (op : Int) (ak : Int) (bk : Int) (an am bn bm : Int) (ab bb : List UInt8) (w : World) (o1 : ¬ op < 6) (o2 : ¬ op > 18) (o3 : ¬ op ≥ 17) (o4 : ¬ op ≤ 10) (ek : (ak != bk) = true) (Ra : Tells 26 #[va ak an am ⟨ab.toArray⟩] w (.bool true)) (Rb : Tells 26 #[va bk bn bm ⟨bb.toArray⟩] w (.bool true)) (Na : Tells 39 #[va ak an am ⟨ab.toArray⟩] w (.bool false)) (Nb : Tells 39 #[va bk bn bm ⟨bb.toArray⟩] w (.bool false)) (Ma : Tells 62 #[va ak an am ⟨ab.toArray⟩] w (.bool false)) :
    Calls Tryz.prog 18 #[.int .i64 op, va ak an am ⟨ab.toArray⟩, va bk bn bm ⟨bb.toArray⟩] w fun e w' => e = .returned (.tuple #[va 0 0 0 ⟨#[]⟩, .int .i64 31]) ∧ Below w.heap.size w w' := by
  obtain ⟨w0, hw0, bxa, bxb, bxr, Bw⟩ := three_boxes w ⟨ak, an, am, ab⟩ ⟨bk, bn, bm, bb⟩
  dsimp only at hw0
  go_enter Tryz.func18, Tryz.ntmps18
  go_upto_region 1 with fail
  rw [← hw0]
  clear hw0
  have B0 : Below w0.heap.size w0 w0 := Below.refl _ _
  obtain ⟨a0, a1, a2, a3⟩ := (bxa.later B0).at4
  obtain ⟨b0, b1, b2, b3⟩ := (bxb.later B0).at4
  dsimp only at a0 a1 a2 a3 b0 b1 b2 b3
  go_wp2_with fail
  refine (Ra _ (below_trans Bw B0)).mono ?_
  rintro e w1 ⟨rfl, c⟩
  have B1 := below_trans B0 c
  clear a0 a1 a2 a3 b0 b1 b2 b3 c
  obtain ⟨a0, a1, a2, a3⟩ := (bxa.later B1).at4
  obtain ⟨b0, b1, b2, b3⟩ := (bxb.later B1).at4
  dsimp only at a0 a1 a2 a3 b0 b1 b2 b3
  go_wp2_with fail
  refine (Rb _ (below_trans Bw B1)).mono ?_
  rintro e w2 ⟨rfl, c⟩
  have B2 := below_trans B1 c
  clear a0 a1 a2 a3 b0 b1 b2 b3 c
  obtain ⟨a0, a1, a2, a3⟩ := (bxa.later B2).at4
  obtain ⟨b0, b1, b2, b3⟩ := (bxb.later B2).at4
  dsimp only at a0 a1 a2 a3 b0 b1 b2 b3
  go_wp2_with fail
  refine (Na _ (below_trans Bw B2)).mono ?_
  rintro e w3 ⟨rfl, c⟩
  have B3 := below_trans B2 c
  clear a0 a1 a2 a3 b0 b1 b2 b3 c
  obtain ⟨a0, a1, a2, a3⟩ := (bxa.later B3).at4
  obtain ⟨b0, b1, b2, b3⟩ := (bxb.later B3).at4
  dsimp only at a0 a1 a2 a3 b0 b1 b2 b3
  go_wp2_with fail
  refine (Nb _ (below_trans Bw B3)).mono ?_
  rintro e w4 ⟨rfl, c⟩
  have B4 := below_trans B3 c
  clear a0 a1 a2 a3 b0 b1 b2 b3 c
  obtain ⟨a0, a1, a2, a3⟩ := (bxa.later B4).at4
  obtain ⟨b0, b1, b2, b3⟩ := (bxb.later B4).at4
  dsimp only at a0 a1 a2 a3 b0 b1 b2 b3
  go_wp2_with fail
  refine (Ma _ (below_trans Bw B4)).mono ?_
  rintro e w5 ⟨rfl, c⟩
  have B5 := below_trans B4 c
  clear a0 a1 a2 a3 b0 b1 b2 b3 c
  obtain ⟨a0, a1, a2, a3⟩ := (bxa.later B5).at4
  obtain ⟨b0, b1, b2, b3⟩ := (bxb.later B5).at4
  dsimp only at a0 a1 a2 a3 b0 b1 b2 b3
  have br := bxr.later B5
  obtain ⟨r0, r1, r2, r3⟩ := br.at4
  dsimp only [nul] at r0 r1 r2 r3
  simp only [Nat.zero_add] at r1 r2 r3
  have f0 := br.free 0
  have f1 := br.free 1
  have f2 := br.free 2
  have f3 := br.free 3
  have lt1 := br.lt
  have Be := below_trans Bw B5
  go_wp2
  refine bodyPost_ret_by (v := .tuple #[va 0 0 0 ⟨#[]⟩, .int .i64 31]) ?_ rfl ⟨rfl, ?_⟩
  · simp [results, Tryz.results18, go_sem, r0, r1, r2, r3]
  · exact (((Be.setCell (p := ⟨w.heap.size + 1 + 1, 0, none⟩) (by dsimp only; omega) _).setCell (p := ⟨w.heap.size + 1 + 1, 1, none⟩) (by dsimp only; omega) _).setCell (p := ⟨w.heap.size + 1 + 1, 2, none⟩) (by dsimp only; omega) _).setCell (p := ⟨w.heap.size + 1 + 1, 3, none⟩) (by dsimp only; omega) _
end Go.Proofs.YtnpdecbgakgbgaaGreatDoor
