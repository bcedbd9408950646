/-
  Ops of two Texts: eval.ofTexts.
  Truths: eval.ofTruths, notOf.
-/
import Derived.Test.YtnpdecbgakgbgaaGreatDoorMzQTells
import Derived.Test.YtnpdecbgakgbgaaGreatDoorMPLShelf
namespace Go.Proofs.YtnpdecbgakgbgaaGreatDoor
open Go.RowKit Go.Shelf
attribute [local go_sem] cell?_more frozen?_more setCell_more more_lt more_more more_drew more_drewN setCell_drewN alloc_drewN

set_option maxHeartbeats 2000000 in
theorem qtxt_cmp (op c : Int) (an am bn bm : Int) (ab bb : List UInt8) (w : World) (e9 : (op != 9) = true) (D : Tells 58 #[va 3 an am ⟨ab.toArray⟩, va 3 bn bm ⟨bb.toArray⟩] w (.int .i64 c)) :
    Calls Tryz.prog 56 #[.int .i64 op, va 3 an am ⟨ab.toArray⟩, va 3 bn bm ⟨bb.toArray⟩] w fun e w' => e = .returned (rs (cmpR op c)) ∧ Below w.heap.size w w' := by
  have HC := fun W => qcompared_any op c W
  obtain ⟨w0, hw0, bxa, bxb, bxr, Bw⟩ := three_boxes w ⟨3, an, am, ab⟩ ⟨3, bn, bm, bb⟩
  dsimp only at hw0
  have B0 : Below w0.heap.size w0 w0 := Below.refl _ _
  go_enter Tryz.func56, Tryz.ntmps56
  go_wp2_with fail
  rw [← hw0]
  clear hw0
  obtain ⟨a0, a1, a2, a3⟩ := bxa.at4
  obtain ⟨b0, b1, b2, b3⟩ := bxb.at4
  dsimp only at a0 a1 a2 a3 b0 b1 b2 b3
  go_wp2_with fail
  refine (D _ Bw).mono ?_
  rintro e w1 ⟨rfl, B1⟩
  have br := bxr.later B1
  obtain ⟨r0, r1, r2, r3⟩ := br.at4
  dsimp only [nul] at r0 r1 r2 r3
  simp only [Nat.zero_add] at r1 r2 r3
  have f0 := br.free 0
  have f1 := br.free 1
  have f2 := br.free 2
  have f3 := br.free 3
  have lt1 := br.lt
  have Be := below_trans Bw B1
  clear D a0 a1 a2 a3 b0 b1 b2 b3 br bxr
  go_wp2_with (go_at_call 57; refine (HC _).mono ?_; rintro e w3 ⟨rfl, os2, n2, rfl⟩)
  refine bodyPost_ret_by (v := rs (cmpR op c)) ?_ rfl ⟨rfl, ?_⟩
  · simp [results, Tryz.results56, go_sem, r0, r1, r2, r3, lt1]
  · refine below_trans (Be.setCell (p := ⟨w.heap.size + 1 + 1, 0, none⟩) (by dsimp only; omega) (.int .i64 (cmpR op c).1.k) |>.setCell (p := ⟨w.heap.size + 1 + 1, 1, none⟩) (by dsimp only; omega) (.int .i64 (cmpR op c).1.n) |>.setCell (p := ⟨w.heap.size + 1 + 1, 2, none⟩) (by dsimp only; omega) (.int .i64 (cmpR op c).1.m) |>.setCell (p := ⟨w.heap.size + 1 + 1, 3, none⟩) (by dsimp only; omega) (.string ⟨(cmpR op c).1.b.toArray⟩)) (Grew.below ?_)
    repeat (first | assumption | exact Grew.refl _ | apply Grew.drew | apply Grew.drewN | apply Grew.alloc | apply Grew.more)

set_option maxHeartbeats 2000000 in
theorem qtxt_over (an am bn bm : Int) (ab bb : List UInt8) (w : World) (ha : ab.length ≤ 256) (hb : bb.length ≤ 256) (ho : 256 < ab.length + bb.length) :
    Calls Tryz.prog 56 #[.int .i64 9, va 3 an am ⟨ab.toArray⟩, va 3 bn bm ⟨bb.toArray⟩] w fun e w' => e = .returned (.tuple #[va 0 0 0 ⟨#[]⟩, .int .i64 32]) ∧ Below w.heap.size w w' := by
  have hs : (256 : Int) < (ab.length : Int) + (bb.length : Int) := by omega
  have hw : IntKind.i64.wrap ((ab.length : Int) + (bb.length : Int)) = (ab.length : Int) + (bb.length : Int) := by rw [IntKind.wrap_i64]; omega
  obtain ⟨w0, hw0, bxa, bxb, bxr, Bw⟩ := three_boxes w ⟨3, an, am, ab⟩ ⟨3, bn, bm, bb⟩
  dsimp only at hw0
  have B0 : Below w0.heap.size w0 w0 := Below.refl _ _
  go_enter Tryz.func56, Tryz.ntmps56
  go_wp2_with fail
  rw [← hw0]
  clear hw0
  obtain ⟨a0, a1, a2, a3⟩ := bxa.at4
  obtain ⟨b0, b1, b2, b3⟩ := bxb.at4
  dsimp only at a0 a1 a2 a3 b0 b1 b2 b3
  have br := bxr.later B0
  obtain ⟨r0, r1, r2, r3⟩ := br.at4
  dsimp only [nul] at r0 r1 r2 r3
  simp only [Nat.zero_add] at r1 r2 r3
  have f0 := br.free 0
  have f1 := br.free 1
  have f2 := br.free 2
  have f3 := br.free 3
  have lt1 := br.lt
  have Be := below_trans Bw B0
  go_wp2
  refine bodyPost_ret_by (v := .tuple #[va 0 0 0 ⟨#[]⟩, .int .i64 32]) ?_ rfl ⟨rfl, ?_⟩
  · simp [results, Tryz.results56, go_sem, r0, r1, r2, r3]
  · exact Be

theorem ba_append (x y : List UInt8) : (⟨x.toArray⟩ : ByteArray) ++ ⟨y.toArray⟩ = ⟨(x ++ y).toArray⟩ := by
  apply ByteArray.ext
  simp

set_option maxHeartbeats 2000000 in
theorem qtxt_join (an am bn bm : Int) (ab bb : List UInt8) (w : World) (ho : ¬ 256 < ab.length + bb.length) :
    Calls Tryz.prog 56 #[.int .i64 9, va 3 an am ⟨ab.toArray⟩, va 3 bn bm ⟨bb.toArray⟩] w fun e w' => e = .returned (.tuple #[va 3 0 0 ⟨(ab ++ bb).toArray⟩, .int .i64 0]) ∧ Below w.heap.size w w' := by
  have hs : ¬ (256 : Int) < (ab.length : Int) + (bb.length : Int) := by omega
  have hw : IntKind.i64.wrap ((ab.length : Int) + (bb.length : Int)) = (ab.length : Int) + (bb.length : Int) := by rw [IntKind.wrap_i64]; omega
  have C : ∀ W, Calls Tryz.prog 30 #[.string (⟨ab.toArray⟩ ++ ⟨bb.toArray⟩)] W fun e w' => e = .returned (.string ⟨(ab ++ bb).toArray⟩) ∧ Below W.heap.size W w' := by
    intro W
    rw [ba_append]
    exact clone_any _ W (by show (ab ++ bb).toArray.size ≤ _; simp; omega)
  obtain ⟨w0, hw0, bxa, bxb, bxr, Bw⟩ := three_boxes w ⟨3, an, am, ab⟩ ⟨3, bn, bm, bb⟩
  dsimp only at hw0
  have B0 : Below w0.heap.size w0 w0 := Below.refl _ _
  go_enter Tryz.func56, Tryz.ntmps56
  go_wp2_with fail
  rw [← hw0]
  clear hw0
  obtain ⟨a0, a1, a2, a3⟩ := bxa.at4
  obtain ⟨b0, b1, b2, b3⟩ := bxb.at4
  dsimp only at a0 a1 a2 a3 b0 b1 b2 b3
  go_wp2_with fail
  refine (C _).mono ?_
  rintro e w1 ⟨rfl, B1⟩
  have br := bxr.later B1
  obtain ⟨r0, r1, r2, r3⟩ := br.at4
  dsimp only [nul] at r0 r1 r2 r3
  simp only [Nat.zero_add] at r1 r2 r3
  have f0 := br.free 0
  have f1 := br.free 1
  have f2 := br.free 2
  have f3 := br.free 3
  have lt1 := br.lt
  have Be := below_trans Bw B1
  clear C a0 a1 a2 a3 b0 b1 b2 b3 br bxr
  go_wp2
  refine bodyPost_ret_by (v := .tuple #[va 3 0 0 ⟨(ab ++ bb).toArray⟩, .int .i64 0]) ?_ rfl ⟨rfl, ?_⟩
  · simp [results, Tryz.results56, go_sem, r0, r1, r2, r3]
  · refine below_trans (Be.setCell (p := ⟨w.heap.size + 1 + 1, 0, none⟩) (by dsimp only; omega) (.int .i64 3) |>.setCell (p := ⟨w.heap.size + 1 + 1, 1, none⟩) (by dsimp only; omega) (.int .i64 0) |>.setCell (p := ⟨w.heap.size + 1 + 1, 2, none⟩) (by dsimp only; omega) (.int .i64 0) |>.setCell (p := ⟨w.heap.size + 1 + 1, 3, none⟩) (by dsimp only; omega) (.string ⟨(ab ++ bb).toArray⟩)) (Grew.below ?_)
    repeat (first | assumption | exact Grew.refl _ | apply Grew.drew | apply Grew.drewN | apply Grew.alloc | apply Grew.more)

end Go.Proofs.YtnpdecbgakgbgaaGreatDoor

namespace Go.Proofs.YtnpdecbgakgbgaaGreatDoor
open Go.RowKit Go.Shelf
attribute [local go_sem] cell?_more frozen?_more setCell_more more_lt more_more more_drew more_drewN setCell_drewN alloc_drewN

theorem vof_vO (t : Int) : vof t = vv (vO t) := by unfold vof vO; split <;> rfl
theorem qof_any (t : Int) (w : World) : Calls Tryz.prog 90 #[.int .i64 t] w fun e w' => e = .returned (vv (vO t)) ∧ Grew w w' := by rw [← vof_vO]; exact of_any t w

set_option maxHeartbeats 2000000 in
theorem qtr_ff (op ak an am bk bn bm t u : Int) (ab bb : ByteArray) (w : World) (y0 : Bool) (Ta : ∀ W, Calls Tryz.prog 91 #[va ak an am ab] W fun e w' => e = .returned (.tuple #[.int .i64 t, .bool false]) ∧ Grew W w') (Tb : ∀ W, Calls Tryz.prog 91 #[va bk bn bm bb] W fun e w' => e = .returned (.tuple #[.int .i64 u, .bool y0]) ∧ Grew W w') :
    Calls Tryz.prog 50 #[.int .i64 op, va ak an am ab, va bk bn bm bb] w fun e w' => e = .returned (.tuple #[va 0 0 0 ⟨#[]⟩, .int .i64 31]) ∧ Grew w w' := by
  go_enter Tryz.func50, Tryz.ntmps50
  go_wp2_with fail
  refine (Ta _).mono ?_
  rintro e w1 ⟨rfl, os1, n1, rfl⟩
  go_wp2_with fail
  refine (Tb _).mono ?_
  rintro e w2 ⟨rfl, os2, n2, rfl⟩
  go_wp2
  all_goals refine bodyPost_ret_by (v := .tuple #[va 0 0 0 ⟨#[]⟩, .int .i64 31]) ?_ rfl ⟨rfl, (by repeat (first | assumption | exact Grew.refl _ | apply Grew.drew | apply Grew.drewN | apply Grew.alloc | apply Grew.more))⟩
  all_goals simp [results, Tryz.results50, go_sem]

set_option maxHeartbeats 2000000 in
theorem qtr_tf (op ak an am bk bn bm t u : Int) (ab bb : ByteArray) (w : World)  (Ta : ∀ W, Calls Tryz.prog 91 #[va ak an am ab] W fun e w' => e = .returned (.tuple #[.int .i64 t, .bool true]) ∧ Grew W w') (Tb : ∀ W, Calls Tryz.prog 91 #[va bk bn bm bb] W fun e w' => e = .returned (.tuple #[.int .i64 u, .bool false]) ∧ Grew W w') :
    Calls Tryz.prog 50 #[.int .i64 op, va ak an am ab, va bk bn bm bb] w fun e w' => e = .returned (.tuple #[va 0 0 0 ⟨#[]⟩, .int .i64 31]) ∧ Grew w w' := by
  go_enter Tryz.func50, Tryz.ntmps50
  go_wp2_with fail
  refine (Ta _).mono ?_
  rintro e w1 ⟨rfl, os1, n1, rfl⟩
  go_wp2_with fail
  refine (Tb _).mono ?_
  rintro e w2 ⟨rfl, os2, n2, rfl⟩
  go_wp2
  all_goals refine bodyPost_ret_by (v := .tuple #[va 0 0 0 ⟨#[]⟩, .int .i64 31]) ?_ rfl ⟨rfl, (by repeat (first | assumption | exact Grew.refl _ | apply Grew.drew | apply Grew.drewN | apply Grew.alloc | apply Grew.more))⟩
  all_goals simp [results, Tryz.results50, go_sem]

set_option maxHeartbeats 2000000 in
theorem qtr_and (ak an am bk bn bm t u : Int) (ab bb : ByteArray) (w : World)  (Ta : ∀ W, Calls Tryz.prog 91 #[va ak an am ab] W fun e w' => e = .returned (.tuple #[.int .i64 t, .bool true]) ∧ Grew W w') (Tb : ∀ W, Calls Tryz.prog 91 #[va bk bn bm bb] W fun e w' => e = .returned (.tuple #[.int .i64 u, .bool true]) ∧ Grew W w') :
    Calls Tryz.prog 50 #[.int .i64 17, va ak an am ab, va bk bn bm bb] w fun e w' => e = .returned (rs (vO (tand t u), 0)) ∧ Grew w w' := by
  have C := fun W => and_any t u W
  have O := fun W => qof_any (tand t u) W
  go_enter Tryz.func50, Tryz.ntmps50
  go_wp2_with fail
  refine (Ta _).mono ?_
  rintro e w1 ⟨rfl, os1, n1, rfl⟩
  go_wp2_with fail
  refine (Tb _).mono ?_
  rintro e w2 ⟨rfl, os2, n2, rfl⟩
  go_wp2_with (first
    | (go_at_call 101; refine (C _).mono ?_; rintro e w3 ⟨rfl, rfl⟩)
    | (go_at_call 90; refine (O _).mono ?_; rintro e w3 ⟨rfl, os3, n3, rfl⟩))
  refine bodyPost_ret_by (v := rs (vO (tand t u), 0)) ?_ rfl ⟨rfl, (by repeat (first | assumption | exact Grew.refl _ | apply Grew.drew | apply Grew.drewN | apply Grew.alloc | apply Grew.more))⟩
  simp [results, Tryz.results50, go_sem]

set_option maxHeartbeats 2000000 in
theorem qtr_or (op ak an am bk bn bm t u : Int) (ab bb : ByteArray) (w : World) (e17 : (op == 17) = false) (Ta : ∀ W, Calls Tryz.prog 91 #[va ak an am ab] W fun e w' => e = .returned (.tuple #[.int .i64 t, .bool true]) ∧ Grew W w') (Tb : ∀ W, Calls Tryz.prog 91 #[va bk bn bm bb] W fun e w' => e = .returned (.tuple #[.int .i64 u, .bool true]) ∧ Grew W w') :
    Calls Tryz.prog 50 #[.int .i64 op, va ak an am ab, va bk bn bm bb] w fun e w' => e = .returned (rs (vO (tor t u), 0)) ∧ Grew w w' := by
  have C := fun W => or_any t u W
  have O := fun W => qof_any (tor t u) W
  go_enter Tryz.func50, Tryz.ntmps50
  go_wp2_with fail
  refine (Ta _).mono ?_
  rintro e w1 ⟨rfl, os1, n1, rfl⟩
  go_wp2_with fail
  refine (Tb _).mono ?_
  rintro e w2 ⟨rfl, os2, n2, rfl⟩
  go_wp2_with (first
    | (go_at_call 102; refine (C _).mono ?_; rintro e w3 ⟨rfl, rfl⟩)
    | (go_at_call 90; refine (O _).mono ?_; rintro e w3 ⟨rfl, os3, n3, rfl⟩))
  refine bodyPost_ret_by (v := rs (vO (tor t u), 0)) ?_ rfl ⟨rfl, (by repeat (first | assumption | exact Grew.refl _ | apply Grew.drew | apply Grew.drewN | apply Grew.alloc | apply Grew.more))⟩
  simp [results, Tryz.results50, go_sem]

theorem qtru_any (op : Int) (a b : Va) (w : World) : Calls Tryz.prog 50 #[.int .i64 op, vv a, vv b] w fun e w' => e = .returned (rs (truR op a b)) ∧ Grew w w' := by
  have A := fun W => truth_any a.k a.n a.m ⟨a.b.toArray⟩ W
  have B := fun W => truth_any b.k b.n b.m ⟨b.b.toArray⟩ W
  unfold truR
  cases ha : tB a
  · rw [if_neg (by simp)]
    rw [show truB a.k a.n a.m ⟨a.b.toArray⟩ = false from ha] at A
    exact qtr_ff op _ _ _ _ _ _ _ _ _ _ w _ A B
  · rw [show truB a.k a.n a.m ⟨a.b.toArray⟩ = true from ha] at A
    cases hb : tB b
    · rw [if_neg (by simp)]
      rw [show truB b.k b.n b.m ⟨b.b.toArray⟩ = false from hb] at B
      exact qtr_tf op _ _ _ _ _ _ _ _ _ _ w A B
    · rw [if_pos (by rfl)]
      rw [show truB b.k b.n b.m ⟨b.b.toArray⟩ = true from hb] at B
      by_cases h : op = 17
      · subst h
        rw [if_pos rfl]
        exact qtr_and _ _ _ _ _ _ _ _ _ _ w A B
      · rw [if_neg h]
        exact qtr_or op _ _ _ _ _ _ _ _ _ _ w (by simpa using h) A B

set_option maxHeartbeats 2000000 in
theorem qnot_any (a : Va) (w : World) : Calls Tryz.prog 37 #[vv a] w fun e w' => e = .returned (rs (notR a)) ∧ Grew w w' := by
  have A := fun W => truth_any a.k a.n a.m ⟨a.b.toArray⟩ W
  unfold notR
  cases ha : tB a
  · rw [if_neg (by simp)]
    rw [show truB a.k a.n a.m ⟨a.b.toArray⟩ = false from ha] at A
    generalize truN a.k a.n a.m ⟨a.b.toArray⟩ = t at *
    go_enter Tryz.func37, Tryz.ntmps37
    go_wp2_with (go_at_call 91; refine (A _).mono ?_; rintro e w1 ⟨rfl, os1, n1, rfl⟩)
    refine bodyPost_ret_by (v := rs (nul, 31)) ?_ rfl ⟨rfl, (by repeat (first | assumption | exact Grew.refl _ | apply Grew.drew | apply Grew.drewN | apply Grew.alloc | apply Grew.more))⟩
    simp [results, Tryz.results37, go_sem, nul]
  · rw [if_pos rfl]
    rw [show truB a.k a.n a.m ⟨a.b.toArray⟩ = true from ha] at A
    unfold tN
    generalize truN a.k a.n a.m ⟨a.b.toArray⟩ = t at *
    have C := fun W => not_any t W
    have O := fun W => qof_any (tnot t) W
    go_enter Tryz.func37, Tryz.ntmps37
    go_wp2_with (first
      | (go_at_call 91; refine (A _).mono ?_; rintro e w1 ⟨rfl, os1, n1, rfl⟩)
      | (go_at_call 92; refine (C _).mono ?_; rintro e w3 ⟨rfl, rfl⟩)
      | (go_at_call 90; refine (O _).mono ?_; rintro e w3 ⟨rfl, os3, n3, rfl⟩))
    refine bodyPost_ret_by (v := rs (vO (tnot t), 0)) ?_ rfl ⟨rfl, (by repeat (first | assumption | exact Grew.refl _ | apply Grew.drew | apply Grew.drewN | apply Grew.alloc | apply Grew.more))⟩
    simp [results, Tryz.results37, go_sem]
end Go.Proofs.YtnpdecbgakgbgaaGreatDoor
