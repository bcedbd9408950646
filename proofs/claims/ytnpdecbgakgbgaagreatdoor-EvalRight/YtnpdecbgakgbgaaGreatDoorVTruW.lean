/-
  Truth on both sides, and the walk of DatumTruths.
-/
import Derived.Test.YtnpdecbgakgbgaaGreatDoorMqVRef
import Derived.Test.YtnpdecbgakgbgaaGreatDoorMmVCmp
namespace Go.Proofs.YtnpdecbgakgbgaaGreatDoor
open Go.RowKit Go.Shelf
attribute [local go_sem] cell?_more frozen?_more setCell_more more_lt more_more more_drew more_drewN setCell_drewN alloc_drewN

/-- Are two values the same? -/
def eqv (k n m : Int) (b : ByteArray) (k' n' m' : Int) (b' : ByteArray) : Bool := k == k' && (n == n' && (m == m' && b.toList == b'.toList))
theorem eqVb (k n m k' n' m' : Int) (b b' : ByteArray) (w : World) : (Op.equalIn 10000 30 (va k n m b) (va k' n' m' b')).run Tryz.prog w = .ok (eqv k n m b k' n' m' b') w := eqVa k n m k' n' m' b b' w
attribute [local go_sem high] eqVb

/-- The truth that a value stands for, and whether it stands for one. -/
def truN (k n m : Int) (b : ByteArray) : Int := if vrt k n m b = true ∧ k = 4 then n else 2
def truB (k n m : Int) (b : ByteArray) : Bool := vrt k n m b && (k == 0 || k == 4)

set_option maxHeartbeats 2000000 in
theorem rtruth_any (k n m : Int) (b : ByteArray) (w : World) :
    Calls Tryz.prog 41 #[va k n m b] w fun e w' => e = .returned (.tuple #[.int .i64 (truN k n m b), .bool (truB k n m b)]) ∧ Below w.heap.size w w' := by
  have bx := Box.new w k n m b.data.toList
  have R := rright_any k n m b (w.alloc (.cells #[.int .i64 k, .int .i64 n, .int .i64 m, .string b] 30))
  have Bw : Below w.heap.size w (w.alloc (.cells #[.int .i64 k, .int .i64 n, .int .i64 m, .string b] 30)) := (Below.refl _ _).alloc (Nat.le_refl _) _
  unfold truN truB
  generalize vrt k n m b = g at *
  cases g
  · rw [if_neg (by simp), Bool.false_and]
    go_enter Tryz.func41, Tryz.ntmps41
    go_upto_region 1 with fail
    go_wp2_with fail
    refine R.mono ?_
    rintro e w1 ⟨rfl, b1⟩
    have B1 := below_trans Bw b1
    have bx1 := bx.later b1
    obtain ⟨c0, c1, c2, c3⟩ := bx1.at4
    simp only at c0 c1 c2 c3
    clear R bx bx1 b1 Bw
    go_wp2
    all_goals go_ret2
    all_goals exact ⟨rfl, B1⟩
  · rw [Bool.true_and]
    by_cases h0 : k = 0
    · subst h0
      rw [if_neg (by omega), show ((0 : Int) == 0 || (0 : Int) == 4) = true by decide]
      go_enter Tryz.func41, Tryz.ntmps41
      go_upto_region 1 with fail
      go_wp2_with fail
      refine R.mono ?_
      rintro e w1 ⟨rfl, b1⟩
      have B1 := below_trans Bw b1
      have bx1 := bx.later b1
      obtain ⟨c0, c1, c2, c3⟩ := bx1.at4
      simp only at c0 c1 c2 c3
      clear R bx bx1 b1 Bw
      go_wp2
      all_goals go_ret2
      all_goals exact ⟨rfl, B1⟩
    · have d0 : (k == 0) = false := by simpa using h0
      by_cases h4 : k = 4
      · subst h4
        rw [if_pos ⟨rfl, rfl⟩, show ((4 : Int) == 0 || (4 : Int) == 4) = true by decide]
        clear h0 d0
        go_enter Tryz.func41, Tryz.ntmps41
        go_upto_region 1 with fail
        go_wp2_with fail
        refine R.mono ?_
        rintro e w1 ⟨rfl, b1⟩
        have B1 := below_trans Bw b1
        have bx1 := bx.later b1
        obtain ⟨c0, c1, c2, c3⟩ := bx1.at4
        simp only at c0 c1 c2 c3
        clear R bx bx1 b1 Bw
        go_wp2
        all_goals go_ret2
        all_goals exact ⟨rfl, B1⟩
      · have d4 : (k == 4) = false := by simpa using h4
        rw [if_neg (fun h => h4 h.2), d0, d4, Bool.false_or]
        have n0 : (k != 0) = true := by simpa using h0
        have n4 : (k != 4) = true := by simpa using h4
        clear h0 h4
        go_enter Tryz.func41, Tryz.ntmps41
        go_upto_region 1 with fail
        go_wp2_with fail
        refine R.mono ?_
        rintro e w1 ⟨rfl, b1⟩
        have B1 := below_trans Bw b1
        have bx1 := bx.later b1
        obtain ⟨c0, c1, c2, c3⟩ := bx1.at4
        simp only at c0 c1 c2 c3
        clear R bx bx1 b1 Bw
        go_wp2
        all_goals go_ret2
        all_goals exact ⟨rfl, B1⟩

theorem tru_cases (k n m : Int) (b : ByteArray) :
    (eqv k n m b 0 0 0 ⟨#[]⟩ = true → truN k n m b = 2 ∧ truB k n m b = true) ∧
    (eqv k n m b 4 1 0 ⟨#[]⟩ = true → truN k n m b = 1 ∧ truB k n m b = true) ∧
    (eqv k n m b 4 0 0 ⟨#[]⟩ = true → truN k n m b = 0 ∧ truB k n m b = true) ∧
    (eqv k n m b 0 0 0 ⟨#[]⟩ = false → eqv k n m b 4 1 0 ⟨#[]⟩ = false → eqv k n m b 4 0 0 ⟨#[]⟩ = false → truN k n m b = 2 ∧ truB k n m b = false) := by
  unfold eqv
  rw [toList_nil]
  unfold truN truB vrt vft
  generalize b.data.toList = l
  refine ⟨?_, ?_, ?_, ?_⟩
  · intro h
    simp only [Bool.and_eq_true, beq_iff_eq] at h
    obtain ⟨rfl, rfl, rfl, rfl⟩ := h
    simp
  · intro h
    simp only [Bool.and_eq_true, beq_iff_eq] at h
    obtain ⟨rfl, rfl, rfl, rfl⟩ := h
    simp
  · intro h
    simp only [Bool.and_eq_true, beq_iff_eq] at h
    obtain ⟨rfl, rfl, rfl, rfl⟩ := h
    simp
  · intro h1 h2 h3
    by_cases h0 : k = 0
    · subst h0
      simp at h1 ⊢
      intro a b c
      exact h1 a b c
    · by_cases h4 : k = 4
      · subst h4
        simp at h2 h3
        simp
        by_cases hm : m = 0 ∧ l = []
        · obtain ⟨rfl, rfl⟩ := hm
          simp at h2 h3 ⊢
          exact ⟨fun h => by omega, h3, h2⟩
        · simp only [not_and] at hm
          constructor
          · intro h g; exact absurd g (hm h)
          · intro h g; exact absurd g (hm h)
      · simp [h0, h4]

set_option maxHeartbeats 2000000 in
theorem truth_any (k n m : Int) (b : ByteArray) (w : World) :
    Calls Tryz.prog 91 #[va k n m b] w fun e w' => e = .returned (.tuple #[.int .i64 (truN k n m b), .bool (truB k n m b)]) ∧ Grew w w' := by
  obtain ⟨t1, t2, t3, t4⟩ := tru_cases k n m b
  have O2 : ∀ W, Calls Tryz.prog 90 #[.int .i64 2] W fun e w' => e = .returned (va 0 0 0 ⟨#[]⟩) ∧ Grew W w' := fun W => of_any 2 W
  have O1 : ∀ W, Calls Tryz.prog 90 #[.int .i64 1] W fun e w' => e = .returned (va 4 1 0 ⟨#[]⟩) ∧ Grew W w' := fun W => of_any 1 W
  have O0 : ∀ W, Calls Tryz.prog 90 #[.int .i64 0] W fun e w' => e = .returned (va 4 0 0 ⟨#[]⟩) ∧ Grew W w' := fun W => of_any 0 W
  cases h2 : eqv k n m b 0 0 0 ⟨#[]⟩
  · cases h1 : eqv k n m b 4 1 0 ⟨#[]⟩
    · cases h0 : eqv k n m b 4 0 0 ⟨#[]⟩
      · obtain ⟨e1, e2⟩ := t4 h2 h1 h0
        rw [e1, e2]
        clear t1 t2 t3 t4 e1 e2
        go_enter Tryz.func91, Tryz.ntmps91
        go_wp2_with (first
          | (go_at_call_of 90 (Value.int IntKind.i64 2); refine (O2 _).mono ?_; rintro e w1 ⟨rfl, os1, n1, rfl⟩)
          | (go_at_call_of 90 (Value.int IntKind.i64 1); refine (O1 _).mono ?_; rintro e w1 ⟨rfl, os1, n1, rfl⟩)
          | (go_at_call_of 90 (Value.int IntKind.i64 0); refine (O0 _).mono ?_; rintro e w1 ⟨rfl, os1, n1, rfl⟩))
        all_goals go_ret2
        all_goals exact ⟨rfl, (by repeat (first | assumption | exact Grew.refl _ | apply Grew.drew | apply Grew.drewN | apply Grew.alloc | apply Grew.more))⟩
      · obtain ⟨e1, e2⟩ := t3 h0
        rw [e1, e2]
        clear t1 t2 t3 t4 e1 e2
        go_enter Tryz.func91, Tryz.ntmps91
        go_wp2_with (first
          | (go_at_call_of 90 (Value.int IntKind.i64 2); refine (O2 _).mono ?_; rintro e w1 ⟨rfl, os1, n1, rfl⟩)
          | (go_at_call_of 90 (Value.int IntKind.i64 1); refine (O1 _).mono ?_; rintro e w1 ⟨rfl, os1, n1, rfl⟩)
          | (go_at_call_of 90 (Value.int IntKind.i64 0); refine (O0 _).mono ?_; rintro e w1 ⟨rfl, os1, n1, rfl⟩))
        all_goals go_ret2
        all_goals exact ⟨rfl, (by repeat (first | assumption | exact Grew.refl _ | apply Grew.drew | apply Grew.drewN | apply Grew.alloc | apply Grew.more))⟩
    · obtain ⟨e1, e2⟩ := t2 h1
      rw [e1, e2]
      clear t1 t2 t3 t4 e1 e2
      go_enter Tryz.func91, Tryz.ntmps91
      go_wp2_with (first
        | (go_at_call_of 90 (Value.int IntKind.i64 2); refine (O2 _).mono ?_; rintro e w1 ⟨rfl, os1, n1, rfl⟩)
        | (go_at_call_of 90 (Value.int IntKind.i64 1); refine (O1 _).mono ?_; rintro e w1 ⟨rfl, os1, n1, rfl⟩)
        | (go_at_call_of 90 (Value.int IntKind.i64 0); refine (O0 _).mono ?_; rintro e w1 ⟨rfl, os1, n1, rfl⟩))
      all_goals go_ret2
      all_goals exact ⟨rfl, (by repeat (first | assumption | exact Grew.refl _ | apply Grew.drew | apply Grew.drewN | apply Grew.alloc | apply Grew.more))⟩
  · obtain ⟨e1, e2⟩ := t1 h2
    rw [e1, e2]
    clear t1 t2 t3 t4 e1 e2
    go_enter Tryz.func91, Tryz.ntmps91
    go_wp2_with (first
      | (go_at_call_of 90 (Value.int IntKind.i64 2); refine (O2 _).mono ?_; rintro e w1 ⟨rfl, os1, n1, rfl⟩)
      | (go_at_call_of 90 (Value.int IntKind.i64 1); refine (O1 _).mono ?_; rintro e w1 ⟨rfl, os1, n1, rfl⟩)
      | (go_at_call_of 90 (Value.int IntKind.i64 0); refine (O0 _).mono ?_; rintro e w1 ⟨rfl, os1, n1, rfl⟩))
    all_goals go_ret2
    all_goals exact ⟨rfl, (by repeat (first | assumption | exact Grew.refl _ | apply Grew.drew | apply Grew.drewN | apply Grew.alloc | apply Grew.more))⟩

theorem tnot_tand (a b : Int) : tor (tnot a) (tnot b) = tnot (tand a b) := by
  unfold tor tnot tand
  by_cases h0 : a = 0 <;> by_cases h1 : a = 1 <;> by_cases g0 : b = 0 <;> by_cases g1 : b = 1 <;> simp_all
theorem vof_va (a : Int) : ∃ k n m b, vof a = va k n m b := by
  unfold vof
  split
  · exact ⟨_, _, _, _, rfl⟩
  · exact ⟨_, _, _, _, rfl⟩

end Go.Proofs.YtnpdecbgakgbgaaGreatDoor
