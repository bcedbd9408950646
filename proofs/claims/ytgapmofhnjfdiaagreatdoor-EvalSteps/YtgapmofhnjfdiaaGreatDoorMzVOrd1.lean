/-
  The listed table of powers as the walks ask for it.
  The contracts of the document's Right and Same.
  Truth on both sides, and the walk of DatumTruths.
  The contracts of the law's Own and Same, and of datum.Rows.
  datum.Same and datum.Row; the document's cmp, class, first and Row.
-/
import Derived.Test.YtgapmofhnjfdiaaGreatDoorMxVCmp
import Derived.Test.YtgapmofhnjfdiaaGreatDoorVCmp2
import Derived.Test.YtgapmofhnjfdiaaGreatDoorVGood
import Derived.Test.YtgapmofhnjfdiaaGreatDoorMaLJumps
import Derived.Deep.RegionHeld2
namespace Go.Proofs.YtgapmofhnjfdiaaGreatDoor
open Go.ChangeShapes Go.WideShapes Go.ChangeAt Go.WideMaps Go.WideElems Go.RowKit Go.Shelf Go.Lib

def powN : List Int := [1, 10, 100, 1000, 10000, 100000, 1000000, 10000000, 100000000, 1000000000, 10000000000, 100000000000, 1000000000000]
theorem pow_cells : ∀ k : Nat, k < 13 → (powN.map (Value.int .i64)).toArray[k]? = some (.int .i64 ((10 ^ k : Nat) : Int)) := by
  intro k hk
  match k, hk with
  | 0, _ => rfl
  | 1, _ => rfl
  | 2, _ => rfl
  | 3, _ => rfl
  | 4, _ => rfl
  | 5, _ => rfl
  | 6, _ => rfl
  | 7, _ => rfl
  | 8, _ => rfl
  | 9, _ => rfl
  | 10, _ => rfl
  | 11, _ => rfl
  | 12, _ => rfl

theorem pw_of {W : World} (h : VarReads Tryz.prog W "longstop/decimal.powers" Rows.laid_longstop_decimal_powers) : Pw W := by
  have gP : Tryz.prog.globalNamed "longstop/decimal.powers" = some 1 := by kernel_rfl
  have tP : (Tryz.prog.globals[1]?).map (·.type) = some 204 := by kernel_rfl
  have e : (Rows.laid_longstop_decimal_powers : DataW Unit) = Lib.tabData .i64 powN := by kernel_rfl
  rw [e] at h
  obtain ⟨g, t, cs, fuel, p, hg, hty, hvar, hd⟩ := h
  obtain rfl := Option.some.inj (gP.symm.trans hg)
  obtain rfl := Option.some.inj (tP.symm.trans hty)
  have hcs := Lib.cells_of_tab Tryz.underlying204 Tryz.underlying3 (by kernel_rfl) (by kernel_rfl) hd
  intro k hk
  have hc := World.var?_cell hg hvar k
  rw [hc, ← pow_cells k hk]
  have : cs = (powN.map (Value.int .i64)).toArray := by
    rw [← Array.toArray_toList (xs := cs), hcs]
  rw [this]
end Go.Proofs.YtgapmofhnjfdiaaGreatDoor

namespace Go.Proofs.YtgapmofhnjfdiaaGreatDoor
open Go.RowKit Go.Shelf
attribute [local go_sem] cell?_more frozen?_more setCell_more more_lt more_more more_drew more_drewN setCell_drewN alloc_drewN

theorem emptyE (b : ByteArray) : b.toList.isEmpty = (b.data.toList == []) := by
  rw [Lib.toList_data]
  cases b.data.toList <;> rfl

theorem rpoint_any (x y : Int) (w : World) : Calls Tryz.prog 83 #[dv x y] w fun e w' => e = .returned (.bool (ok1 x && ok1 y)) ∧ Grew w w' := by
  go_enter Tryz.func83, Tryz.ntmps83
  go_wp2
  all_goals go_ret
  all_goals refine ⟨ret_bool ?_, (by repeat (first | exact Grew.refl _ | apply Grew.drew | apply Grew.drewN | apply Grew.alloc | apply Grew.more))⟩
  all_goals simp_all [ok1]
  all_goals try omega

set_option maxHeartbeats 1000000 in
theorem rright_0 (n m : Int) (b : ByteArray) (w : World) : Calls Tryz.prog 46 #[va 0 n m b] w fun e w' => e = .returned (.bool (vrt 0 n m b)) ∧ Below w.heap.size w w' := by
  go_enter Tryz.func46, Tryz.ntmps46
  go_wp2
  all_goals go_ret
  all_goals refine ⟨ret_bool ?_, Grew.below (by repeat (first | exact Grew.refl _ | apply Grew.drew | apply Grew.drewN | apply Grew.alloc | apply Grew.more))⟩
  all_goals simp_all [vrt, vft, emptyE]

set_option maxHeartbeats 1000000 in
theorem rright_1 (n m : Int) (b : ByteArray) (w : World) : Calls Tryz.prog 46 #[va 1 n m b] w fun e w' => e = .returned (.bool (vrt 1 n m b)) ∧ Below w.heap.size w w' := by
  go_enter Tryz.func46, Tryz.ntmps46
  go_wp2
  all_goals go_ret
  all_goals refine ⟨ret_bool ?_, Grew.below (by repeat (first | exact Grew.refl _ | apply Grew.drew | apply Grew.drewN | apply Grew.alloc | apply Grew.more))⟩
  all_goals simp_all [vrt, vft, emptyE]

set_option maxHeartbeats 1000000 in
theorem rright_2 (n m : Int) (b : ByteArray) (w : World) : Calls Tryz.prog 46 #[va 2 n m b] w fun e w' => e = .returned (.bool (vrt 2 n m b)) ∧ Below w.heap.size w w' := by
  go_enter Tryz.func46, Tryz.ntmps46
  go_wp2
  all_goals go_ret
  all_goals refine ⟨ret_bool ?_, Grew.below (by repeat (first | exact Grew.refl _ | apply Grew.drew | apply Grew.drewN | apply Grew.alloc | apply Grew.more))⟩
  all_goals simp [vrt, vft, emptyE, rightS]
  all_goals first | omega | (simp_all; try omega)

set_option maxHeartbeats 1000000 in
theorem rright_4 (n m : Int) (b : ByteArray) (w : World) : Calls Tryz.prog 46 #[va 4 n m b] w fun e w' => e = .returned (.bool (vrt 4 n m b)) ∧ Below w.heap.size w w' := by
  go_enter Tryz.func46, Tryz.ntmps46
  go_wp2
  all_goals go_ret
  all_goals refine ⟨ret_bool ?_, Grew.below (by repeat (first | exact Grew.refl _ | apply Grew.drew | apply Grew.drewN | apply Grew.alloc | apply Grew.more))⟩
  all_goals simp_all [vrt, vft, emptyE]

set_option maxHeartbeats 1000000 in
theorem rright_5 (n m : Int) (b : ByteArray) (w : World) : Calls Tryz.prog 46 #[va 5 n m b] w fun e w' => e = .returned (.bool (vrt 5 n m b)) ∧ Below w.heap.size w w' := by
  have R := fun W => rpoint_any n m W
  have hv : vrt 5 n m b = ((ok1 n && ok1 m) && (b.data.toList == [])) := by simp [vrt, vft, Bool.and_comm]
  rw [hv]
  generalize (ok1 n && ok1 m) = g at *
  clear hv
  cases g
  all_goals
    go_enter Tryz.func46, Tryz.ntmps46
    go_wp2_with (go_at_call 83; refine (R _).mono ?_; rintro e w1 ⟨rfl, os1, n1, rfl⟩)
    all_goals go_ret
    all_goals refine ⟨ret_bool ?_, Grew.below (by repeat (first | exact Grew.refl _ | apply Grew.drew | apply Grew.drewN | apply Grew.alloc | apply Grew.more))⟩
    all_goals simp [emptyE]

set_option maxHeartbeats 1000000 in
theorem rright_3 (n m : Int) (b : ByteArray) (w : World) : Calls Tryz.prog 46 #[va 3 n m b] w fun e w' => e = .returned (.bool (vrt 3 n m b)) ∧ Below w.heap.size w w' := by
  by_cases hn : n = 0
  · subst hn
    by_cases hm : m = 0
    · subst hm
      by_cases hb : b.size ≤ 256
      · have V := fun W => good_any b W (by omega)
        have hv : vrt 3 0 0 b = Lib.validD b.data.toList := by simp [vrt, vft, hb]
        rw [hv]
        have hb' : (b.size : Int) ≤ 256 := by omega
        generalize Lib.validD b.data.toList = g at *
        clear hv hb
        go_enter Tryz.func46, Tryz.ntmps46
        go_wp2_with (go_at_call 112; refine (V _).mono ?_; rintro e w1 ⟨rfl, bb1⟩)
        all_goals go_ret
        all_goals exact ⟨rfl, below_trans (Grew.below (by repeat (first | exact Grew.refl _ | apply Grew.drew | apply Grew.drewN | apply Grew.alloc | apply Grew.more))) bb1⟩
      · have hv : vrt 3 0 0 b = false := by simp [vrt, vft, hb]
        rw [hv]
        have hb' : ¬ (b.size : Int) ≤ 256 := by omega
        clear hv hb
        go_enter Tryz.func46, Tryz.ntmps46
        go_wp2
        all_goals go_ret
        all_goals exact ⟨rfl, Grew.below (by repeat (first | exact Grew.refl _ | apply Grew.drew | apply Grew.drewN | apply Grew.alloc | apply Grew.more))⟩
    · have hv : vrt 3 0 m b = false := by simp [vrt, hm]
      have hm' : (m == 0) = false := by simpa using hm
      rw [hv]
      clear hv hm
      go_enter Tryz.func46, Tryz.ntmps46
      go_wp2
      all_goals go_ret
      all_goals exact ⟨rfl, Grew.below (by repeat (first | exact Grew.refl _ | apply Grew.drew | apply Grew.drewN | apply Grew.alloc | apply Grew.more))⟩
  · have hv : vrt 3 n m b = false := by simp [vrt, hn]
    have hn' : (n == 0) = false := by simpa using hn
    rw [hv]
    clear hv hn
    go_enter Tryz.func46, Tryz.ntmps46
    go_wp2
    all_goals go_ret
    all_goals exact ⟨rfl, Grew.below (by repeat (first | exact Grew.refl _ | apply Grew.drew | apply Grew.drewN | apply Grew.alloc | apply Grew.more))⟩

set_option maxHeartbeats 1000000 in
theorem rright_o (k : Int) (n m : Int) (b : ByteArray) (w : World) (h0 : k ≠ 0) (h1 : k ≠ 1) (h2 : k ≠ 2) (h3 : k ≠ 3) (h4 : k ≠ 4) (h5 : k ≠ 5) : Calls Tryz.prog 46 #[va k n m b] w fun e w' => e = .returned (.bool (vrt k n m b)) ∧ Below w.heap.size w w' := by
  have c0 : (k == 0) = false := by simpa using h0
  have c1 : (k == 1) = false := by simpa using h1
  have c2 : (k == 2) = false := by simpa using h2
  have c3 : (k == 3) = false := by simpa using h3
  have c4 : (k == 4) = false := by simpa using h4
  have c5 : (k == 5) = false := by simpa using h5
  have hv : vrt k n m b = false := by simp [vrt, vft, h0, h1, h2, h3, h4, h5]
  rw [hv]
  clear hv
  go_enter Tryz.func46, Tryz.ntmps46
  go_wp2
  all_goals go_ret
  all_goals exact ⟨rfl, Grew.below (by repeat (first | exact Grew.refl _ | apply Grew.drew | apply Grew.drewN | apply Grew.alloc | apply Grew.more))⟩

/-- The document's Right says what the program's does. -/
theorem rright_any (k n m : Int) (b : ByteArray) (w : World) : Calls Tryz.prog 46 #[va k n m b] w fun e w' => e = .returned (.bool (vrt k n m b)) ∧ Below w.heap.size w w' := by
  by_cases h0 : k = 0
  · subst h0; exact rright_0 n m b w
  by_cases h1 : k = 1
  · subst h1; exact rright_1 n m b w
  by_cases h2 : k = 2
  · subst h2; exact rright_2 n m b w
  by_cases h3 : k = 3
  · subst h3; exact rright_3 n m b w
  by_cases h4 : k = 4
  · subst h4; exact rright_4 n m b w
  by_cases h5 : k = 5
  · subst h5; exact rright_5 n m b w
  exact rright_o k n m b w h0 h1 h2 h3 h4 h5

set_option maxHeartbeats 1000000 in
theorem rsame_any (k n m : Int) (b : ByteArray) (k' n' m' : Int) (b' : ByteArray) (w : World) :
    Calls Tryz.prog 18 #[va k n m b, va k' n' m' b'] w fun e w' => e = .returned (.bool (k == k' && (n == n' && (m == m' && b.toList == b'.toList)))) ∧ Grew w w' := by
  go_enter Tryz.func18, Tryz.ntmps18
  go_wp2
  all_goals go_ret
  all_goals refine ⟨ret_bool ?_, (by repeat (first | exact Grew.refl _ | apply Grew.drew | apply Grew.drewN | apply Grew.alloc | apply Grew.more))⟩
  all_goals simp_all

end Go.Proofs.YtgapmofhnjfdiaaGreatDoor

namespace Go.Proofs.YtgapmofhnjfdiaaGreatDoor
open Go.RowKit Go.Shelf
attribute [local go_sem] cell?_more frozen?_more setCell_more more_lt more_more more_drew more_drewN setCell_drewN alloc_drewN

/-- Are two values the same? -/
def eqv (k n m : Int) (b : ByteArray) (k' n' m' : Int) (b' : ByteArray) : Bool := k == k' && (n == n' && (m == m' && b.toList == b'.toList))
theorem eqVb (k n m k' n' m' : Int) (b b' : ByteArray) (w : World) : (Op.equalIn 10000 30 (va k n m b) (va k' n' m' b')).run Tryz.prog w = .ok (eqv k n m b k' n' m' b') w := eqVa k n m k' n' m' b b' w
attribute [local go_sem high] eqVb

/-- The truth that a value stands for, and whether it stands for one. -/
def truN (k n m : Int) (b : ByteArray) : Int := if vrt k n m b = true ∧ k = 4 then n else 2
def truB (k n m : Int) (b : ByteArray) : Bool := vrt k n m b && (k == 0 || k == 4)

set_option maxHeartbeats 2000000 in
theorem rtruth_any (k n m : Int) (b : ByteArray) (w : World) :
    Calls Tryz.prog 49 #[va k n m b] w fun e w' => e = .returned (.tuple #[.int .i64 (truN k n m b), .bool (truB k n m b)]) ∧ Below w.heap.size w w' := by
  have bx := Box.new w k n m b.data.toList
  have R := rright_any k n m b (w.alloc (.cells #[.int .i64 k, .int .i64 n, .int .i64 m, .string b] 30))
  have Bw : Below w.heap.size w (w.alloc (.cells #[.int .i64 k, .int .i64 n, .int .i64 m, .string b] 30)) := (Below.refl _ _).alloc (Nat.le_refl _) _
  unfold truN truB
  generalize vrt k n m b = g at *
  cases g
  · rw [if_neg (by simp), Bool.false_and]
    go_enter Tryz.func49, Tryz.ntmps49
    go_upto_region 1 with fail
    go_wp2_with fail
    refine R.mono ?_
    rintro e w1 ⟨rfl, b1⟩
    have B1 := below_trans Bw b1
    have bx1 := bx.later b1
    obtain ⟨c0, c1, c2, c3⟩ := bx1.at4
    simp only at c0 c1 c2 c3
    clear R bx bx1 b1 Bw
    go_wp2
    all_goals go_ret2
    all_goals exact ⟨rfl, B1⟩
  · rw [Bool.true_and]
    by_cases h0 : k = 0
    · subst h0
      rw [if_neg (by omega), show ((0 : Int) == 0 || (0 : Int) == 4) = true by decide]
      go_enter Tryz.func49, Tryz.ntmps49
      go_upto_region 1 with fail
      go_wp2_with fail
      refine R.mono ?_
      rintro e w1 ⟨rfl, b1⟩
      have B1 := below_trans Bw b1
      have bx1 := bx.later b1
      obtain ⟨c0, c1, c2, c3⟩ := bx1.at4
      simp only at c0 c1 c2 c3
      clear R bx bx1 b1 Bw
      go_wp2
      all_goals go_ret2
      all_goals exact ⟨rfl, B1⟩
    · have d0 : (k == 0) = false := by simpa using h0
      by_cases h4 : k = 4
      · subst h4
        rw [if_pos ⟨rfl, rfl⟩, show ((4 : Int) == 0 || (4 : Int) == 4) = true by decide]
        clear h0 d0
        go_enter Tryz.func49, Tryz.ntmps49
        go_upto_region 1 with fail
        go_wp2_with fail
        refine R.mono ?_
        rintro e w1 ⟨rfl, b1⟩
        have B1 := below_trans Bw b1
        have bx1 := bx.later b1
        obtain ⟨c0, c1, c2, c3⟩ := bx1.at4
        simp only at c0 c1 c2 c3
        clear R bx bx1 b1 Bw
        go_wp2
        all_goals go_ret2
        all_goals exact ⟨rfl, B1⟩
      · have d4 : (k == 4) = false := by simpa using h4
        rw [if_neg (fun h => h4 h.2), d0, d4, Bool.false_or]
        have n0 : (k != 0) = true := by simpa using h0
        have n4 : (k != 4) = true := by simpa using h4
        clear h0 h4
        go_enter Tryz.func49, Tryz.ntmps49
        go_upto_region 1 with fail
        go_wp2_with fail
        refine R.mono ?_
        rintro e w1 ⟨rfl, b1⟩
        have B1 := below_trans Bw b1
        have bx1 := bx.later b1
        obtain ⟨c0, c1, c2, c3⟩ := bx1.at4
        simp only at c0 c1 c2 c3
        clear R bx bx1 b1 Bw
        go_wp2
        all_goals go_ret2
        all_goals exact ⟨rfl, B1⟩

theorem tru_cases (k n m : Int) (b : ByteArray) :
    (eqv k n m b 0 0 0 ⟨#[]⟩ = true → truN k n m b = 2 ∧ truB k n m b = true) ∧
    (eqv k n m b 4 1 0 ⟨#[]⟩ = true → truN k n m b = 1 ∧ truB k n m b = true) ∧
    (eqv k n m b 4 0 0 ⟨#[]⟩ = true → truN k n m b = 0 ∧ truB k n m b = true) ∧
    (eqv k n m b 0 0 0 ⟨#[]⟩ = false → eqv k n m b 4 1 0 ⟨#[]⟩ = false → eqv k n m b 4 0 0 ⟨#[]⟩ = false → truN k n m b = 2 ∧ truB k n m b = false) := by
  unfold eqv
  rw [toList_nil]
  unfold truN truB vrt vft
  generalize b.data.toList = l
  refine ⟨?_, ?_, ?_, ?_⟩
  · intro h
    simp only [Bool.and_eq_true, beq_iff_eq] at h
    obtain ⟨rfl, rfl, rfl, rfl⟩ := h
    simp
  · intro h
    simp only [Bool.and_eq_true, beq_iff_eq] at h
    obtain ⟨rfl, rfl, rfl, rfl⟩ := h
    simp
  · intro h
    simp only [Bool.and_eq_true, beq_iff_eq] at h
    obtain ⟨rfl, rfl, rfl, rfl⟩ := h
    simp
  · intro h1 h2 h3
    by_cases h0 : k = 0
    · subst h0
      simp at h1 ⊢
      intro a b c
      exact h1 a b c
    · by_cases h4 : k = 4
      · subst h4
        simp at h2 h3
        simp
        by_cases hm : m = 0 ∧ l = []
        · obtain ⟨rfl, rfl⟩ := hm
          simp at h2 h3 ⊢
          exact ⟨fun h => by omega, h3, h2⟩
        · simp only [not_and] at hm
          constructor
          · intro h g; exact absurd g (hm h)
          · intro h g; exact absurd g (hm h)
      · simp [h0, h4]

set_option maxHeartbeats 2000000 in
theorem truth_any (k n m : Int) (b : ByteArray) (w : World) :
    Calls Tryz.prog 90 #[va k n m b] w fun e w' => e = .returned (.tuple #[.int .i64 (truN k n m b), .bool (truB k n m b)]) ∧ Grew w w' := by
  obtain ⟨t1, t2, t3, t4⟩ := tru_cases k n m b
  have O2 : ∀ W, Calls Tryz.prog 103 #[.int .i64 2] W fun e w' => e = .returned (va 0 0 0 ⟨#[]⟩) ∧ Grew W w' := fun W => of_any 2 W
  have O1 : ∀ W, Calls Tryz.prog 103 #[.int .i64 1] W fun e w' => e = .returned (va 4 1 0 ⟨#[]⟩) ∧ Grew W w' := fun W => of_any 1 W
  have O0 : ∀ W, Calls Tryz.prog 103 #[.int .i64 0] W fun e w' => e = .returned (va 4 0 0 ⟨#[]⟩) ∧ Grew W w' := fun W => of_any 0 W
  cases h2 : eqv k n m b 0 0 0 ⟨#[]⟩
  · cases h1 : eqv k n m b 4 1 0 ⟨#[]⟩
    · cases h0 : eqv k n m b 4 0 0 ⟨#[]⟩
      · obtain ⟨e1, e2⟩ := t4 h2 h1 h0
        rw [e1, e2]
        clear t1 t2 t3 t4 e1 e2
        go_enter Tryz.func90, Tryz.ntmps90
        go_wp2_with (first
          | (go_at_call_of 103 (Value.int IntKind.i64 2); refine (O2 _).mono ?_; rintro e w1 ⟨rfl, os1, n1, rfl⟩)
          | (go_at_call_of 103 (Value.int IntKind.i64 1); refine (O1 _).mono ?_; rintro e w1 ⟨rfl, os1, n1, rfl⟩)
          | (go_at_call_of 103 (Value.int IntKind.i64 0); refine (O0 _).mono ?_; rintro e w1 ⟨rfl, os1, n1, rfl⟩))
        all_goals go_ret2
        all_goals exact ⟨rfl, (by repeat (first | assumption | exact Grew.refl _ | apply Grew.drew | apply Grew.drewN | apply Grew.alloc | apply Grew.more))⟩
      · obtain ⟨e1, e2⟩ := t3 h0
        rw [e1, e2]
        clear t1 t2 t3 t4 e1 e2
        go_enter Tryz.func90, Tryz.ntmps90
        go_wp2_with (first
          | (go_at_call_of 103 (Value.int IntKind.i64 2); refine (O2 _).mono ?_; rintro e w1 ⟨rfl, os1, n1, rfl⟩)
          | (go_at_call_of 103 (Value.int IntKind.i64 1); refine (O1 _).mono ?_; rintro e w1 ⟨rfl, os1, n1, rfl⟩)
          | (go_at_call_of 103 (Value.int IntKind.i64 0); refine (O0 _).mono ?_; rintro e w1 ⟨rfl, os1, n1, rfl⟩))
        all_goals go_ret2
        all_goals exact ⟨rfl, (by repeat (first | assumption | exact Grew.refl _ | apply Grew.drew | apply Grew.drewN | apply Grew.alloc | apply Grew.more))⟩
    · obtain ⟨e1, e2⟩ := t2 h1
      rw [e1, e2]
      clear t1 t2 t3 t4 e1 e2
      go_enter Tryz.func90, Tryz.ntmps90
      go_wp2_with (first
        | (go_at_call_of 103 (Value.int IntKind.i64 2); refine (O2 _).mono ?_; rintro e w1 ⟨rfl, os1, n1, rfl⟩)
        | (go_at_call_of 103 (Value.int IntKind.i64 1); refine (O1 _).mono ?_; rintro e w1 ⟨rfl, os1, n1, rfl⟩)
        | (go_at_call_of 103 (Value.int IntKind.i64 0); refine (O0 _).mono ?_; rintro e w1 ⟨rfl, os1, n1, rfl⟩))
      all_goals go_ret2
      all_goals exact ⟨rfl, (by repeat (first | assumption | exact Grew.refl _ | apply Grew.drew | apply Grew.drewN | apply Grew.alloc | apply Grew.more))⟩
  · obtain ⟨e1, e2⟩ := t1 h2
    rw [e1, e2]
    clear t1 t2 t3 t4 e1 e2
    go_enter Tryz.func90, Tryz.ntmps90
    go_wp2_with (first
      | (go_at_call_of 103 (Value.int IntKind.i64 2); refine (O2 _).mono ?_; rintro e w1 ⟨rfl, os1, n1, rfl⟩)
      | (go_at_call_of 103 (Value.int IntKind.i64 1); refine (O1 _).mono ?_; rintro e w1 ⟨rfl, os1, n1, rfl⟩)
      | (go_at_call_of 103 (Value.int IntKind.i64 0); refine (O0 _).mono ?_; rintro e w1 ⟨rfl, os1, n1, rfl⟩))
    all_goals go_ret2
    all_goals exact ⟨rfl, (by repeat (first | assumption | exact Grew.refl _ | apply Grew.drew | apply Grew.drewN | apply Grew.alloc | apply Grew.more))⟩

end Go.Proofs.YtgapmofhnjfdiaaGreatDoor

namespace Go.Proofs.YtgapmofhnjfdiaaGreatDoor
open Go.RowKit Go.Shelf
attribute [local go_sem] cell?_more frozen?_more setCell_more more_lt more_more more_drew more_drewN setCell_drewN alloc_drewN

/-- Are two values the same? -/
def sameV (a b : Va) : Bool := a.k == b.k && (a.n == b.n && (a.m == b.m && (ByteArray.mk a.b.toArray).toList == (ByteArray.mk b.b.toArray).toList))
theorem sameV_iff (a b : Va) : sameV a b = true ↔ a = b := by
  obtain ⟨k, n, m, l⟩ := a
  obtain ⟨k', n', m', l'⟩ := b
  unfold sameV
  rw [Lib.toList_data, Lib.toList_data]
  simp
instance : DecidableEq Va := fun a b => decidable_of_iff (sameV a b = true) (sameV_iff a b)

end Go.Proofs.YtgapmofhnjfdiaaGreatDoor

namespace Go.Proofs.YtgapmofhnjfdiaaGreatDoor
open Go.RowKit Go.Shelf
attribute [local go_sem] cell?_more frozen?_more setCell_more more_lt more_more more_drew more_drewN setCell_drewN alloc_drewN

theorem eqVs (k n m k' n' m' : Int) (b b' : ByteArray) (w : World) : (Op.equalIn 10000 30 (va k n m b) (va k' n' m' b')).run Tryz.prog w = .ok (sameV ⟨k, n, m, b.data.toList⟩ ⟨k', n', m', b'.data.toList⟩) w := eqVa k n m k' n' m' b b' w
attribute [local go_sem high] eqVs

theorem rcmpI_any (x y : Int) (w : World) : Calls Tryz.prog 141 #[.int .i64 x, .int .i64 y] w fun e w' => e = .returned (.int .i64 (numc x y)) ∧ w = w' := by
  by_cases h : x < y
  · rw [show numc x y = -1 by unfold numc; rw [if_pos h]]
    go_enter Tryz.func141, Tryz.ntmps141
    go_wp2
    all_goals go_ret
    all_goals exact ⟨rfl, rfl⟩
  · by_cases h' : y < x
    · rw [show numc x y = 1 by unfold numc; rw [if_neg h, if_pos h']]
      go_enter Tryz.func141, Tryz.ntmps141
      go_wp2
      all_goals go_ret
      all_goals exact ⟨rfl, rfl⟩
    · rw [show numc x y = 0 by unfold numc; rw [if_neg h, if_neg (by omega)]]
      go_enter Tryz.func141, Tryz.ntmps141
      go_wp2
      all_goals go_ret
      all_goals exact ⟨rfl, rfl⟩

/-- The class of a kind in the order. -/
def clsK (k : Int) : Int := if k = 1 ∨ k = 2 then 2 else if k = 3 then 3 else if k = 4 then 4 else if k = 5 then 5 else 1
theorem class_any (k : Int) (w : World) : Calls Tryz.prog 142 #[.int .i64 k] w fun e w' => e = .returned (.int .i64 (clsK k)) ∧ w = w' := by
  by_cases h1 : k = 1
  · subst h1
    rw [show clsK 1 = 2 by decide]
    go_enter Tryz.func142, Tryz.ntmps142
    go_wp2
    all_goals go_ret
    all_goals exact ⟨rfl, rfl⟩
  have c1 : (k == 1) = false := by simpa using h1
  by_cases h2 : k = 2
  · subst h2
    rw [show clsK 2 = 2 by decide]
    go_enter Tryz.func142, Tryz.ntmps142
    go_wp2
    all_goals go_ret
    all_goals exact ⟨rfl, rfl⟩
  have c2 : (k == 2) = false := by simpa using h2
  by_cases h3 : k = 3
  · subst h3
    rw [show clsK 3 = 3 by decide]
    go_enter Tryz.func142, Tryz.ntmps142
    go_wp2
    all_goals go_ret
    all_goals exact ⟨rfl, rfl⟩
  have c3 : (k == 3) = false := by simpa using h3
  by_cases h4 : k = 4
  · subst h4
    rw [show clsK 4 = 4 by decide]
    go_enter Tryz.func142, Tryz.ntmps142
    go_wp2
    all_goals go_ret
    all_goals exact ⟨rfl, rfl⟩
  have c4 : (k == 4) = false := by simpa using h4
  by_cases h5 : k = 5
  · subst h5
    rw [show clsK 5 = 5 by decide]
    go_enter Tryz.func142, Tryz.ntmps142
    go_wp2
    all_goals go_ret
    all_goals exact ⟨rfl, rfl⟩
  have c5 : (k == 5) = false := by simpa using h5
  rw [show clsK k = 1 by simp [clsK, h1, h2, h3, h4, h5]]
  go_enter Tryz.func142, Tryz.ntmps142
  go_wp2
  all_goals go_ret
  all_goals exact ⟨rfl, rfl⟩

set_option maxHeartbeats 1000000 in
theorem first_of (b n : Nat) (zs : List Int) (w : World) (hn : zs.length = n) (hl : n ≤ 1000) (hc : ∀ i (h : i < zs.length), w.cell? ⟨b, i, none⟩ = some (.int .i64 zs[i])) :
    Calls Tryz.prog 140 #[.slice (some ⟨b, 0, none⟩) n n] w fun e w' => e = .returned (.int .i64 (orL zs)) ∧ w = w' := by
  obtain ⟨R, hR⟩ : ∃ R, R = orL zs := ⟨_, rfl⟩
  rw [← hR]
  have HN : Hid (zs.length = n) := hn
  have HC : Hid (∀ i (h : i < zs.length), w.cell? ⟨b, i, none⟩ = some (.int .i64 zs[i])) := hc
  have HR : Hid (R = orL zs) := hR
  clear hn hc hR
  go_enter Tryz.func140, Tryz.ntmps140
  go_wp2
  go_loopw [3] (fun r wr => ∃ k : Nat, r = .int .i64 (k : Int) ∧ k ≤ n ∧ wr = w ∧ Hid (∀ i (h : i < zs.length), i < k → zs[i] = 0)) (fun r _ => n - (intOf r).toNat)
  case atStart => exact ⟨0, rfl, Nat.zero_le _, rfl, fun i _ h => by omega⟩
  case round =>
    obtain ⟨k, rfl, hk, rfl, hA⟩ := hrel
    by_cases hlt : k < n
    · have hlt' : (k : Int) < (n : Int) := by omega
      have k0 : (0 : Int) ≤ (k : Int) := by omega
      have hkl : k < zs.length := by rw [HN.out]; exact hlt
      have c0 := HC.out k hkl
      have hd := orL_drop zs k hA.out
      rw [List.drop_eq_getElem_cons hkl] at hd
      obtain ⟨z, he⟩ : ∃ z, z = zs[k] := ⟨_, rfl⟩
      rw [← he] at c0 hd
      have HZ : Hid (z = zs[k]) := he
      clear he
      by_cases hz : z = 0
      · have hz' : (z == 0) = true := by simpa using hz
        clear hd
        go_wp2
        go_roundw
        case rel =>
          refine ⟨k + 1, by go_num, by omega, by first | rfl | trivial, fun i hi hik => ?_⟩
          by_cases h : i < k
          · exact hA.out i hi h
          · have : i = k := by omega
            subst this
            rw [← HZ.out, hz]
        case measure => simp [intOf]; omega
      · have hz' : (z == 0) = false := by simpa using hz
        have HR' : Hid (R = z) := by
          show R = z
          rw [HR.out, hd]
          simp only [orL]
          rw [orr_ne hz]
        clear hd
        go_wp2
        go_ret
        exact ⟨by rw [HR'.out]; rfl, rfl⟩
    · have hlt' : ¬ (k : Int) < (n : Int) := by omega
      have HR' : Hid (R = 0) := by
        show R = 0
        rw [HR.out, orL_drop zs k hA.out, List.drop_eq_nil_of_le (by have := HN.out; omega)]
        rfl
      go_wp2
      go_ret
      exact ⟨by rw [HR'.out]; rfl, rfl⟩

end Go.Proofs.YtgapmofhnjfdiaaGreatDoor
