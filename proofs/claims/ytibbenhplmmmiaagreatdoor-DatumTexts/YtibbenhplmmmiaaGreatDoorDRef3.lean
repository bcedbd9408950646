/-
  The document's wide numbers: less, zero.
-/
import Derived.Test.YtibbenhplmmmiaaGreatDoorDRef1
namespace Go.Proofs.YtibbenhplmmmiaaGreatDoor
open Go.RowKit

set_option maxRecDepth 5000 in
set_option maxHeartbeats 4000000 in
theorem zero_any (a0 a1 a2 a3 a4 a5 : Nat) (sa : Bool) (w : World) :
    Calls Tryz.prog 81 #[wv a0 a1 a2 a3 a4 a5 sa] w fun e w' => e = .returned (.bool (decide (val6 a0 a1 a2 a3 a4 a5 = 0))) ∧ Grew w w' := by
  by_cases h0 : a0 = 0
  · subst h0
    by_cases h1 : a1 = 0
    · subst h1
      by_cases h2 : a2 = 0
      · subst h2
        by_cases h3 : a3 = 0
        · subst h3
          by_cases h4 : a4 = 0
          · subst h4
            by_cases h5 : a5 = 0
            · subst h5
              go_enter Tryz.func81, Tryz.ntmps81
              go_wp2_with fail
              refine wp_loop_rounds 7 ?_
              rw [rounds_succ]
              go_wp2_with fail
              rw [rounds_succ]
              go_wp2_with fail
              rw [rounds_succ]
              go_wp2_with fail
              rw [rounds_succ]
              go_wp2_with fail
              rw [rounds_succ]
              go_wp2_with fail
              rw [rounds_succ]
              go_wp2_with fail
              rw [rounds_succ]
              go_wp2_with fail
              go_ret
              exact ⟨ret_bool (by simp [val6]), by repeat (first | exact Grew.refl _ | apply Grew.drew | apply Grew.drewN | apply Grew.alloc)⟩
            · have hi5 : ¬ (a5 : Int) = 0 := by omega
              go_enter Tryz.func81, Tryz.ntmps81
              go_wp2_with fail
              refine wp_loop_rounds 7 ?_
              rw [rounds_succ]
              go_wp2_with fail
              rw [rounds_succ]
              go_wp2_with fail
              rw [rounds_succ]
              go_wp2_with fail
              rw [rounds_succ]
              go_wp2_with fail
              rw [rounds_succ]
              go_wp2_with fail
              rw [rounds_succ]
              go_wp2_with fail
              go_ret
              exact ⟨ret_bool (by symm; rw [decide_eq_false_iff_not]; unfold val6; omega), by repeat (first | exact Grew.refl _ | apply Grew.drew | apply Grew.drewN | apply Grew.alloc)⟩
          · have hi4 : ¬ (a4 : Int) = 0 := by omega
            go_enter Tryz.func81, Tryz.ntmps81
            go_wp2_with fail
            refine wp_loop_rounds 7 ?_
            rw [rounds_succ]
            go_wp2_with fail
            rw [rounds_succ]
            go_wp2_with fail
            rw [rounds_succ]
            go_wp2_with fail
            rw [rounds_succ]
            go_wp2_with fail
            rw [rounds_succ]
            go_wp2_with fail
            go_ret
            exact ⟨ret_bool (by symm; rw [decide_eq_false_iff_not]; unfold val6; omega), by repeat (first | exact Grew.refl _ | apply Grew.drew | apply Grew.drewN | apply Grew.alloc)⟩
        · have hi3 : ¬ (a3 : Int) = 0 := by omega
          go_enter Tryz.func81, Tryz.ntmps81
          go_wp2_with fail
          refine wp_loop_rounds 7 ?_
          rw [rounds_succ]
          go_wp2_with fail
          rw [rounds_succ]
          go_wp2_with fail
          rw [rounds_succ]
          go_wp2_with fail
          rw [rounds_succ]
          go_wp2_with fail
          go_ret
          exact ⟨ret_bool (by symm; rw [decide_eq_false_iff_not]; unfold val6; omega), by repeat (first | exact Grew.refl _ | apply Grew.drew | apply Grew.drewN | apply Grew.alloc)⟩
      · have hi2 : ¬ (a2 : Int) = 0 := by omega
        go_enter Tryz.func81, Tryz.ntmps81
        go_wp2_with fail
        refine wp_loop_rounds 7 ?_
        rw [rounds_succ]
        go_wp2_with fail
        rw [rounds_succ]
        go_wp2_with fail
        rw [rounds_succ]
        go_wp2_with fail
        go_ret
        exact ⟨ret_bool (by symm; rw [decide_eq_false_iff_not]; unfold val6; omega), by repeat (first | exact Grew.refl _ | apply Grew.drew | apply Grew.drewN | apply Grew.alloc)⟩
    · have hi1 : ¬ (a1 : Int) = 0 := by omega
      go_enter Tryz.func81, Tryz.ntmps81
      go_wp2_with fail
      refine wp_loop_rounds 7 ?_
      rw [rounds_succ]
      go_wp2_with fail
      rw [rounds_succ]
      go_wp2_with fail
      go_ret
      exact ⟨ret_bool (by symm; rw [decide_eq_false_iff_not]; unfold val6; omega), by repeat (first | exact Grew.refl _ | apply Grew.drew | apply Grew.drewN | apply Grew.alloc)⟩
  · have hi0 : ¬ (a0 : Int) = 0 := by omega
    go_enter Tryz.func81, Tryz.ntmps81
    go_wp2_with fail
    refine wp_loop_rounds 7 ?_
    rw [rounds_succ]
    go_wp2_with fail
    go_ret
    exact ⟨ret_bool (by symm; rw [decide_eq_false_iff_not]; unfold val6; omega), by repeat (first | exact Grew.refl _ | apply Grew.drew | apply Grew.drewN | apply Grew.alloc)⟩
end Go.Proofs.YtibbenhplmmmiaaGreatDoor
