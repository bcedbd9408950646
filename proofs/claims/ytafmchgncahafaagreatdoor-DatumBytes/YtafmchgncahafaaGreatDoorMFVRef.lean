/-
  The listed table of powers as the walks ask for it.
  The contracts of the document's Right and Same.
-/
import Derived.Test.YtafmchgncahafaaGreatDoorMDVCmp
import Derived.Test.YtafmchgncahafaaGreatDoorVCmp2
import Derived.Test.YtafmchgncahafaaGreatDoorMAVText
import Derived.Test.YtafmchgncahafaaGreatDoorMpVKeyM
namespace Go.Proofs.YtafmchgncahafaaGreatDoor
open Go.ChangeShapes Go.WideShapes Go.ChangeAt Go.WideMaps Go.WideElems Go.RowKit Go.Shelf Go.Lib

end Go.Proofs.YtafmchgncahafaaGreatDoor

namespace Go.Proofs.YtafmchgncahafaaGreatDoor
open Go.RowKit Go.Shelf
attribute [local go_sem] cell?_more frozen?_more setCell_more more_lt more_more more_drew more_drewN setCell_drewN alloc_drewN

theorem emptyE (b : ByteArray) : b.toList.isEmpty = (b.data.toList == []) := by
  rw [Lib.toList_data]
  cases b.data.toList <;> rfl

theorem rpoint_any (x y : Int) (w : World) : Calls Tryz.prog 69 #[dv x y] w fun e w' => e = .returned (.bool (ok1 x && ok1 y)) ∧ Grew w w' := by
  go_enter Tryz.func69, Tryz.ntmps69
  go_wp2
  all_goals go_ret
  all_goals refine ⟨ret_bool ?_, (by repeat (first | exact Grew.refl _ | apply Grew.drew | apply Grew.drewN | apply Grew.alloc | apply Grew.more))⟩
  all_goals simp_all [ok1]
  all_goals try omega

set_option maxHeartbeats 1000000 in
theorem rright_0 (n m : Int) (b : ByteArray) (w : World) : Calls Tryz.prog 43 #[va 0 n m b] w fun e w' => e = .returned (.bool (vrt 0 n m b)) ∧ Below w.heap.size w w' := by
  go_enter Tryz.func43, Tryz.ntmps43
  go_wp2
  all_goals go_ret
  all_goals refine ⟨ret_bool ?_, Grew.below (by repeat (first | exact Grew.refl _ | apply Grew.drew | apply Grew.drewN | apply Grew.alloc | apply Grew.more))⟩
  all_goals simp_all [vrt, vft, emptyE]

set_option maxHeartbeats 1000000 in
theorem rright_1 (n m : Int) (b : ByteArray) (w : World) : Calls Tryz.prog 43 #[va 1 n m b] w fun e w' => e = .returned (.bool (vrt 1 n m b)) ∧ Below w.heap.size w w' := by
  go_enter Tryz.func43, Tryz.ntmps43
  go_wp2
  all_goals go_ret
  all_goals refine ⟨ret_bool ?_, Grew.below (by repeat (first | exact Grew.refl _ | apply Grew.drew | apply Grew.drewN | apply Grew.alloc | apply Grew.more))⟩
  all_goals simp_all [vrt, vft, emptyE]

set_option maxHeartbeats 1000000 in
theorem rright_2 (n m : Int) (b : ByteArray) (w : World) : Calls Tryz.prog 43 #[va 2 n m b] w fun e w' => e = .returned (.bool (vrt 2 n m b)) ∧ Below w.heap.size w w' := by
  go_enter Tryz.func43, Tryz.ntmps43
  go_wp2
  all_goals go_ret
  all_goals refine ⟨ret_bool ?_, Grew.below (by repeat (first | exact Grew.refl _ | apply Grew.drew | apply Grew.drewN | apply Grew.alloc | apply Grew.more))⟩
  all_goals simp [vrt, vft, emptyE, rightS]
  all_goals first | omega | (simp_all; try omega)

set_option maxHeartbeats 1000000 in
theorem rright_4 (n m : Int) (b : ByteArray) (w : World) : Calls Tryz.prog 43 #[va 4 n m b] w fun e w' => e = .returned (.bool (vrt 4 n m b)) ∧ Below w.heap.size w w' := by
  go_enter Tryz.func43, Tryz.ntmps43
  go_wp2
  all_goals go_ret
  all_goals refine ⟨ret_bool ?_, Grew.below (by repeat (first | exact Grew.refl _ | apply Grew.drew | apply Grew.drewN | apply Grew.alloc | apply Grew.more))⟩
  all_goals simp_all [vrt, vft, emptyE]

set_option maxHeartbeats 1000000 in
theorem rright_5 (n m : Int) (b : ByteArray) (w : World) : Calls Tryz.prog 43 #[va 5 n m b] w fun e w' => e = .returned (.bool (vrt 5 n m b)) ∧ Below w.heap.size w w' := by
  have R := fun W => rpoint_any n m W
  have hv : vrt 5 n m b = ((ok1 n && ok1 m) && (b.data.toList == [])) := by simp [vrt, vft, Bool.and_comm]
  rw [hv]
  generalize (ok1 n && ok1 m) = g at *
  clear hv
  cases g
  all_goals
    go_enter Tryz.func43, Tryz.ntmps43
    go_wp2_with (go_at_call 69; refine (R _).mono ?_; rintro e w1 ⟨rfl, os1, n1, rfl⟩)
    all_goals go_ret
    all_goals refine ⟨ret_bool ?_, Grew.below (by repeat (first | exact Grew.refl _ | apply Grew.drew | apply Grew.drewN | apply Grew.alloc | apply Grew.more))⟩
    all_goals simp [emptyE]

set_option maxHeartbeats 1000000 in
theorem rright_3 (n m : Int) (b : ByteArray) (w : World) : Calls Tryz.prog 43 #[va 3 n m b] w fun e w' => e = .returned (.bool (vrt 3 n m b)) ∧ Below w.heap.size w w' := by
  by_cases hn : n = 0
  · subst hn
    by_cases hm : m = 0
    · subst hm
      by_cases hb : b.size ≤ 256
      · have V := fun W => good_any b W (by omega)
        have hv : vrt 3 0 0 b = Lib.validD b.data.toList := by simp [vrt, vft, hb]
        rw [hv]
        have hb' : (b.size : Int) ≤ 256 := by omega
        generalize Lib.validD b.data.toList = g at *
        clear hv hb
        go_enter Tryz.func43, Tryz.ntmps43
        go_wp2_with (go_at_call 68; refine (V _).mono ?_; rintro e w1 ⟨rfl, bb1⟩)
        all_goals go_ret
        all_goals exact ⟨rfl, below_trans (Grew.below (by repeat (first | exact Grew.refl _ | apply Grew.drew | apply Grew.drewN | apply Grew.alloc | apply Grew.more))) bb1⟩
      · have hv : vrt 3 0 0 b = false := by simp [vrt, vft, hb]
        rw [hv]
        have hb' : ¬ (b.size : Int) ≤ 256 := by omega
        clear hv hb
        go_enter Tryz.func43, Tryz.ntmps43
        go_wp2
        all_goals go_ret
        all_goals exact ⟨rfl, Grew.below (by repeat (first | exact Grew.refl _ | apply Grew.drew | apply Grew.drewN | apply Grew.alloc | apply Grew.more))⟩
    · have hv : vrt 3 0 m b = false := by simp [vrt, hm]
      have hm' : (m == 0) = false := by simpa using hm
      rw [hv]
      clear hv hm
      go_enter Tryz.func43, Tryz.ntmps43
      go_wp2
      all_goals go_ret
      all_goals exact ⟨rfl, Grew.below (by repeat (first | exact Grew.refl _ | apply Grew.drew | apply Grew.drewN | apply Grew.alloc | apply Grew.more))⟩
  · have hv : vrt 3 n m b = false := by simp [vrt, hn]
    have hn' : (n == 0) = false := by simpa using hn
    rw [hv]
    clear hv hn
    go_enter Tryz.func43, Tryz.ntmps43
    go_wp2
    all_goals go_ret
    all_goals exact ⟨rfl, Grew.below (by repeat (first | exact Grew.refl _ | apply Grew.drew | apply Grew.drewN | apply Grew.alloc | apply Grew.more))⟩

set_option maxHeartbeats 1000000 in
theorem rright_o (k : Int) (n m : Int) (b : ByteArray) (w : World) (h0 : k ≠ 0) (h1 : k ≠ 1) (h2 : k ≠ 2) (h3 : k ≠ 3) (h4 : k ≠ 4) (h5 : k ≠ 5) : Calls Tryz.prog 43 #[va k n m b] w fun e w' => e = .returned (.bool (vrt k n m b)) ∧ Below w.heap.size w w' := by
  have c0 : (k == 0) = false := by simpa using h0
  have c1 : (k == 1) = false := by simpa using h1
  have c2 : (k == 2) = false := by simpa using h2
  have c3 : (k == 3) = false := by simpa using h3
  have c4 : (k == 4) = false := by simpa using h4
  have c5 : (k == 5) = false := by simpa using h5
  have hv : vrt k n m b = false := by simp [vrt, vft, h0, h1, h2, h3, h4, h5]
  rw [hv]
  clear hv
  go_enter Tryz.func43, Tryz.ntmps43
  go_wp2
  all_goals go_ret
  all_goals exact ⟨rfl, Grew.below (by repeat (first | exact Grew.refl _ | apply Grew.drew | apply Grew.drewN | apply Grew.alloc | apply Grew.more))⟩

/-- The document's Right says what the program's does. -/
theorem rright_any (k n m : Int) (b : ByteArray) (w : World) : Calls Tryz.prog 43 #[va k n m b] w fun e w' => e = .returned (.bool (vrt k n m b)) ∧ Below w.heap.size w w' := by
  by_cases h0 : k = 0
  · subst h0; exact rright_0 n m b w
  by_cases h1 : k = 1
  · subst h1; exact rright_1 n m b w
  by_cases h2 : k = 2
  · subst h2; exact rright_2 n m b w
  by_cases h3 : k = 3
  · subst h3; exact rright_3 n m b w
  by_cases h4 : k = 4
  · subst h4; exact rright_4 n m b w
  by_cases h5 : k = 5
  · subst h5; exact rright_5 n m b w
  exact rright_o k n m b w h0 h1 h2 h3 h4 h5

set_option maxHeartbeats 1000000 in
theorem rsame_any (k n m : Int) (b : ByteArray) (k' n' m' : Int) (b' : ByteArray) (w : World) :
    Calls Tryz.prog 34 #[va k n m b, va k' n' m' b'] w fun e w' => e = .returned (.bool (k == k' && (n == n' && (m == m' && b.toList == b'.toList)))) ∧ Grew w w' := by
  go_enter Tryz.func34, Tryz.ntmps34
  go_wp2
  all_goals go_ret
  all_goals refine ⟨ret_bool ?_, (by repeat (first | exact Grew.refl _ | apply Grew.drew | apply Grew.drewN | apply Grew.alloc | apply Grew.more))⟩
  all_goals simp_all

end Go.Proofs.YtafmchgncahafaaGreatDoor
