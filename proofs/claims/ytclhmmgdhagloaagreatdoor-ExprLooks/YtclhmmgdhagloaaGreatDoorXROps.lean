/-
  The document's operands of a node.
-/
import Derived.Test.YtclhmmgdhagloaaGreatDoorMSXROp
namespace Go.Proofs.YtclhmmgdhagloaaGreatDoor
open Go.RowKit Go.Shelf
attribute [local go_sem] cell?_more frozen?_more setCell_more more_lt more_more more_drew more_drewN setCell_drewN alloc_drewN

set_option maxHeartbeats 2000000 in
theorem ro1_t (TB NB VB : ByteArray) (vk vn vm a : Int) (w : World) (tE : TB.toList.isEmpty = false) 
    (sv : Bool) (SA : ∀ W, Calls Tryz.prog 32 #[va vk vn vm VB, va 0 0 0 ⟨#[]⟩] W fun e w' => e = .returned (.bool sv) ∧ Grew W w')  :
    Calls Tryz.prog 40 #[.agg #[.int .i64 1, .string TB, .string NB, .int .i64 vk, .int .i64 vn, .int .i64 vm, .string VB, .int .i64 a]] w fun e w' => e = .returned (.int .i64 (-1)) ∧ Below w.heap.size w w' := by
  have Z := Cbox.new w #[.int .i64 1, .string TB, .string NB, .int .i64 vk, .int .i64 vn, .int .i64 vm, .string VB, .int .i64 a] 67
  have A0 := (Below.refl w.heap.size w).alloc (Nat.le_refl _) (.cells #[.int .i64 1, .string TB, .string NB, .int .i64 vk, .int .i64 vn, .int .i64 vm, .string VB, .int .i64 a] 67)
  go_enter Tryz.func40, Tryz.ntmps40
  go_wp2_with (first
    | (go_at_call 32; refine (SA _).mono ?_; rintro e w1 ⟨rfl, g1⟩; have b1 := g1.below; have B1 := A0.trans (b1.mono A0.size); have z0 := (Z.later b1).at 0; have z1 := (Z.later b1).at 1; have z2 := (Z.later b1).at 2; have z3 := (Z.later b1).at 3; have z4 := (Z.later b1).at 4; have z5 := (Z.later b1).at 5; have z6 := (Z.later b1).at 6; have z7 := (Z.later b1).at 7; have zl := (Z.later b1).lt)
)
  go_ret
  exact ⟨rfl, B1⟩

set_option maxHeartbeats 2000000 in
theorem ro1_n (TB NB VB : ByteArray) (vk vn vm a : Int) (w : World) (tE : TB.toList.isEmpty = true) (nE : NB.toList.isEmpty = false) 
    (sv : Bool) (SA : ∀ W, Calls Tryz.prog 32 #[va vk vn vm VB, va 0 0 0 ⟨#[]⟩] W fun e w' => e = .returned (.bool sv) ∧ Grew W w')  :
    Calls Tryz.prog 40 #[.agg #[.int .i64 1, .string TB, .string NB, .int .i64 vk, .int .i64 vn, .int .i64 vm, .string VB, .int .i64 a]] w fun e w' => e = .returned (.int .i64 (-1)) ∧ Below w.heap.size w w' := by
  have Z := Cbox.new w #[.int .i64 1, .string TB, .string NB, .int .i64 vk, .int .i64 vn, .int .i64 vm, .string VB, .int .i64 a] 67
  have A0 := (Below.refl w.heap.size w).alloc (Nat.le_refl _) (.cells #[.int .i64 1, .string TB, .string NB, .int .i64 vk, .int .i64 vn, .int .i64 vm, .string VB, .int .i64 a] 67)
  go_enter Tryz.func40, Tryz.ntmps40
  go_wp2_with (first
    | (go_at_call 32; refine (SA _).mono ?_; rintro e w1 ⟨rfl, g1⟩; have b1 := g1.below; have B1 := A0.trans (b1.mono A0.size); have z0 := (Z.later b1).at 0; have z1 := (Z.later b1).at 1; have z2 := (Z.later b1).at 2; have z3 := (Z.later b1).at 3; have z4 := (Z.later b1).at 4; have z5 := (Z.later b1).at 5; have z6 := (Z.later b1).at 6; have z7 := (Z.later b1).at 7; have zl := (Z.later b1).lt)
)
  go_ret
  exact ⟨rfl, B1⟩

set_option maxHeartbeats 2000000 in
theorem ro1_a (TB NB VB : ByteArray) (vk vn vm a : Int) (w : World) (tE : TB.toList.isEmpty = true) (nE : NB.toList.isEmpty = true) (aE : ¬ a = 0) 
    (sv : Bool) (SA : ∀ W, Calls Tryz.prog 32 #[va vk vn vm VB, va 0 0 0 ⟨#[]⟩] W fun e w' => e = .returned (.bool sv) ∧ Grew W w')  :
    Calls Tryz.prog 40 #[.agg #[.int .i64 1, .string TB, .string NB, .int .i64 vk, .int .i64 vn, .int .i64 vm, .string VB, .int .i64 a]] w fun e w' => e = .returned (.int .i64 (-1)) ∧ Below w.heap.size w w' := by
  have Z := Cbox.new w #[.int .i64 1, .string TB, .string NB, .int .i64 vk, .int .i64 vn, .int .i64 vm, .string VB, .int .i64 a] 67
  have A0 := (Below.refl w.heap.size w).alloc (Nat.le_refl _) (.cells #[.int .i64 1, .string TB, .string NB, .int .i64 vk, .int .i64 vn, .int .i64 vm, .string VB, .int .i64 a] 67)
  go_enter Tryz.func40, Tryz.ntmps40
  go_wp2_with (first
    | (go_at_call 32; refine (SA _).mono ?_; rintro e w1 ⟨rfl, g1⟩; have b1 := g1.below; have B1 := A0.trans (b1.mono A0.size); have z0 := (Z.later b1).at 0; have z1 := (Z.later b1).at 1; have z2 := (Z.later b1).at 2; have z3 := (Z.later b1).at 3; have z4 := (Z.later b1).at 4; have z5 := (Z.later b1).at 5; have z6 := (Z.later b1).at 6; have z7 := (Z.later b1).at 7; have zl := (Z.later b1).lt)
)
  go_ret
  exact ⟨rfl, B1⟩

set_option maxHeartbeats 2000000 in
theorem ro1_false (TB NB VB : ByteArray) (vk vn vm : Int) (w : World) (tE : TB.toList.isEmpty = true) (nE : NB.toList.isEmpty = true) 
    (sv : Bool) (SA : ∀ W, Calls Tryz.prog 32 #[va vk vn vm VB, va 0 0 0 ⟨#[]⟩] W fun e w' => e = .returned (.bool sv) ∧ Grew W w') (L : ∀ W, Calls Tryz.prog 66 #[va vk vn vm VB] W fun e w' => e = .returned (.bool false) ∧ Below W.heap.size W w') :
    Calls Tryz.prog 40 #[.agg #[.int .i64 1, .string TB, .string NB, .int .i64 vk, .int .i64 vn, .int .i64 vm, .string VB, .int .i64 0]] w fun e w' => e = .returned (.int .i64 (-1)) ∧ Below w.heap.size w w' := by
  have Z := Cbox.new w #[.int .i64 1, .string TB, .string NB, .int .i64 vk, .int .i64 vn, .int .i64 vm, .string VB, .int .i64 0] 67
  have A0 := (Below.refl w.heap.size w).alloc (Nat.le_refl _) (.cells #[.int .i64 1, .string TB, .string NB, .int .i64 vk, .int .i64 vn, .int .i64 vm, .string VB, .int .i64 0] 67)
  go_enter Tryz.func40, Tryz.ntmps40
  go_wp2_with (first
    | (go_at_call 32; refine (SA _).mono ?_; rintro e w1 ⟨rfl, g1⟩; have b1 := g1.below; have B1 := A0.trans (b1.mono A0.size); have z0 := (Z.later b1).at 0; have z1 := (Z.later b1).at 1; have z2 := (Z.later b1).at 2; have z3 := (Z.later b1).at 3; have z4 := (Z.later b1).at 4; have z5 := (Z.later b1).at 5; have z6 := (Z.later b1).at 6; have z7 := (Z.later b1).at 7; have zl := (Z.later b1).lt)
    | (go_at_call 66; refine (L _).mono ?_; rintro e w2 ⟨rfl, b2⟩))
  go_ret
  exact ⟨rfl, by first | exact B1 | exact below_trans B1 b2 | exact below_trans (below_trans B1 b2) b3⟩

set_option maxHeartbeats 2000000 in
theorem ro1_true (TB NB VB : ByteArray) (vk vn vm : Int) (w : World) (tE : TB.toList.isEmpty = true) (nE : NB.toList.isEmpty = true) 
    (sv : Bool) (SA : ∀ W, Calls Tryz.prog 32 #[va vk vn vm VB, va 0 0 0 ⟨#[]⟩] W fun e w' => e = .returned (.bool sv) ∧ Grew W w') (L : ∀ W, Calls Tryz.prog 66 #[va vk vn vm VB] W fun e w' => e = .returned (.bool true) ∧ Below W.heap.size W w') :
    Calls Tryz.prog 40 #[.agg #[.int .i64 1, .string TB, .string NB, .int .i64 vk, .int .i64 vn, .int .i64 vm, .string VB, .int .i64 0]] w fun e w' => e = .returned (.int .i64 0) ∧ Below w.heap.size w w' := by
  have Z := Cbox.new w #[.int .i64 1, .string TB, .string NB, .int .i64 vk, .int .i64 vn, .int .i64 vm, .string VB, .int .i64 0] 67
  have A0 := (Below.refl w.heap.size w).alloc (Nat.le_refl _) (.cells #[.int .i64 1, .string TB, .string NB, .int .i64 vk, .int .i64 vn, .int .i64 vm, .string VB, .int .i64 0] 67)
  go_enter Tryz.func40, Tryz.ntmps40
  go_wp2_with (first
    | (go_at_call 32; refine (SA _).mono ?_; rintro e w1 ⟨rfl, g1⟩; have b1 := g1.below; have B1 := A0.trans (b1.mono A0.size); have z0 := (Z.later b1).at 0; have z1 := (Z.later b1).at 1; have z2 := (Z.later b1).at 2; have z3 := (Z.later b1).at 3; have z4 := (Z.later b1).at 4; have z5 := (Z.later b1).at 5; have z6 := (Z.later b1).at 6; have z7 := (Z.later b1).at 7; have zl := (Z.later b1).lt)
    | (go_at_call 66; refine (L _).mono ?_; rintro e w2 ⟨rfl, b2⟩))
  go_ret
  exact ⟨rfl, by first | exact B1 | exact below_trans B1 b2 | exact below_trans (below_trans B1 b2) b3⟩

set_option maxHeartbeats 2000000 in
theorem ro2_ve (TB NB VB : ByteArray) (vk vn vm a : Int) (w : World) (tE : TB.toList.isEmpty = true) 
    (SA : ∀ W, Calls Tryz.prog 32 #[va vk vn vm VB, va 0 0 0 ⟨#[]⟩] W fun e w' => e = .returned (.bool false) ∧ Grew W w')  :
    Calls Tryz.prog 40 #[.agg #[.int .i64 2, .string TB, .string NB, .int .i64 vk, .int .i64 vn, .int .i64 vm, .string VB, .int .i64 a]] w fun e w' => e = .returned (.int .i64 (-1)) ∧ Below w.heap.size w w' := by
  have Z := Cbox.new w #[.int .i64 2, .string TB, .string NB, .int .i64 vk, .int .i64 vn, .int .i64 vm, .string VB, .int .i64 a] 67
  have A0 := (Below.refl w.heap.size w).alloc (Nat.le_refl _) (.cells #[.int .i64 2, .string TB, .string NB, .int .i64 vk, .int .i64 vn, .int .i64 vm, .string VB, .int .i64 a] 67)
  go_enter Tryz.func40, Tryz.ntmps40
  go_wp2_with (first
    | (go_at_call 32; refine (SA _).mono ?_; rintro e w1 ⟨rfl, g1⟩; have b1 := g1.below; have B1 := A0.trans (b1.mono A0.size); have z0 := (Z.later b1).at 0; have z1 := (Z.later b1).at 1; have z2 := (Z.later b1).at 2; have z3 := (Z.later b1).at 3; have z4 := (Z.later b1).at 4; have z5 := (Z.later b1).at 5; have z6 := (Z.later b1).at 6; have z7 := (Z.later b1).at 7; have zl := (Z.later b1).lt)
)
  go_ret
  exact ⟨rfl, B1⟩

set_option maxHeartbeats 2000000 in
theorem ro2_ae (TB NB VB : ByteArray) (vk vn vm a : Int) (w : World) (tE : TB.toList.isEmpty = true) (aE : ¬ a = 0) 
    (SA : ∀ W, Calls Tryz.prog 32 #[va vk vn vm VB, va 0 0 0 ⟨#[]⟩] W fun e w' => e = .returned (.bool true) ∧ Grew W w')  :
    Calls Tryz.prog 40 #[.agg #[.int .i64 2, .string TB, .string NB, .int .i64 vk, .int .i64 vn, .int .i64 vm, .string VB, .int .i64 a]] w fun e w' => e = .returned (.int .i64 (-1)) ∧ Below w.heap.size w w' := by
  have Z := Cbox.new w #[.int .i64 2, .string TB, .string NB, .int .i64 vk, .int .i64 vn, .int .i64 vm, .string VB, .int .i64 a] 67
  have A0 := (Below.refl w.heap.size w).alloc (Nat.le_refl _) (.cells #[.int .i64 2, .string TB, .string NB, .int .i64 vk, .int .i64 vn, .int .i64 vm, .string VB, .int .i64 a] 67)
  go_enter Tryz.func40, Tryz.ntmps40
  go_wp2_with (first
    | (go_at_call 32; refine (SA _).mono ?_; rintro e w1 ⟨rfl, g1⟩; have b1 := g1.below; have B1 := A0.trans (b1.mono A0.size); have z0 := (Z.later b1).at 0; have z1 := (Z.later b1).at 1; have z2 := (Z.later b1).at 2; have z3 := (Z.later b1).at 3; have z4 := (Z.later b1).at 4; have z5 := (Z.later b1).at 5; have z6 := (Z.later b1).at 6; have z7 := (Z.later b1).at 7; have zl := (Z.later b1).lt)
)
  go_ret
  exact ⟨rfl, B1⟩

set_option maxHeartbeats 2000000 in
theorem ro2_fe (TB NB VB : ByteArray) (vk vn vm : Int) (w : World) (tE : TB.toList.isEmpty = true) 
    (SA : ∀ W, Calls Tryz.prog 32 #[va vk vn vm VB, va 0 0 0 ⟨#[]⟩] W fun e w' => e = .returned (.bool true) ∧ Grew W w') (F1 : ∀ W, Calls Tryz.prog 67 #[.string NB] W fun e w' => e = .returned (.bool false) ∧ Below W.heap.size W w') :
    Calls Tryz.prog 40 #[.agg #[.int .i64 2, .string TB, .string NB, .int .i64 vk, .int .i64 vn, .int .i64 vm, .string VB, .int .i64 0]] w fun e w' => e = .returned (.int .i64 (-1)) ∧ Below w.heap.size w w' := by
  have Z := Cbox.new w #[.int .i64 2, .string TB, .string NB, .int .i64 vk, .int .i64 vn, .int .i64 vm, .string VB, .int .i64 0] 67
  have A0 := (Below.refl w.heap.size w).alloc (Nat.le_refl _) (.cells #[.int .i64 2, .string TB, .string NB, .int .i64 vk, .int .i64 vn, .int .i64 vm, .string VB, .int .i64 0] 67)
  go_enter Tryz.func40, Tryz.ntmps40
  go_wp2_with (first
    | (go_at_call 32; refine (SA _).mono ?_; rintro e w1 ⟨rfl, g1⟩; have b1 := g1.below; have B1 := A0.trans (b1.mono A0.size); have z0 := (Z.later b1).at 0; have z1 := (Z.later b1).at 1; have z2 := (Z.later b1).at 2; have z3 := (Z.later b1).at 3; have z4 := (Z.later b1).at 4; have z5 := (Z.later b1).at 5; have z6 := (Z.later b1).at 6; have z7 := (Z.later b1).at 7; have zl := (Z.later b1).lt)
    | (go_at_call 67; refine (F1 _).mono ?_; rintro e w2 ⟨rfl, b2⟩; have y0 := ((Z.later b1).later b2).at 0; have y1 := ((Z.later b1).later b2).at 1; have y2 := ((Z.later b1).later b2).at 2; have y7 := ((Z.later b1).later b2).at 7; have yl := ((Z.later b1).later b2).lt))
  go_ret
  exact ⟨rfl, by first | exact B1 | exact below_trans B1 b2 | exact below_trans (below_trans B1 b2) b3⟩

set_option maxHeartbeats 2000000 in
theorem ro19_ve (TB NB VB : ByteArray) (vk vn vm a : Int) (w : World) (tE : TB.toList.isEmpty = true) 
    (SA : ∀ W, Calls Tryz.prog 32 #[va vk vn vm VB, va 0 0 0 ⟨#[]⟩] W fun e w' => e = .returned (.bool false) ∧ Grew W w')  :
    Calls Tryz.prog 40 #[.agg #[.int .i64 19, .string TB, .string NB, .int .i64 vk, .int .i64 vn, .int .i64 vm, .string VB, .int .i64 a]] w fun e w' => e = .returned (.int .i64 (-1)) ∧ Below w.heap.size w w' := by
  have Z := Cbox.new w #[.int .i64 19, .string TB, .string NB, .int .i64 vk, .int .i64 vn, .int .i64 vm, .string VB, .int .i64 a] 67
  have A0 := (Below.refl w.heap.size w).alloc (Nat.le_refl _) (.cells #[.int .i64 19, .string TB, .string NB, .int .i64 vk, .int .i64 vn, .int .i64 vm, .string VB, .int .i64 a] 67)
  go_enter Tryz.func40, Tryz.ntmps40
  go_wp2_with (first
    | (go_at_call 32; refine (SA _).mono ?_; rintro e w1 ⟨rfl, g1⟩; have b1 := g1.below; have B1 := A0.trans (b1.mono A0.size); have z0 := (Z.later b1).at 0; have z1 := (Z.later b1).at 1; have z2 := (Z.later b1).at 2; have z3 := (Z.later b1).at 3; have z4 := (Z.later b1).at 4; have z5 := (Z.later b1).at 5; have z6 := (Z.later b1).at 6; have z7 := (Z.later b1).at 7; have zl := (Z.later b1).lt)
)
  go_ret
  exact ⟨rfl, B1⟩

set_option maxHeartbeats 2000000 in
theorem ro19_le (TB NB VB : ByteArray) (vk vn vm a : Int) (w : World) (tE : TB.toList.isEmpty = true) (aE : a < 0) 
    (SA : ∀ W, Calls Tryz.prog 32 #[va vk vn vm VB, va 0 0 0 ⟨#[]⟩] W fun e w' => e = .returned (.bool true) ∧ Grew W w')  :
    Calls Tryz.prog 40 #[.agg #[.int .i64 19, .string TB, .string NB, .int .i64 vk, .int .i64 vn, .int .i64 vm, .string VB, .int .i64 a]] w fun e w' => e = .returned (.int .i64 (-1)) ∧ Below w.heap.size w w' := by
  have Z := Cbox.new w #[.int .i64 19, .string TB, .string NB, .int .i64 vk, .int .i64 vn, .int .i64 vm, .string VB, .int .i64 a] 67
  have A0 := (Below.refl w.heap.size w).alloc (Nat.le_refl _) (.cells #[.int .i64 19, .string TB, .string NB, .int .i64 vk, .int .i64 vn, .int .i64 vm, .string VB, .int .i64 a] 67)
  go_enter Tryz.func40, Tryz.ntmps40
  go_wp2_with (first
    | (go_at_call 32; refine (SA _).mono ?_; rintro e w1 ⟨rfl, g1⟩; have b1 := g1.below; have B1 := A0.trans (b1.mono A0.size); have z0 := (Z.later b1).at 0; have z1 := (Z.later b1).at 1; have z2 := (Z.later b1).at 2; have z3 := (Z.later b1).at 3; have z4 := (Z.later b1).at 4; have z5 := (Z.later b1).at 5; have z6 := (Z.later b1).at 6; have z7 := (Z.later b1).at 7; have zl := (Z.later b1).lt)
)
  go_ret
  exact ⟨rfl, B1⟩

set_option maxHeartbeats 2000000 in
theorem ro19_he (TB NB VB : ByteArray) (vk vn vm a : Int) (w : World) (tE : TB.toList.isEmpty = true) (a0 : ¬ a < 0) (aE : 4 < a) 
    (SA : ∀ W, Calls Tryz.prog 32 #[va vk vn vm VB, va 0 0 0 ⟨#[]⟩] W fun e w' => e = .returned (.bool true) ∧ Grew W w')  :
    Calls Tryz.prog 40 #[.agg #[.int .i64 19, .string TB, .string NB, .int .i64 vk, .int .i64 vn, .int .i64 vm, .string VB, .int .i64 a]] w fun e w' => e = .returned (.int .i64 (-1)) ∧ Below w.heap.size w w' := by
  have Z := Cbox.new w #[.int .i64 19, .string TB, .string NB, .int .i64 vk, .int .i64 vn, .int .i64 vm, .string VB, .int .i64 a] 67
  have A0 := (Below.refl w.heap.size w).alloc (Nat.le_refl _) (.cells #[.int .i64 19, .string TB, .string NB, .int .i64 vk, .int .i64 vn, .int .i64 vm, .string VB, .int .i64 a] 67)
  go_enter Tryz.func40, Tryz.ntmps40
  go_wp2_with (first
    | (go_at_call 32; refine (SA _).mono ?_; rintro e w1 ⟨rfl, g1⟩; have b1 := g1.below; have B1 := A0.trans (b1.mono A0.size); have z0 := (Z.later b1).at 0; have z1 := (Z.later b1).at 1; have z2 := (Z.later b1).at 2; have z3 := (Z.later b1).at 3; have z4 := (Z.later b1).at 4; have z5 := (Z.later b1).at 5; have z6 := (Z.later b1).at 6; have z7 := (Z.later b1).at 7; have zl := (Z.later b1).lt)
)
  go_ret
  exact ⟨rfl, B1⟩

set_option maxHeartbeats 2000000 in
theorem ro19_fe (TB NB VB : ByteArray) (vk vn vm a : Int) (w : World) (tE : TB.toList.isEmpty = true) (a0 : ¬ a < 0) (a4 : ¬ 4 < a) 
    (SA : ∀ W, Calls Tryz.prog 32 #[va vk vn vm VB, va 0 0 0 ⟨#[]⟩] W fun e w' => e = .returned (.bool true) ∧ Grew W w') (F1 : ∀ W, Calls Tryz.prog 67 #[.string NB] W fun e w' => e = .returned (.bool false) ∧ Below W.heap.size W w') :
    Calls Tryz.prog 40 #[.agg #[.int .i64 19, .string TB, .string NB, .int .i64 vk, .int .i64 vn, .int .i64 vm, .string VB, .int .i64 a]] w fun e w' => e = .returned (.int .i64 (-1)) ∧ Below w.heap.size w w' := by
  have Z := Cbox.new w #[.int .i64 19, .string TB, .string NB, .int .i64 vk, .int .i64 vn, .int .i64 vm, .string VB, .int .i64 a] 67
  have A0 := (Below.refl w.heap.size w).alloc (Nat.le_refl _) (.cells #[.int .i64 19, .string TB, .string NB, .int .i64 vk, .int .i64 vn, .int .i64 vm, .string VB, .int .i64 a] 67)
  go_enter Tryz.func40, Tryz.ntmps40
  go_wp2_with (first
    | (go_at_call 32; refine (SA _).mono ?_; rintro e w1 ⟨rfl, g1⟩; have b1 := g1.below; have B1 := A0.trans (b1.mono A0.size); have z0 := (Z.later b1).at 0; have z1 := (Z.later b1).at 1; have z2 := (Z.later b1).at 2; have z3 := (Z.later b1).at 3; have z4 := (Z.later b1).at 4; have z5 := (Z.later b1).at 5; have z6 := (Z.later b1).at 6; have z7 := (Z.later b1).at 7; have zl := (Z.later b1).lt)
    | (go_at_call 67; refine (F1 _).mono ?_; rintro e w2 ⟨rfl, b2⟩; have y0 := ((Z.later b1).later b2).at 0; have y1 := ((Z.later b1).later b2).at 1; have y2 := ((Z.later b1).later b2).at 2; have y7 := ((Z.later b1).later b2).at 7; have yl := ((Z.later b1).later b2).lt))
  go_ret
  exact ⟨rfl, by first | exact B1 | exact below_trans B1 b2 | exact below_trans (below_trans B1 b2) b3⟩

set_option maxHeartbeats 2000000 in
theorem ro19_e (TB NB VB : ByteArray) (vk vn vm a : Int) (w : World) (tE : TB.toList.isEmpty = true) (a0 : ¬ a < 0) (a4 : ¬ 4 < a) 
    (SA : ∀ W, Calls Tryz.prog 32 #[va vk vn vm VB, va 0 0 0 ⟨#[]⟩] W fun e w' => e = .returned (.bool true) ∧ Grew W w') (F1 : ∀ W, Calls Tryz.prog 67 #[.string NB] W fun e w' => e = .returned (.bool true) ∧ Below W.heap.size W w') :
    Calls Tryz.prog 40 #[.agg #[.int .i64 19, .string TB, .string NB, .int .i64 vk, .int .i64 vn, .int .i64 vm, .string VB, .int .i64 a]] w fun e w' => e = .returned (.int .i64 a) ∧ Below w.heap.size w w' := by
  have Z := Cbox.new w #[.int .i64 19, .string TB, .string NB, .int .i64 vk, .int .i64 vn, .int .i64 vm, .string VB, .int .i64 a] 67
  have A0 := (Below.refl w.heap.size w).alloc (Nat.le_refl _) (.cells #[.int .i64 19, .string TB, .string NB, .int .i64 vk, .int .i64 vn, .int .i64 vm, .string VB, .int .i64 a] 67)
  go_enter Tryz.func40, Tryz.ntmps40
  go_wp2_with (first
    | (go_at_call 32; refine (SA _).mono ?_; rintro e w1 ⟨rfl, g1⟩; have b1 := g1.below; have B1 := A0.trans (b1.mono A0.size); have z0 := (Z.later b1).at 0; have z1 := (Z.later b1).at 1; have z2 := (Z.later b1).at 2; have z3 := (Z.later b1).at 3; have z4 := (Z.later b1).at 4; have z5 := (Z.later b1).at 5; have z6 := (Z.later b1).at 6; have z7 := (Z.later b1).at 7; have zl := (Z.later b1).lt)
    | (go_at_call 67; refine (F1 _).mono ?_; rintro e w2 ⟨rfl, b2⟩; have y0 := ((Z.later b1).later b2).at 0; have y1 := ((Z.later b1).later b2).at 1; have y2 := ((Z.later b1).later b2).at 2; have y7 := ((Z.later b1).later b2).at 7; have yl := ((Z.later b1).later b2).lt))
  go_ret
  exact ⟨rfl, by first | exact B1 | exact below_trans B1 b2 | exact below_trans (below_trans B1 b2) b3⟩

set_option maxHeartbeats 2000000 in
theorem ro2_vt (TB NB VB : ByteArray) (vk vn vm a : Int) (w : World) (tE : TB.toList.isEmpty = false) 
    (SA : ∀ W, Calls Tryz.prog 32 #[va vk vn vm VB, va 0 0 0 ⟨#[]⟩] W fun e w' => e = .returned (.bool false) ∧ Grew W w')  :
    Calls Tryz.prog 40 #[.agg #[.int .i64 2, .string TB, .string NB, .int .i64 vk, .int .i64 vn, .int .i64 vm, .string VB, .int .i64 a]] w fun e w' => e = .returned (.int .i64 (-1)) ∧ Below w.heap.size w w' := by
  have Z := Cbox.new w #[.int .i64 2, .string TB, .string NB, .int .i64 vk, .int .i64 vn, .int .i64 vm, .string VB, .int .i64 a] 67
  have A0 := (Below.refl w.heap.size w).alloc (Nat.le_refl _) (.cells #[.int .i64 2, .string TB, .string NB, .int .i64 vk, .int .i64 vn, .int .i64 vm, .string VB, .int .i64 a] 67)
  go_enter Tryz.func40, Tryz.ntmps40
  go_wp2_with (first
    | (go_at_call 32; refine (SA _).mono ?_; rintro e w1 ⟨rfl, g1⟩; have b1 := g1.below; have B1 := A0.trans (b1.mono A0.size); have z0 := (Z.later b1).at 0; have z1 := (Z.later b1).at 1; have z2 := (Z.later b1).at 2; have z3 := (Z.later b1).at 3; have z4 := (Z.later b1).at 4; have z5 := (Z.later b1).at 5; have z6 := (Z.later b1).at 6; have z7 := (Z.later b1).at 7; have zl := (Z.later b1).lt)
)
  go_ret
  exact ⟨rfl, B1⟩

set_option maxHeartbeats 2000000 in
theorem ro2_at (TB NB VB : ByteArray) (vk vn vm a : Int) (w : World) (tE : TB.toList.isEmpty = false) (aE : ¬ a = 0) 
    (SA : ∀ W, Calls Tryz.prog 32 #[va vk vn vm VB, va 0 0 0 ⟨#[]⟩] W fun e w' => e = .returned (.bool true) ∧ Grew W w')  :
    Calls Tryz.prog 40 #[.agg #[.int .i64 2, .string TB, .string NB, .int .i64 vk, .int .i64 vn, .int .i64 vm, .string VB, .int .i64 a]] w fun e w' => e = .returned (.int .i64 (-1)) ∧ Below w.heap.size w w' := by
  have Z := Cbox.new w #[.int .i64 2, .string TB, .string NB, .int .i64 vk, .int .i64 vn, .int .i64 vm, .string VB, .int .i64 a] 67
  have A0 := (Below.refl w.heap.size w).alloc (Nat.le_refl _) (.cells #[.int .i64 2, .string TB, .string NB, .int .i64 vk, .int .i64 vn, .int .i64 vm, .string VB, .int .i64 a] 67)
  go_enter Tryz.func40, Tryz.ntmps40
  go_wp2_with (first
    | (go_at_call 32; refine (SA _).mono ?_; rintro e w1 ⟨rfl, g1⟩; have b1 := g1.below; have B1 := A0.trans (b1.mono A0.size); have z0 := (Z.later b1).at 0; have z1 := (Z.later b1).at 1; have z2 := (Z.later b1).at 2; have z3 := (Z.later b1).at 3; have z4 := (Z.later b1).at 4; have z5 := (Z.later b1).at 5; have z6 := (Z.later b1).at 6; have z7 := (Z.later b1).at 7; have zl := (Z.later b1).lt)
)
  go_ret
  exact ⟨rfl, B1⟩

set_option maxHeartbeats 2000000 in
theorem ro2_ft (TB NB VB : ByteArray) (vk vn vm : Int) (w : World) (tE : TB.toList.isEmpty = false) 
    (SA : ∀ W, Calls Tryz.prog 32 #[va vk vn vm VB, va 0 0 0 ⟨#[]⟩] W fun e w' => e = .returned (.bool true) ∧ Grew W w') (F1 : ∀ W, Calls Tryz.prog 67 #[.string NB] W fun e w' => e = .returned (.bool false) ∧ Below W.heap.size W w') :
    Calls Tryz.prog 40 #[.agg #[.int .i64 2, .string TB, .string NB, .int .i64 vk, .int .i64 vn, .int .i64 vm, .string VB, .int .i64 0]] w fun e w' => e = .returned (.int .i64 (-1)) ∧ Below w.heap.size w w' := by
  have Z := Cbox.new w #[.int .i64 2, .string TB, .string NB, .int .i64 vk, .int .i64 vn, .int .i64 vm, .string VB, .int .i64 0] 67
  have A0 := (Below.refl w.heap.size w).alloc (Nat.le_refl _) (.cells #[.int .i64 2, .string TB, .string NB, .int .i64 vk, .int .i64 vn, .int .i64 vm, .string VB, .int .i64 0] 67)
  go_enter Tryz.func40, Tryz.ntmps40
  go_wp2_with (first
    | (go_at_call 32; refine (SA _).mono ?_; rintro e w1 ⟨rfl, g1⟩; have b1 := g1.below; have B1 := A0.trans (b1.mono A0.size); have z0 := (Z.later b1).at 0; have z1 := (Z.later b1).at 1; have z2 := (Z.later b1).at 2; have z3 := (Z.later b1).at 3; have z4 := (Z.later b1).at 4; have z5 := (Z.later b1).at 5; have z6 := (Z.later b1).at 6; have z7 := (Z.later b1).at 7; have zl := (Z.later b1).lt)
    | (go_at_call 67; refine (F1 _).mono ?_; rintro e w2 ⟨rfl, b2⟩; have y0 := ((Z.later b1).later b2).at 0; have y1 := ((Z.later b1).later b2).at 1; have y2 := ((Z.later b1).later b2).at 2; have y7 := ((Z.later b1).later b2).at 7; have yl := ((Z.later b1).later b2).lt))
  go_ret
  exact ⟨rfl, by first | exact B1 | exact below_trans B1 b2 | exact below_trans (below_trans B1 b2) b3⟩

set_option maxHeartbeats 2000000 in
theorem ro19_vt (TB NB VB : ByteArray) (vk vn vm a : Int) (w : World) (tE : TB.toList.isEmpty = false) 
    (SA : ∀ W, Calls Tryz.prog 32 #[va vk vn vm VB, va 0 0 0 ⟨#[]⟩] W fun e w' => e = .returned (.bool false) ∧ Grew W w')  :
    Calls Tryz.prog 40 #[.agg #[.int .i64 19, .string TB, .string NB, .int .i64 vk, .int .i64 vn, .int .i64 vm, .string VB, .int .i64 a]] w fun e w' => e = .returned (.int .i64 (-1)) ∧ Below w.heap.size w w' := by
  have Z := Cbox.new w #[.int .i64 19, .string TB, .string NB, .int .i64 vk, .int .i64 vn, .int .i64 vm, .string VB, .int .i64 a] 67
  have A0 := (Below.refl w.heap.size w).alloc (Nat.le_refl _) (.cells #[.int .i64 19, .string TB, .string NB, .int .i64 vk, .int .i64 vn, .int .i64 vm, .string VB, .int .i64 a] 67)
  go_enter Tryz.func40, Tryz.ntmps40
  go_wp2_with (first
    | (go_at_call 32; refine (SA _).mono ?_; rintro e w1 ⟨rfl, g1⟩; have b1 := g1.below; have B1 := A0.trans (b1.mono A0.size); have z0 := (Z.later b1).at 0; have z1 := (Z.later b1).at 1; have z2 := (Z.later b1).at 2; have z3 := (Z.later b1).at 3; have z4 := (Z.later b1).at 4; have z5 := (Z.later b1).at 5; have z6 := (Z.later b1).at 6; have z7 := (Z.later b1).at 7; have zl := (Z.later b1).lt)
)
  go_ret
  exact ⟨rfl, B1⟩

set_option maxHeartbeats 2000000 in
theorem ro19_lt (TB NB VB : ByteArray) (vk vn vm a : Int) (w : World) (tE : TB.toList.isEmpty = false) (aE : a < 0) 
    (SA : ∀ W, Calls Tryz.prog 32 #[va vk vn vm VB, va 0 0 0 ⟨#[]⟩] W fun e w' => e = .returned (.bool true) ∧ Grew W w')  :
    Calls Tryz.prog 40 #[.agg #[.int .i64 19, .string TB, .string NB, .int .i64 vk, .int .i64 vn, .int .i64 vm, .string VB, .int .i64 a]] w fun e w' => e = .returned (.int .i64 (-1)) ∧ Below w.heap.size w w' := by
  have Z := Cbox.new w #[.int .i64 19, .string TB, .string NB, .int .i64 vk, .int .i64 vn, .int .i64 vm, .string VB, .int .i64 a] 67
  have A0 := (Below.refl w.heap.size w).alloc (Nat.le_refl _) (.cells #[.int .i64 19, .string TB, .string NB, .int .i64 vk, .int .i64 vn, .int .i64 vm, .string VB, .int .i64 a] 67)
  go_enter Tryz.func40, Tryz.ntmps40
  go_wp2_with (first
    | (go_at_call 32; refine (SA _).mono ?_; rintro e w1 ⟨rfl, g1⟩; have b1 := g1.below; have B1 := A0.trans (b1.mono A0.size); have z0 := (Z.later b1).at 0; have z1 := (Z.later b1).at 1; have z2 := (Z.later b1).at 2; have z3 := (Z.later b1).at 3; have z4 := (Z.later b1).at 4; have z5 := (Z.later b1).at 5; have z6 := (Z.later b1).at 6; have z7 := (Z.later b1).at 7; have zl := (Z.later b1).lt)
)
  go_ret
  exact ⟨rfl, B1⟩

set_option maxHeartbeats 2000000 in
theorem ro19_ht (TB NB VB : ByteArray) (vk vn vm a : Int) (w : World) (tE : TB.toList.isEmpty = false) (a0 : ¬ a < 0) (aE : 4 < a) 
    (SA : ∀ W, Calls Tryz.prog 32 #[va vk vn vm VB, va 0 0 0 ⟨#[]⟩] W fun e w' => e = .returned (.bool true) ∧ Grew W w')  :
    Calls Tryz.prog 40 #[.agg #[.int .i64 19, .string TB, .string NB, .int .i64 vk, .int .i64 vn, .int .i64 vm, .string VB, .int .i64 a]] w fun e w' => e = .returned (.int .i64 (-1)) ∧ Below w.heap.size w w' := by
  have Z := Cbox.new w #[.int .i64 19, .string TB, .string NB, .int .i64 vk, .int .i64 vn, .int .i64 vm, .string VB, .int .i64 a] 67
  have A0 := (Below.refl w.heap.size w).alloc (Nat.le_refl _) (.cells #[.int .i64 19, .string TB, .string NB, .int .i64 vk, .int .i64 vn, .int .i64 vm, .string VB, .int .i64 a] 67)
  go_enter Tryz.func40, Tryz.ntmps40
  go_wp2_with (first
    | (go_at_call 32; refine (SA _).mono ?_; rintro e w1 ⟨rfl, g1⟩; have b1 := g1.below; have B1 := A0.trans (b1.mono A0.size); have z0 := (Z.later b1).at 0; have z1 := (Z.later b1).at 1; have z2 := (Z.later b1).at 2; have z3 := (Z.later b1).at 3; have z4 := (Z.later b1).at 4; have z5 := (Z.later b1).at 5; have z6 := (Z.later b1).at 6; have z7 := (Z.later b1).at 7; have zl := (Z.later b1).lt)
)
  go_ret
  exact ⟨rfl, B1⟩

set_option maxHeartbeats 2000000 in
theorem ro19_ft (TB NB VB : ByteArray) (vk vn vm a : Int) (w : World) (tE : TB.toList.isEmpty = false) (a0 : ¬ a < 0) (a4 : ¬ 4 < a) 
    (SA : ∀ W, Calls Tryz.prog 32 #[va vk vn vm VB, va 0 0 0 ⟨#[]⟩] W fun e w' => e = .returned (.bool true) ∧ Grew W w') (F1 : ∀ W, Calls Tryz.prog 67 #[.string NB] W fun e w' => e = .returned (.bool false) ∧ Below W.heap.size W w') :
    Calls Tryz.prog 40 #[.agg #[.int .i64 19, .string TB, .string NB, .int .i64 vk, .int .i64 vn, .int .i64 vm, .string VB, .int .i64 a]] w fun e w' => e = .returned (.int .i64 (-1)) ∧ Below w.heap.size w w' := by
  have Z := Cbox.new w #[.int .i64 19, .string TB, .string NB, .int .i64 vk, .int .i64 vn, .int .i64 vm, .string VB, .int .i64 a] 67
  have A0 := (Below.refl w.heap.size w).alloc (Nat.le_refl _) (.cells #[.int .i64 19, .string TB, .string NB, .int .i64 vk, .int .i64 vn, .int .i64 vm, .string VB, .int .i64 a] 67)
  go_enter Tryz.func40, Tryz.ntmps40
  go_wp2_with (first
    | (go_at_call 32; refine (SA _).mono ?_; rintro e w1 ⟨rfl, g1⟩; have b1 := g1.below; have B1 := A0.trans (b1.mono A0.size); have z0 := (Z.later b1).at 0; have z1 := (Z.later b1).at 1; have z2 := (Z.later b1).at 2; have z3 := (Z.later b1).at 3; have z4 := (Z.later b1).at 4; have z5 := (Z.later b1).at 5; have z6 := (Z.later b1).at 6; have z7 := (Z.later b1).at 7; have zl := (Z.later b1).lt)
    | (go_at_call 67; refine (F1 _).mono ?_; rintro e w2 ⟨rfl, b2⟩; have y0 := ((Z.later b1).later b2).at 0; have y1 := ((Z.later b1).later b2).at 1; have y2 := ((Z.later b1).later b2).at 2; have y7 := ((Z.later b1).later b2).at 7; have yl := ((Z.later b1).later b2).lt))
  go_ret
  exact ⟨rfl, by first | exact B1 | exact below_trans B1 b2 | exact below_trans (below_trans B1 b2) b3⟩

set_option maxHeartbeats 2000000 in
theorem ro19_t (TB NB VB : ByteArray) (vk vn vm a : Int) (w : World) (tE : TB.toList.isEmpty = false) (a0 : ¬ a < 0) (a4 : ¬ 4 < a) 
    (SA : ∀ W, Calls Tryz.prog 32 #[va vk vn vm VB, va 0 0 0 ⟨#[]⟩] W fun e w' => e = .returned (.bool true) ∧ Grew W w') (F1 : ∀ W, Calls Tryz.prog 67 #[.string NB] W fun e w' => e = .returned (.bool true) ∧ Below W.heap.size W w') :
    Calls Tryz.prog 40 #[.agg #[.int .i64 19, .string TB, .string NB, .int .i64 vk, .int .i64 vn, .int .i64 vm, .string VB, .int .i64 a]] w fun e w' => e = .returned (.int .i64 (-1)) ∧ Below w.heap.size w w' := by
  have Z := Cbox.new w #[.int .i64 19, .string TB, .string NB, .int .i64 vk, .int .i64 vn, .int .i64 vm, .string VB, .int .i64 a] 67
  have A0 := (Below.refl w.heap.size w).alloc (Nat.le_refl _) (.cells #[.int .i64 19, .string TB, .string NB, .int .i64 vk, .int .i64 vn, .int .i64 vm, .string VB, .int .i64 a] 67)
  go_enter Tryz.func40, Tryz.ntmps40
  go_wp2_with (first
    | (go_at_call 32; refine (SA _).mono ?_; rintro e w1 ⟨rfl, g1⟩; have b1 := g1.below; have B1 := A0.trans (b1.mono A0.size); have z0 := (Z.later b1).at 0; have z1 := (Z.later b1).at 1; have z2 := (Z.later b1).at 2; have z3 := (Z.later b1).at 3; have z4 := (Z.later b1).at 4; have z5 := (Z.later b1).at 5; have z6 := (Z.later b1).at 6; have z7 := (Z.later b1).at 7; have zl := (Z.later b1).lt)
    | (go_at_call 67; refine (F1 _).mono ?_; rintro e w2 ⟨rfl, b2⟩; have y0 := ((Z.later b1).later b2).at 0; have y1 := ((Z.later b1).later b2).at 1; have y2 := ((Z.later b1).later b2).at 2; have y7 := ((Z.later b1).later b2).at 7; have yl := ((Z.later b1).later b2).lt))
  go_ret
  exact ⟨rfl, by first | exact B1 | exact below_trans B1 b2 | exact below_trans (below_trans B1 b2) b3⟩

set_option maxHeartbeats 2000000 in
theorem ro2_e (TB NB VB : ByteArray) (vk vn vm : Int) (w : World) (tE : TB.toList.isEmpty = true) 
    (SA : ∀ W, Calls Tryz.prog 32 #[va vk vn vm VB, va 0 0 0 ⟨#[]⟩] W fun e w' => e = .returned (.bool true) ∧ Grew W w') (F1 : ∀ W, Calls Tryz.prog 67 #[.string NB] W fun e w' => e = .returned (.bool true) ∧ Below W.heap.size W w') :
    Calls Tryz.prog 40 #[.agg #[.int .i64 2, .string TB, .string NB, .int .i64 vk, .int .i64 vn, .int .i64 vm, .string VB, .int .i64 0]] w fun e w' => e = .returned (.int .i64 0) ∧ Below w.heap.size w w' := by
  have Z := Cbox.new w #[.int .i64 2, .string TB, .string NB, .int .i64 vk, .int .i64 vn, .int .i64 vm, .string VB, .int .i64 0] 67
  have A0 := (Below.refl w.heap.size w).alloc (Nat.le_refl _) (.cells #[.int .i64 2, .string TB, .string NB, .int .i64 vk, .int .i64 vn, .int .i64 vm, .string VB, .int .i64 0] 67)
  go_enter Tryz.func40, Tryz.ntmps40
  go_wp2_with (first
    | (go_at_call 32; refine (SA _).mono ?_; rintro e w1 ⟨rfl, g1⟩; have b1 := g1.below; have B1 := A0.trans (b1.mono A0.size); have z0 := (Z.later b1).at 0; have z1 := (Z.later b1).at 1; have z2 := (Z.later b1).at 2; have z3 := (Z.later b1).at 3; have z4 := (Z.later b1).at 4; have z5 := (Z.later b1).at 5; have z6 := (Z.later b1).at 6; have z7 := (Z.later b1).at 7; have zl := (Z.later b1).lt)
    | (go_at_call 67; refine (F1 _).mono ?_; rintro e w2 ⟨rfl, b2⟩; have y0 := ((Z.later b1).later b2).at 0; have y1 := ((Z.later b1).later b2).at 1; have y2 := ((Z.later b1).later b2).at 2; have y7 := ((Z.later b1).later b2).at 7; have yl := ((Z.later b1).later b2).lt))
  go_ret
  exact ⟨rfl, by first | exact B1 | exact below_trans B1 b2 | exact below_trans (below_trans B1 b2) b3⟩

set_option maxHeartbeats 2000000 in
theorem roo_t (o : Int) (TB NB VB : ByteArray) (vk vn vm a : Int) (w : World) (tE : TB.toList.isEmpty = false) (o1 : (o == 1) = false) (o2 : (o == 2) = false) (o19 : (o == 19) = false) 
    (sv : Bool) (SA : ∀ W, Calls Tryz.prog 32 #[va vk vn vm VB, va 0 0 0 ⟨#[]⟩] W fun e w' => e = .returned (.bool sv) ∧ Grew W w')  :
    Calls Tryz.prog 40 #[.agg #[.int .i64 o, .string TB, .string NB, .int .i64 vk, .int .i64 vn, .int .i64 vm, .string VB, .int .i64 a]] w fun e w' => e = .returned (.int .i64 (-1)) ∧ Below w.heap.size w w' := by
  have Z := Cbox.new w #[.int .i64 o, .string TB, .string NB, .int .i64 vk, .int .i64 vn, .int .i64 vm, .string VB, .int .i64 a] 67
  have A0 := (Below.refl w.heap.size w).alloc (Nat.le_refl _) (.cells #[.int .i64 o, .string TB, .string NB, .int .i64 vk, .int .i64 vn, .int .i64 vm, .string VB, .int .i64 a] 67)
  go_enter Tryz.func40, Tryz.ntmps40
  go_wp2_with (first
    | (go_at_call 32; refine (SA _).mono ?_; rintro e w1 ⟨rfl, g1⟩; have b1 := g1.below; have B1 := A0.trans (b1.mono A0.size); have z0 := (Z.later b1).at 0; have z1 := (Z.later b1).at 1; have z2 := (Z.later b1).at 2; have z3 := (Z.later b1).at 3; have z4 := (Z.later b1).at 4; have z5 := (Z.later b1).at 5; have z6 := (Z.later b1).at 6; have z7 := (Z.later b1).at 7; have zl := (Z.later b1).lt)
)
  go_ret
  exact ⟨rfl, B1⟩

set_option maxHeartbeats 2000000 in
theorem roo_n (o : Int) (TB NB VB : ByteArray) (vk vn vm a : Int) (w : World) (tE : TB.toList.isEmpty = true) (nE : NB.toList.isEmpty = false) (o1 : (o == 1) = false) (o2 : (o == 2) = false) (o19 : (o == 19) = false) 
    (sv : Bool) (SA : ∀ W, Calls Tryz.prog 32 #[va vk vn vm VB, va 0 0 0 ⟨#[]⟩] W fun e w' => e = .returned (.bool sv) ∧ Grew W w')  :
    Calls Tryz.prog 40 #[.agg #[.int .i64 o, .string TB, .string NB, .int .i64 vk, .int .i64 vn, .int .i64 vm, .string VB, .int .i64 a]] w fun e w' => e = .returned (.int .i64 (-1)) ∧ Below w.heap.size w w' := by
  have Z := Cbox.new w #[.int .i64 o, .string TB, .string NB, .int .i64 vk, .int .i64 vn, .int .i64 vm, .string VB, .int .i64 a] 67
  have A0 := (Below.refl w.heap.size w).alloc (Nat.le_refl _) (.cells #[.int .i64 o, .string TB, .string NB, .int .i64 vk, .int .i64 vn, .int .i64 vm, .string VB, .int .i64 a] 67)
  go_enter Tryz.func40, Tryz.ntmps40
  go_wp2_with (first
    | (go_at_call 32; refine (SA _).mono ?_; rintro e w1 ⟨rfl, g1⟩; have b1 := g1.below; have B1 := A0.trans (b1.mono A0.size); have z0 := (Z.later b1).at 0; have z1 := (Z.later b1).at 1; have z2 := (Z.later b1).at 2; have z3 := (Z.later b1).at 3; have z4 := (Z.later b1).at 4; have z5 := (Z.later b1).at 5; have z6 := (Z.later b1).at 6; have z7 := (Z.later b1).at 7; have zl := (Z.later b1).lt)
)
  go_ret
  exact ⟨rfl, B1⟩

set_option maxHeartbeats 2000000 in
theorem roo_v (o : Int) (TB NB VB : ByteArray) (vk vn vm a : Int) (w : World) (tE : TB.toList.isEmpty = true) (nE : NB.toList.isEmpty = true) (o1 : (o == 1) = false) (o2 : (o == 2) = false) (o19 : (o == 19) = false) 
    (SA : ∀ W, Calls Tryz.prog 32 #[va vk vn vm VB, va 0 0 0 ⟨#[]⟩] W fun e w' => e = .returned (.bool false) ∧ Grew W w')  :
    Calls Tryz.prog 40 #[.agg #[.int .i64 o, .string TB, .string NB, .int .i64 vk, .int .i64 vn, .int .i64 vm, .string VB, .int .i64 a]] w fun e w' => e = .returned (.int .i64 (-1)) ∧ Below w.heap.size w w' := by
  have Z := Cbox.new w #[.int .i64 o, .string TB, .string NB, .int .i64 vk, .int .i64 vn, .int .i64 vm, .string VB, .int .i64 a] 67
  have A0 := (Below.refl w.heap.size w).alloc (Nat.le_refl _) (.cells #[.int .i64 o, .string TB, .string NB, .int .i64 vk, .int .i64 vn, .int .i64 vm, .string VB, .int .i64 a] 67)
  go_enter Tryz.func40, Tryz.ntmps40
  go_wp2_with (first
    | (go_at_call 32; refine (SA _).mono ?_; rintro e w1 ⟨rfl, g1⟩; have b1 := g1.below; have B1 := A0.trans (b1.mono A0.size); have z0 := (Z.later b1).at 0; have z1 := (Z.later b1).at 1; have z2 := (Z.later b1).at 2; have z3 := (Z.later b1).at 3; have z4 := (Z.later b1).at 4; have z5 := (Z.later b1).at 5; have z6 := (Z.later b1).at 6; have z7 := (Z.later b1).at 7; have zl := (Z.later b1).lt)
)
  go_ret
  exact ⟨rfl, B1⟩

set_option maxHeartbeats 2000000 in
theorem roo_a (o : Int) (TB NB VB : ByteArray) (vk vn vm a : Int) (w : World) (tE : TB.toList.isEmpty = true) (nE : NB.toList.isEmpty = true) (o1 : (o == 1) = false) (o2 : (o == 2) = false) (o19 : (o == 19) = false) (aE : ¬ a = 0) 
    (SA : ∀ W, Calls Tryz.prog 32 #[va vk vn vm VB, va 0 0 0 ⟨#[]⟩] W fun e w' => e = .returned (.bool true) ∧ Grew W w')  :
    Calls Tryz.prog 40 #[.agg #[.int .i64 o, .string TB, .string NB, .int .i64 vk, .int .i64 vn, .int .i64 vm, .string VB, .int .i64 a]] w fun e w' => e = .returned (.int .i64 (-1)) ∧ Below w.heap.size w w' := by
  have Z := Cbox.new w #[.int .i64 o, .string TB, .string NB, .int .i64 vk, .int .i64 vn, .int .i64 vm, .string VB, .int .i64 a] 67
  have A0 := (Below.refl w.heap.size w).alloc (Nat.le_refl _) (.cells #[.int .i64 o, .string TB, .string NB, .int .i64 vk, .int .i64 vn, .int .i64 vm, .string VB, .int .i64 a] 67)
  go_enter Tryz.func40, Tryz.ntmps40
  go_wp2_with (first
    | (go_at_call 32; refine (SA _).mono ?_; rintro e w1 ⟨rfl, g1⟩; have b1 := g1.below; have B1 := A0.trans (b1.mono A0.size); have z0 := (Z.later b1).at 0; have z1 := (Z.later b1).at 1; have z2 := (Z.later b1).at 2; have z3 := (Z.later b1).at 3; have z4 := (Z.later b1).at 4; have z5 := (Z.later b1).at 5; have z6 := (Z.later b1).at 6; have z7 := (Z.later b1).at 7; have zl := (Z.later b1).lt)
)
  go_ret
  exact ⟨rfl, B1⟩

set_option maxHeartbeats 2000000 in
theorem roo_l (o : Int) (TB NB VB : ByteArray) (vk vn vm : Int) (w : World) (tE : TB.toList.isEmpty = true) (nE : NB.toList.isEmpty = true) (o1 : (o == 1) = false) (o2 : (o == 2) = false) (o19 : (o == 19) = false) (oE : o < 3) 
    (SA : ∀ W, Calls Tryz.prog 32 #[va vk vn vm VB, va 0 0 0 ⟨#[]⟩] W fun e w' => e = .returned (.bool true) ∧ Grew W w')  :
    Calls Tryz.prog 40 #[.agg #[.int .i64 o, .string TB, .string NB, .int .i64 vk, .int .i64 vn, .int .i64 vm, .string VB, .int .i64 0]] w fun e w' => e = .returned (.int .i64 (-1)) ∧ Below w.heap.size w w' := by
  have Z := Cbox.new w #[.int .i64 o, .string TB, .string NB, .int .i64 vk, .int .i64 vn, .int .i64 vm, .string VB, .int .i64 0] 67
  have A0 := (Below.refl w.heap.size w).alloc (Nat.le_refl _) (.cells #[.int .i64 o, .string TB, .string NB, .int .i64 vk, .int .i64 vn, .int .i64 vm, .string VB, .int .i64 0] 67)
  go_enter Tryz.func40, Tryz.ntmps40
  go_wp2_with (first
    | (go_at_call 32; refine (SA _).mono ?_; rintro e w1 ⟨rfl, g1⟩; have b1 := g1.below; have B1 := A0.trans (b1.mono A0.size); have z0 := (Z.later b1).at 0; have z1 := (Z.later b1).at 1; have z2 := (Z.later b1).at 2; have z3 := (Z.later b1).at 3; have z4 := (Z.later b1).at 4; have z5 := (Z.later b1).at 5; have z6 := (Z.later b1).at 6; have z7 := (Z.later b1).at 7; have zl := (Z.later b1).lt)
)
  go_ret
  exact ⟨rfl, B1⟩

set_option maxHeartbeats 2000000 in
theorem roo_h (o : Int) (TB NB VB : ByteArray) (vk vn vm : Int) (w : World) (tE : TB.toList.isEmpty = true) (nE : NB.toList.isEmpty = true) (o1 : (o == 1) = false) (o2 : (o == 2) = false) (o19 : (o == 19) = false) (o3 : ¬ o < 3) (oE : 18 < o) 
    (SA : ∀ W, Calls Tryz.prog 32 #[va vk vn vm VB, va 0 0 0 ⟨#[]⟩] W fun e w' => e = .returned (.bool true) ∧ Grew W w')  :
    Calls Tryz.prog 40 #[.agg #[.int .i64 o, .string TB, .string NB, .int .i64 vk, .int .i64 vn, .int .i64 vm, .string VB, .int .i64 0]] w fun e w' => e = .returned (.int .i64 (-1)) ∧ Below w.heap.size w w' := by
  have Z := Cbox.new w #[.int .i64 o, .string TB, .string NB, .int .i64 vk, .int .i64 vn, .int .i64 vm, .string VB, .int .i64 0] 67
  have A0 := (Below.refl w.heap.size w).alloc (Nat.le_refl _) (.cells #[.int .i64 o, .string TB, .string NB, .int .i64 vk, .int .i64 vn, .int .i64 vm, .string VB, .int .i64 0] 67)
  go_enter Tryz.func40, Tryz.ntmps40
  go_wp2_with (first
    | (go_at_call 32; refine (SA _).mono ?_; rintro e w1 ⟨rfl, g1⟩; have b1 := g1.below; have B1 := A0.trans (b1.mono A0.size); have z0 := (Z.later b1).at 0; have z1 := (Z.later b1).at 1; have z2 := (Z.later b1).at 2; have z3 := (Z.later b1).at 3; have z4 := (Z.later b1).at 4; have z5 := (Z.later b1).at 5; have z6 := (Z.later b1).at 6; have z7 := (Z.later b1).at 7; have zl := (Z.later b1).lt)
)
  go_ret
  exact ⟨rfl, B1⟩

set_option maxHeartbeats 2000000 in
theorem roo_1 (o : Int) (TB NB VB : ByteArray) (vk vn vm : Int) (w : World) (tE : TB.toList.isEmpty = true) (nE : NB.toList.isEmpty = true) (o1 : (o == 1) = false) (o2 : (o == 2) = false) (o19 : (o == 19) = false) (o3 : ¬ o < 3) (_o18 : ¬ 18 < o) (oE : o ≤ 5) 
    (SA : ∀ W, Calls Tryz.prog 32 #[va vk vn vm VB, va 0 0 0 ⟨#[]⟩] W fun e w' => e = .returned (.bool true) ∧ Grew W w')  :
    Calls Tryz.prog 40 #[.agg #[.int .i64 o, .string TB, .string NB, .int .i64 vk, .int .i64 vn, .int .i64 vm, .string VB, .int .i64 0]] w fun e w' => e = .returned (.int .i64 1) ∧ Below w.heap.size w w' := by
  have Z := Cbox.new w #[.int .i64 o, .string TB, .string NB, .int .i64 vk, .int .i64 vn, .int .i64 vm, .string VB, .int .i64 0] 67
  have A0 := (Below.refl w.heap.size w).alloc (Nat.le_refl _) (.cells #[.int .i64 o, .string TB, .string NB, .int .i64 vk, .int .i64 vn, .int .i64 vm, .string VB, .int .i64 0] 67)
  go_enter Tryz.func40, Tryz.ntmps40
  go_wp2_with (first
    | (go_at_call 32; refine (SA _).mono ?_; rintro e w1 ⟨rfl, g1⟩; have b1 := g1.below; have B1 := A0.trans (b1.mono A0.size); have z0 := (Z.later b1).at 0; have z1 := (Z.later b1).at 1; have z2 := (Z.later b1).at 2; have z3 := (Z.later b1).at 3; have z4 := (Z.later b1).at 4; have z5 := (Z.later b1).at 5; have z6 := (Z.later b1).at 6; have z7 := (Z.later b1).at 7; have zl := (Z.later b1).lt)
)
  go_ret
  exact ⟨rfl, B1⟩

set_option maxHeartbeats 2000000 in
theorem roo_2 (o : Int) (TB NB VB : ByteArray) (vk vn vm : Int) (w : World) (tE : TB.toList.isEmpty = true) (nE : NB.toList.isEmpty = true) (o1 : (o == 1) = false) (o2 : (o == 2) = false) (o19 : (o == 19) = false) (o3 : ¬ o < 3) (o18 : ¬ 18 < o) (oE : ¬ o ≤ 5) 
    (SA : ∀ W, Calls Tryz.prog 32 #[va vk vn vm VB, va 0 0 0 ⟨#[]⟩] W fun e w' => e = .returned (.bool true) ∧ Grew W w')  :
    Calls Tryz.prog 40 #[.agg #[.int .i64 o, .string TB, .string NB, .int .i64 vk, .int .i64 vn, .int .i64 vm, .string VB, .int .i64 0]] w fun e w' => e = .returned (.int .i64 2) ∧ Below w.heap.size w w' := by
  have Z := Cbox.new w #[.int .i64 o, .string TB, .string NB, .int .i64 vk, .int .i64 vn, .int .i64 vm, .string VB, .int .i64 0] 67
  have A0 := (Below.refl w.heap.size w).alloc (Nat.le_refl _) (.cells #[.int .i64 o, .string TB, .string NB, .int .i64 vk, .int .i64 vn, .int .i64 vm, .string VB, .int .i64 0] 67)
  go_enter Tryz.func40, Tryz.ntmps40
  go_wp2_with (first
    | (go_at_call 32; refine (SA _).mono ?_; rintro e w1 ⟨rfl, g1⟩; have b1 := g1.below; have B1 := A0.trans (b1.mono A0.size); have z0 := (Z.later b1).at 0; have z1 := (Z.later b1).at 1; have z2 := (Z.later b1).at 2; have z3 := (Z.later b1).at 3; have z4 := (Z.later b1).at 4; have z5 := (Z.later b1).at 5; have z6 := (Z.later b1).at 6; have z7 := (Z.later b1).at 7; have zl := (Z.later b1).lt)
)
  go_ret
  exact ⟨rfl, B1⟩

end Go.Proofs.YtclhmmgdhagloaaGreatDoor
