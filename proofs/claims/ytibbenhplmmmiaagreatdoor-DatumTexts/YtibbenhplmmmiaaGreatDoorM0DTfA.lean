/-
  The walk of DatumTexts.
  DatumTexts: the row's frame.
-/
import Derived.Test.YtibbenhplmmmiaaGreatDoorDTp
import Derived.Test.YtibbenhplmmmiaaGreatDoorDTr
import Derived.Test.YtibbenhplmmmiaaGreatDoorVKnows
import Derived.Test.YtibbenhplmmmiaaGreatDoorVFrm
import Derived.Test.YtibbenhplmmmiaaGreatDoorPtE
import Derived.ChangeMaps5
import Derived.SizedLaws
import Derived.Carry
namespace Go.Proofs.YtibbenhplmmmiaaGreatDoor.Dt
open Go.RowKit Go.Shelf
attribute [local go_sem] cell?_more frozen?_more setCell_more more_lt more_more more_drew more_drewN setCell_drewN alloc_drewN

theorem lnum_any (n : Int) (w : World) : Calls Tryz.prog 11 #[.int .i64 n] w fun e w' => e = .returned (.int .i64 n) ∧ w = w' := by
  go_enter Tryz.func11, Tryz.ntmps11
  go_wp2
  go_ret
  exact ⟨rfl, rfl⟩
set_option maxRecDepth 20000 in
set_option maxHeartbeats 4000000 in
theorem texts_walk (k n m ka na ma er : Int) (PB AB SB TB : ByteArray) (w : World)
    (GP : ∀ W, Below w.heap.size w W → Calls Tryz.prog 6 #[.string SB] W fun e w' => e = .returned (.tuple #[va ka na ma AB, .int .i64 er]) ∧ Below W.heap.size W w')
    (RP : ∀ W, Calls Tryz.prog 7 #[.string SB] W fun e w' => e = .returned (.tuple #[va ka na ma AB, .int .i64 er]) ∧ Below W.heap.size W w')
    (PR : ∀ W, Below w.heap.size w W → Calls Tryz.prog 8 #[va k n m PB] W fun e w' => e = .returned (.string TB) ∧ Below W.heap.size W w')
    (RT : ∀ W, Calls Tryz.prog 9 #[va k n m PB] W fun e w' => e = .returned (.string TB) ∧ Below W.heap.size W w')
    (SM : ∀ W, Calls Tryz.prog 10 #[va ka na ma AB, va ka na ma AB] W fun e w' => e = .returned (.bool true) ∧ Grew W w')
    (NU : ∀ (a : Int) W, Calls Tryz.prog 11 #[.int .i64 a] W fun e w' => e = .returned (.int .i64 a) ∧ W = w')
    (KN : ∀ W, Below w.heap.size w W → Calls Tryz.prog 12 #[] W fun e w' => e = .returned (.bool true) ∧ Below W.heap.size W w') :
    Calls Tryz.prog 3 #[va k n m PB, .string SB] w fun e w' => e = .returned (.bool true) ∧ Below w.heap.size w w' := by
  have heq : (TB.toList == TB.toList) = true := by simp
  have B0 : Below w.heap.size w (w.alloc (.cells #[.int .i64 k, .int .i64 n, .int .i64 m, .string PB] 23)) := (Below.refl _ w).alloc (Nat.le_refl _) _
  have P0 := Cbox.new w #[.int .i64 k, .int .i64 n, .int .i64 m, .string PB] 23
  go_enter Tryz.func3, Tryz.ntmps3
  go_upto_region 1 with fail
  generalize w.alloc (.cells #[.int .i64 k, .int .i64 n, .int .i64 m, .string PB] 23) = w0 at *
  go_wp2_with fail
  refine (GP _ B0).mono ?_
  rintro e w1 ⟨rfl, b1⟩
  have B1 := below_trans B0 b1
  have P1 := P0.later b1
  have u1 : Below w1.heap.size w1 (w1.alloc (.cells #[.int .i64 ka, .int .i64 na, .int .i64 ma, .string AB] 23)) := (Below.refl _ _).alloc (Nat.le_refl _) _
  have A1 := Cbox.new w1 #[.int .i64 ka, .int .i64 na, .int .i64 ma, .string AB] 23
  have B1' := below_trans B1 u1
  have P1' := P1.later u1
  go_upto_region 2 with fail
  generalize w1.alloc (.cells #[.int .i64 ka, .int .i64 na, .int .i64 ma, .string AB] 23) = v1 at *
  go_wp2_with fail
  refine (RP _).mono ?_
  rintro e w2 ⟨rfl, b2⟩
  have B2 := below_trans B1' b2
  have P2 := P1'.later b2
  have A2 := A1.later b2
  have u2 : Below w2.heap.size w2 (w2.alloc (.cells #[.int .i64 ka, .int .i64 na, .int .i64 ma, .string AB] 23)) := (Below.refl _ _).alloc (Nat.le_refl _) _
  have F3 := Cbox.new w2 #[.int .i64 ka, .int .i64 na, .int .i64 ma, .string AB] 23
  have B3 := below_trans B2 u2
  have P3 := P2.later u2
  have A3 := A2.later u2
  go_upto_region 3 with fail
  generalize w2.alloc (.cells #[.int .i64 ka, .int .i64 na, .int .i64 ma, .string AB] 23) = w3 at *
  clear P0 P1 P1' P2 A1 A2 u1 u2 b1 b2 GP RP
  refine wp_region_held_drew (S := (fun W => Cbox W w.heap.size #[.int .i64 k, .int .i64 n, .int .i64 m, .string PB] 23 ∧ Cbox W w1.heap.size #[.int .i64 ka, .int .i64 na, .int .i64 ma, .string AB] 23 ∧ Cbox W w2.heap.size #[.int .i64 ka, .int .i64 na, .int .i64 ma, .string AB] 23)) (by kernel_rfl) ?_ (fun hHeld => ?_)
  · ((try dsimp only); exact ⟨P3, A3, F3⟩)
  refine wpAnyH_take (i := 0) (oi := { dst := some 19, op := Op.load 23 (Operand.tmp 2), type := 23, pos := "law.go:67", after := #[], guard := none }) (v := ?_) rfl (by kernel_rfl) (by kernel_rfl) (by kernel_rfl) (fun _ _ _ h => h) (Or.inl ⟨by rfl, ?_⟩) (by assumption) ?_
  rotate_left
  · (intro W hSw; (try dsimp only at hSw); have y0 := hSw.1.at 0; have z0 := hSw.2.1.at 0; have x0 := hSw.2.2.at 0; have y1 := hSw.1.at 1; have z1 := hSw.2.1.at 1; have x1 := hSw.2.2.at 1; have y2 := hSw.1.at 2; have z2 := hSw.2.1.at 2; have x2 := hSw.2.2.at 2; have y3 := hSw.1.at 3; have z3 := hSw.2.1.at 3; have x3 := hSw.2.2.at 3; first | (go_simp; done) | (go_simp; with_reducible rfl))
  try simp only [Act.put, List.setIfInBounds_toArray, List.set_cons_zero, List.set_cons_succ]
  refine wpAnyH_take (i := 2) (oi := { dst := some 21, op := Op.load 23 (Operand.tmp 2), type := 23, pos := "law.go:67", after := #[], guard := none }) (v := ?_) rfl (by kernel_rfl) (by kernel_rfl) (by kernel_rfl) (fun _ _ _ h => h) (Or.inl ⟨by rfl, ?_⟩) (by assumption) ?_
  rotate_left
  · (intro W hSw; (try dsimp only at hSw); have y0 := hSw.1.at 0; have z0 := hSw.2.1.at 0; have x0 := hSw.2.2.at 0; have y1 := hSw.1.at 1; have z1 := hSw.2.1.at 1; have x1 := hSw.2.2.at 1; have y2 := hSw.1.at 2; have z2 := hSw.2.1.at 2; have x2 := hSw.2.2.at 2; have y3 := hSw.1.at 3; have z3 := hSw.2.1.at 3; have x3 := hSw.2.2.at 3; first | (go_simp; done) | (go_simp; with_reducible rfl))
  try simp only [Act.put, List.setIfInBounds_toArray, List.set_cons_zero, List.set_cons_succ]
  refine wpAnyH_ready (rs := [1]) (by kernel_rfl) (by simp) ?_
  refine AllReadyH.cons (o := { dst := some 20, op := Op.call { callee := Callee.value (Operand.func 8), args := #[Operand.tmp 19], argTypes := #[23] }, type := 9, pos := "law.go:67", after := #[{ on := 0, ground := Ground.data }], guard := none }) rfl (fun K hK => ?_) AllReadyH.nil
  go_simp
  (refine (PR _ (by first | exact B3 | exact B3.drew)).mono ?_; rintro e w4 ⟨rfl, b4⟩; have d4 : Below w3.heap.size w3 w4 := (by first | exact below_trans ((Below.refl _ w3).drew) b4 | exact b4); have B4 := below_trans B3 d4; have P4 := P3.later d4; have A4 := A3.later d4; have F4 := F3.later d4)
  refine hK.out _ _ ?_ (fun hHeld => ?_)
  · ((try dsimp only); first | exact ⟨P8, A8, F8⟩ | exact ⟨P6, A6, F6⟩ | exact ⟨P5, A5, F5⟩ | exact ⟨P4, A4, F4⟩)
  clear hK K
  try simp only [Act.put, List.setIfInBounds_toArray, List.set_cons_zero, List.set_cons_succ]
  refine wpAnyH_ready (rs := [3]) (by kernel_rfl) (by simp) ?_
  refine AllReadyH.cons (o := { dst := some 22, op := Op.call { callee := Callee.value (Operand.func 9), args := #[Operand.tmp 21], argTypes := #[23] }, type := 9, pos := "law.go:67", after := #[{ on := 2, ground := Ground.data }, { on := 1, ground := Ground.chain }], guard := none }) rfl (fun K hK => ?_) AllReadyH.nil
  go_simp
  (refine (RT _).mono ?_; rintro e w5 ⟨rfl, b5⟩; have d5 : Below w4.heap.size w4 w5 := (by first | exact below_trans ((Below.refl _ w4).drew) b5 | exact b5); have B5 := below_trans B4 d5; have P5 := P4.later d5; have A5 := A4.later d5; have F5 := F4.later d5)
  refine hK.out _ _ ?_ (fun hHeld => ?_)
  · ((try dsimp only); first | exact ⟨P8, A8, F8⟩ | exact ⟨P6, A6, F6⟩ | exact ⟨P5, A5, F5⟩ | exact ⟨P4, A4, F4⟩)
  clear hK K
  try simp only [Act.put, List.setIfInBounds_toArray, List.set_cons_zero, List.set_cons_succ]
  refine wpAnyH_take (i := 4) (oi := { dst := some 23, op := Op.binOp BinOp.eql 9 (Operand.tmp 20) (Operand.tmp 22) 9, type := 4, pos := "law.go:67", after := #[{ on := 1, ground := Ground.data }, { on := 3, ground := Ground.data }], guard := none }) (v := ?_) rfl (by kernel_rfl) (by kernel_rfl) (by kernel_rfl) (fun _ _ _ h => h) (Or.inl ⟨by rfl, ?_⟩) (by assumption) ?_
  rotate_left
  · (intro W hSw; (try dsimp only at hSw); have y0 := hSw.1.at 0; have z0 := hSw.2.1.at 0; have x0 := hSw.2.2.at 0; have y1 := hSw.1.at 1; have z1 := hSw.2.1.at 1; have x1 := hSw.2.2.at 1; have y2 := hSw.1.at 2; have z2 := hSw.2.1.at 2; have x2 := hSw.2.2.at 2; have y3 := hSw.1.at 3; have z3 := hSw.2.1.at 3; have x3 := hSw.2.2.at 3; first | (go_simp; done) | (go_simp; with_reducible rfl))
  try simp only [Act.put, List.setIfInBounds_toArray, List.set_cons_zero, List.set_cons_succ]
  refine wpAnyH_take (i := 5) (oi := { dst := some 24, op := Op.move (Operand.tmp 23), type := 4, pos := "law.go:67", after := #[{ on := 4, ground := Ground.data }, { on := 3, ground := Ground.chain }], guard := none }) (v := ?_) rfl (by kernel_rfl) (by kernel_rfl) (by kernel_rfl) (fun _ _ _ h => h) (Or.inl ⟨by rfl, ?_⟩) (by assumption) ?_
  rotate_left
  · (intro W hSw; (try dsimp only at hSw); have y0 := hSw.1.at 0; have z0 := hSw.2.1.at 0; have x0 := hSw.2.2.at 0; have y1 := hSw.1.at 1; have z1 := hSw.2.1.at 1; have x1 := hSw.2.2.at 1; have y2 := hSw.1.at 2; have z2 := hSw.2.1.at 2; have x2 := hSw.2.2.at 2; have y3 := hSw.1.at 3; have z3 := hSw.2.1.at 3; have x3 := hSw.2.2.at 3; first | (go_simp; done) | (go_simp; with_reducible rfl))
  try simp only [Act.put, List.setIfInBounds_toArray, List.set_cons_zero, List.set_cons_succ]
  refine wpAnyH_take (i := 6) (oi := { dst := some 25, op := Op.load 23 (Operand.tmp 5), type := 23, pos := "law.go:67", after := #[{ on := 5, ground := Ground.guard }], guard := some (5, true) }) (v := ?_) rfl (by kernel_rfl) (by kernel_rfl) (by kernel_rfl) (fun _ _ _ h => h) (Or.inl ⟨by rfl, ?_⟩) (by assumption) ?_
  rotate_left
  · (intro W hSw; (try dsimp only at hSw); have y0 := hSw.1.at 0; have z0 := hSw.2.1.at 0; have x0 := hSw.2.2.at 0; have y1 := hSw.1.at 1; have z1 := hSw.2.1.at 1; have x1 := hSw.2.2.at 1; have y2 := hSw.1.at 2; have z2 := hSw.2.1.at 2; have x2 := hSw.2.2.at 2; have y3 := hSw.1.at 3; have z3 := hSw.2.1.at 3; have x3 := hSw.2.2.at 3; first | (go_simp; done) | (go_simp; with_reducible rfl))
  try simp only [Act.put, List.setIfInBounds_toArray, List.set_cons_zero, List.set_cons_succ]
  refine wpAnyH_take (i := 7) (oi := { dst := some 26, op := Op.load 23 (Operand.tmp 7), type := 23, pos := "law.go:67", after := #[{ on := 5, ground := Ground.guard }], guard := some (5, true) }) (v := ?_) rfl (by kernel_rfl) (by kernel_rfl) (by kernel_rfl) (fun _ _ _ h => h) (Or.inl ⟨by rfl, ?_⟩) (by assumption) ?_
  rotate_left
  · (intro W hSw; (try dsimp only at hSw); have y0 := hSw.1.at 0; have z0 := hSw.2.1.at 0; have x0 := hSw.2.2.at 0; have y1 := hSw.1.at 1; have z1 := hSw.2.1.at 1; have x1 := hSw.2.2.at 1; have y2 := hSw.1.at 2; have z2 := hSw.2.1.at 2; have x2 := hSw.2.2.at 2; have y3 := hSw.1.at 3; have z3 := hSw.2.1.at 3; have x3 := hSw.2.2.at 3; first | (go_simp; done) | (go_simp; with_reducible rfl))
  try simp only [Act.put, List.setIfInBounds_toArray, List.set_cons_zero, List.set_cons_succ]
  refine wpAnyH_ready (rs := [8]) (by kernel_rfl) (by simp) ?_
  refine AllReadyH.cons (o := { dst := some 27, op := Op.call { callee := Callee.value (Operand.func 10), args := #[Operand.tmp 25, Operand.tmp 26], argTypes := #[23, 23] }, type := 4, pos := "law.go:67", after := #[{ on := 6, ground := Ground.data }, { on := 7, ground := Ground.data }, { on := 5, ground := Ground.chain }, { on := 5, ground := Ground.guard }], guard := some (5, true) }) rfl (fun K hK => ?_) AllReadyH.nil
  go_simp
  (refine (SM _).mono ?_; rintro e w6 ⟨rfl, g6⟩; have d6 : Below w5.heap.size w5 w6 := (by first | exact below_trans ((Below.refl _ w5).drew) g6.below | exact g6.below); have B6 := below_trans B5 d6; have P6 := P5.later d6; have A6 := A5.later d6; have F6 := F5.later d6)
  refine hK.out _ _ ?_ (fun hHeld => ?_)
  · ((try dsimp only); first | exact ⟨P8, A8, F8⟩ | exact ⟨P6, A6, F6⟩ | exact ⟨P5, A5, F5⟩ | exact ⟨P4, A4, F4⟩)
  clear hK K
  try simp only [Act.put, List.setIfInBounds_toArray, List.set_cons_zero, List.set_cons_succ]
  refine wpAnyH_take (i := 9) (oi := { dst := some 28, op := Op.pick (Operand.tmp 24) (Operand.tmp 27) (Operand.const (Value.bool false)), type := 4, pos := "law.go:67", after := #[{ on := 5, ground := Ground.data }, { on := 8, ground := Ground.data }], guard := none }) (v := ?_) rfl (by kernel_rfl) (by kernel_rfl) (by kernel_rfl) (fun _ _ _ h => h) (Or.inl ⟨by rfl, ?_⟩) (by assumption) ?_
  rotate_left
  · (intro W hSw; (try dsimp only at hSw); have y0 := hSw.1.at 0; have z0 := hSw.2.1.at 0; have x0 := hSw.2.2.at 0; have y1 := hSw.1.at 1; have z1 := hSw.2.1.at 1; have x1 := hSw.2.2.at 1; have y2 := hSw.1.at 2; have z2 := hSw.2.1.at 2; have x2 := hSw.2.2.at 2; have y3 := hSw.1.at 3; have z3 := hSw.2.1.at 3; have x3 := hSw.2.2.at 3; first | (go_simp; done) | (go_simp; with_reducible rfl))
  try simp only [Act.put, List.setIfInBounds_toArray, List.set_cons_zero, List.set_cons_succ]
  refine wpAnyH_take (i := 10) (oi := { dst := some 29, op := Op.move (Operand.tmp 28), type := 4, pos := "law.go:67", after := #[{ on := 9, ground := Ground.data }, { on := 8, ground := Ground.chain }], guard := none }) (v := ?_) rfl (by kernel_rfl) (by kernel_rfl) (by kernel_rfl) (fun _ _ _ h => h) (Or.inl ⟨by rfl, ?_⟩) (by assumption) ?_
  rotate_left
  · (intro W hSw; (try dsimp only at hSw); have y0 := hSw.1.at 0; have z0 := hSw.2.1.at 0; have x0 := hSw.2.2.at 0; have y1 := hSw.1.at 1; have z1 := hSw.2.1.at 1; have x1 := hSw.2.2.at 1; have y2 := hSw.1.at 2; have z2 := hSw.2.1.at 2; have x2 := hSw.2.2.at 2; have y3 := hSw.1.at 3; have z3 := hSw.2.1.at 3; have x3 := hSw.2.2.at 3; first | (go_simp; done) | (go_simp; with_reducible rfl))
  try simp only [Act.put, List.setIfInBounds_toArray, List.set_cons_zero, List.set_cons_succ]
  refine wpAnyH_take (i := 11) (oi := { dst := some 30, op := Op.move (Operand.tmp 6), type := 24, pos := "law.go:67", after := #[{ on := 10, ground := Ground.guard }], guard := some (10, true) }) (v := ?_) rfl (by kernel_rfl) (by kernel_rfl) (by kernel_rfl) (fun _ _ _ h => h) (Or.inl ⟨by rfl, ?_⟩) (by assumption) ?_
  rotate_left
  · (intro W hSw; (try dsimp only at hSw); have y0 := hSw.1.at 0; have z0 := hSw.2.1.at 0; have x0 := hSw.2.2.at 0; have y1 := hSw.1.at 1; have z1 := hSw.2.1.at 1; have x1 := hSw.2.2.at 1; have y2 := hSw.1.at 2; have z2 := hSw.2.1.at 2; have x2 := hSw.2.2.at 2; have y3 := hSw.1.at 3; have z3 := hSw.2.1.at 3; have x3 := hSw.2.2.at 3; first | (go_simp; done) | (go_simp; with_reducible rfl))
  try simp only [Act.put, List.setIfInBounds_toArray, List.set_cons_zero, List.set_cons_succ]
  refine wpAnyH_take (i := 13) (oi := { dst := some 32, op := Op.move (Operand.tmp 8), type := 3, pos := "law.go:67", after := #[{ on := 10, ground := Ground.guard }], guard := some (10, true) }) (v := ?_) rfl (by kernel_rfl) (by kernel_rfl) (by kernel_rfl) (fun _ _ _ h => h) (Or.inl ⟨by rfl, ?_⟩) (by assumption) ?_
  rotate_left
  · (intro W hSw; (try dsimp only at hSw); have y0 := hSw.1.at 0; have z0 := hSw.2.1.at 0; have x0 := hSw.2.2.at 0; have y1 := hSw.1.at 1; have z1 := hSw.2.1.at 1; have x1 := hSw.2.2.at 1; have y2 := hSw.1.at 2; have z2 := hSw.2.1.at 2; have x2 := hSw.2.2.at 2; have y3 := hSw.1.at 3; have z3 := hSw.2.1.at 3; have x3 := hSw.2.2.at 3; first | (go_simp; done) | (go_simp; with_reducible rfl))
  try simp only [Act.put, List.setIfInBounds_toArray, List.set_cons_zero, List.set_cons_succ]
  refine wpAnyH_ready (rs := [12]) (by kernel_rfl) (by simp) ?_
  refine AllReadyH.cons (o := { dst := some 31, op := Op.call { callee := Callee.value (Operand.func 11), args := #[Operand.tmp 30], argTypes := #[24] }, type := 3, pos := "law.go:67", after := #[{ on := 11, ground := Ground.data }, { on := 10, ground := Ground.chain }, { on := 10, ground := Ground.guard }], guard := some (10, true) }) rfl (fun K hK => ?_) AllReadyH.nil
  go_simp
  (refine (NU _ _).mono ?_; rintro e w7 ⟨rfl, rfl⟩)
  refine hK.out _ _ ?_ (fun hHeld => ?_)
  · ((try dsimp only); first | exact ⟨P8, A8, F8⟩ | exact ⟨P6, A6, F6⟩ | exact ⟨P5, A5, F5⟩ | exact ⟨P4, A4, F4⟩)
  clear hK K
  try simp only [Act.put, List.setIfInBounds_toArray, List.set_cons_zero, List.set_cons_succ]
  refine wpAnyH_take (i := 14) (oi := { dst := some 33, op := Op.binOp BinOp.eql 3 (Operand.tmp 31) (Operand.tmp 32) 3, type := 4, pos := "law.go:67", after := #[{ on := 12, ground := Ground.data }, { on := 13, ground := Ground.data }, { on := 10, ground := Ground.guard }], guard := some (10, true) }) (v := ?_) rfl (by kernel_rfl) (by kernel_rfl) (by kernel_rfl) (fun _ _ _ h => h) (Or.inl ⟨by rfl, ?_⟩) (by assumption) ?_
  rotate_left
  · (intro W hSw; (try dsimp only at hSw); have y0 := hSw.1.at 0; have z0 := hSw.2.1.at 0; have x0 := hSw.2.2.at 0; have y1 := hSw.1.at 1; have z1 := hSw.2.1.at 1; have x1 := hSw.2.2.at 1; have y2 := hSw.1.at 2; have z2 := hSw.2.1.at 2; have x2 := hSw.2.2.at 2; have y3 := hSw.1.at 3; have z3 := hSw.2.1.at 3; have x3 := hSw.2.2.at 3; first | (go_simp; done) | (go_simp; with_reducible rfl))
  try simp only [Act.put, List.setIfInBounds_toArray, List.set_cons_zero, List.set_cons_succ]
  refine wpAnyH_take (i := 15) (oi := { dst := some 34, op := Op.pick (Operand.tmp 29) (Operand.tmp 33) (Operand.const (Value.bool false)), type := 4, pos := "law.go:67", after := #[{ on := 10, ground := Ground.data }, { on := 14, ground := Ground.data }], guard := none }) (v := ?_) rfl (by kernel_rfl) (by kernel_rfl) (by kernel_rfl) (fun _ _ _ h => h) (Or.inl ⟨by rfl, ?_⟩) (by assumption) ?_
  rotate_left
  · (intro W hSw; (try dsimp only at hSw); have y0 := hSw.1.at 0; have z0 := hSw.2.1.at 0; have x0 := hSw.2.2.at 0; have y1 := hSw.1.at 1; have z1 := hSw.2.1.at 1; have x1 := hSw.2.2.at 1; have y2 := hSw.1.at 2; have z2 := hSw.2.1.at 2; have x2 := hSw.2.2.at 2; have y3 := hSw.1.at 3; have z3 := hSw.2.1.at 3; have x3 := hSw.2.2.at 3; first | (go_simp; done) | (go_simp; with_reducible rfl))
  try simp only [Act.put, List.setIfInBounds_toArray, List.set_cons_zero, List.set_cons_succ]
  refine wpAnyH_take (i := 16) (oi := { dst := some 35, op := Op.move (Operand.tmp 34), type := 4, pos := "law.go:67", after := #[{ on := 15, ground := Ground.data }, { on := 12, ground := Ground.chain }], guard := none }) (v := ?_) rfl (by kernel_rfl) (by kernel_rfl) (by kernel_rfl) (fun _ _ _ h => h) (Or.inl ⟨by rfl, ?_⟩) (by assumption) ?_
  rotate_left
  · (intro W hSw; (try dsimp only at hSw); have y0 := hSw.1.at 0; have z0 := hSw.2.1.at 0; have x0 := hSw.2.2.at 0; have y1 := hSw.1.at 1; have z1 := hSw.2.1.at 1; have x1 := hSw.2.2.at 1; have y2 := hSw.1.at 2; have z2 := hSw.2.1.at 2; have x2 := hSw.2.2.at 2; have y3 := hSw.1.at 3; have z3 := hSw.2.1.at 3; have x3 := hSw.2.2.at 3; first | (go_simp; done) | (go_simp; with_reducible rfl))
  try simp only [Act.put, List.setIfInBounds_toArray, List.set_cons_zero, List.set_cons_succ]
  refine wpAnyH_ready (rs := [17]) (by kernel_rfl) (by simp) ?_
  refine AllReadyH.cons (o := { dst := some 36, op := Op.call { callee := Callee.value (Operand.func 12), args := #[], argTypes := #[] }, type := 4, pos := "law.go:67", after := #[{ on := 16, ground := Ground.chain }, { on := 16, ground := Ground.guard }], guard := some (16, true) }) rfl (fun K hK => ?_) AllReadyH.nil
  go_simp
  (refine (KN _ (by first | exact B6 | exact B6.drew)).mono ?_; rintro e w8 ⟨rfl, b8⟩; have d8 : Below w6.heap.size w6 w8 := (by first | exact below_trans ((Below.refl _ w6).drew) b8 | exact b8); have B8 := below_trans B6 d8; have P8 := P6.later d8; have A8 := A6.later d8; have F8 := F6.later d8)
  refine hK.out _ _ ?_ (fun hHeld => ?_)
  · ((try dsimp only); first | exact ⟨P8, A8, F8⟩ | exact ⟨P6, A6, F6⟩ | exact ⟨P5, A5, F5⟩ | exact ⟨P4, A4, F4⟩)
  clear hK K
  try simp only [Act.put, List.setIfInBounds_toArray, List.set_cons_zero, List.set_cons_succ]
  refine wpAnyH_take (i := 18) (oi := { dst := some 37, op := Op.pick (Operand.tmp 35) (Operand.tmp 36) (Operand.const (Value.bool false)), type := 4, pos := "law.go:67", after := #[{ on := 16, ground := Ground.data }, { on := 17, ground := Ground.data }], guard := none }) (v := ?_) rfl (by kernel_rfl) (by kernel_rfl) (by kernel_rfl) (fun _ _ _ h => h) (Or.inl ⟨by rfl, ?_⟩) (by assumption) ?_
  rotate_left
  · (intro W hSw; (try dsimp only at hSw); have y0 := hSw.1.at 0; have z0 := hSw.2.1.at 0; have x0 := hSw.2.2.at 0; have y1 := hSw.1.at 1; have z1 := hSw.2.1.at 1; have x1 := hSw.2.2.at 1; have y2 := hSw.1.at 2; have z2 := hSw.2.1.at 2; have x2 := hSw.2.2.at 2; have y3 := hSw.1.at 3; have z3 := hSw.2.1.at 3; have x3 := hSw.2.2.at 3; first | (go_simp; done) | (go_simp; with_reducible rfl))
  try simp only [Act.put, List.setIfInBounds_toArray, List.set_cons_zero, List.set_cons_succ]
  refine wpAnyH_take (i := 19) (oi := { dst := some 4, op := Op.assign (Operand.tmp 37), type := 4, pos := "law.go:67", after := #[{ on := 18, ground := Ground.data }, { on := 17, ground := Ground.chain }, { on := 0, ground := Ground.phase }, { on := 1, ground := Ground.phase }, { on := 2, ground := Ground.phase }, { on := 3, ground := Ground.phase }, { on := 4, ground := Ground.phase }, { on := 5, ground := Ground.phase }, { on := 6, ground := Ground.phase }, { on := 7, ground := Ground.phase }, { on := 8, ground := Ground.phase }, { on := 9, ground := Ground.phase }, { on := 10, ground := Ground.phase }, { on := 11, ground := Ground.phase }, { on := 12, ground := Ground.phase }, { on := 13, ground := Ground.phase }, { on := 14, ground := Ground.phase }, { on := 15, ground := Ground.phase }, { on := 16, ground := Ground.phase }, { on := 17, ground := Ground.phase }, { on := 18, ground := Ground.phase }], guard := none }) (v := ?_) rfl (by kernel_rfl) (by kernel_rfl) (by kernel_rfl) (fun _ _ _ h => h) (Or.inl ⟨by rfl, ?_⟩) (by assumption) ?_
  rotate_left
  · (intro W hSw; (try dsimp only at hSw); have y0 := hSw.1.at 0; have z0 := hSw.2.1.at 0; have x0 := hSw.2.2.at 0; have y1 := hSw.1.at 1; have z1 := hSw.2.1.at 1; have x1 := hSw.2.2.at 1; have y2 := hSw.1.at 2; have z2 := hSw.2.1.at 2; have x2 := hSw.2.2.at 2; have y3 := hSw.1.at 3; have z3 := hSw.2.1.at 3; have x3 := hSw.2.2.at 3; first | (go_simp; done) | (go_simp; with_reducible rfl))
  try simp only [Act.put, List.setIfInBounds_toArray, List.set_cons_zero, List.set_cons_succ]
  refine wpAnyH_done (by kernel_rfl) ?_ _
  go_wp2
  go_ret
  exact ⟨rfl, B8⟩
theorem texts_all (v : Va) (s : ByteArray) (w : World) (hn : rg v) (hl : s.size ≤ 140737488351232) (hT : Tabs w) (hP : Pt.Ptab w) (hE : Pt.Ers w) :
    Calls Tryz.prog 3 #[va v.k v.n v.m ⟨v.b.toArray⟩, .string s] w fun e w' => e = .returned (.bool true) ∧ Below w.heap.size w w' := by
  obtain ⟨⟨t⟩⟩ := s
  have GP : ∀ W, Below w.heap.size w W → Calls Tryz.prog 6 #[.string ⟨t.toArray⟩] W fun e w' => e = .returned (dpR (dpG t)) ∧ Below W.heap.size W w' := fun W h => parse_any t W hl (hT.later h) (hP.later h) (hE.later h)
  have RP : ∀ W, Calls Tryz.prog 7 #[.string ⟨t.toArray⟩] W fun e w' => e = .returned (dpR (drG t)) ∧ Below W.heap.size W w' := fun W => rparse_all4 t W hl
  have PR : ∀ W, Below w.heap.size w W → _ := fun W h => print_any v W (hT.later h) (hP.later h) hn
  have RT := fun W => rprint_all v W hn
  have SM : ∀ k n m b W, Calls Tryz.prog 10 #[va k n m b, va k n m b] W fun e w' => e = .returned (.bool true) ∧ Grew W w' := fun k n m b W => by
    have := rsame_any k n m b k n m b W
    simpa using this
  have KN : ∀ W, Below w.heap.size w W → _ := fun W h => knows_any W (hT.later h)
  rw [← same t] at RP
  cases hr : dpG t with
  | none =>
    rw [hr] at GP RP
    exact texts_walk _ _ _ _ _ _ _ _ _ _ _ w GP RP PR RT (SM _ _ _ _) lnum_any KN
  | some u =>
    rw [hr] at GP RP
    exact texts_walk _ _ _ _ _ _ _ _ _ _ _ w GP RP PR RT (SM _ _ _ _) lnum_any KN
end Go.Proofs.YtibbenhplmmmiaaGreatDoor.Dt

namespace Go.Proofs.YtibbenhplmmmiaaGreatDoor
open Go.ChangeShapes Go.WideShapes Go.ChangeAt Go.WideMaps Go.WideElems Go.RowKit Go.Shelf Go.Lib
open Go.ChangeMaps (open_string shut_string)

set_option maxRecDepth 100000 in
theorem dtx_lifted (os : Os) (started : os.Started) (H : Type) (enc : TypeId × Value → H) :
    ReturnsInHanded {} Tryz.checked os 3 .any (fun w args => (Rows.datumTextsSpec.pre enc Tryz.prog Tryz.f3 [] false w args ∧ laidMetH Tryz.prog Rows.datumTextsRow.laid w) ∧ sizedMet enc Tryz.prog Tryz.f3 (OpenSpec.ofChange Rows.datumTextsSpec) false w args)
      (Rows.datumTextsSpec.post enc Tryz.prog Tryz.f3 false true false false) := by
  refine returnsInHanded_of_change_and (C := Tryz.checked) (X := fun w _ => laidMetH Tryz.prog Rows.datumTextsRow.laid w) (fun _ _ _ hh h => h.of_heap hh) own started (by kernel_rfl) Tryz.func3
    (ChangeSpec.witness_shaped (enc := enc) (C := Tryz.checked) (os := os) (X := fun w _ => laidMetH Tryz.prog Rows.datumTextsRow.laid w) false (World.laidAll Tryz.prog os Rows.datumTextsRow.laid) #[.agg #[.int .i64 0, .int .i64 0, .int .i64 0, .string ⟨#[]⟩], .string ⟨#[]⟩] 8 (World.laidAll_os _ _ _)
      (World.shaped_of_ZipB (by kernel_rfl) (by kernel_rfl)) (by kernel_rfl) (by kernel_rfl) (by kernel_rfl)
      (by rw [MakeChecks.laidMetH_plain _ _ _ (by kernel_rfl)]; exact laidMet_laidAll _ (by kernel_rfl) (by kernel_rfl))) ?_
  intro W base args ds gs before hval0 hW _ hsz0 hL _
  have hval : ∀ (j : Nat) t v, Tryz.f3.params[j]? = some t → args[j]? = some v → Value.okWide Tryz.prog W .any base t v := hval0
  have hsz : (DataW.weightsEach Tryz.prog (Tryz.f3.params.toList ++ Rows.datumTextsSpec.plain.varTypes Tryz.prog) (ds ++ gs)).all (· ≤ reachBytes) = true := hsz0
  have hW' := hW
  obtain ⟨p, q, hA0, hV, rfl, hfz, hnd⟩ := hW
  have hA : DataW.TrodAll enc Tryz.prog W 0 (fun _ => true) true Tryz.f3.params.toList args.toList ds p := hA0
  rw [Tryz.params3] at hA hval hsz
  obtain ⟨v0, v1, d0, d1, p0, p1, rfl, rfl, rfl, h0, h1⟩ := trodAll_two hA
  obtain ⟨rfl, rfl⟩ := trodVars_none hV
  obtain ⟨cs0, rfl, _⟩ := okWide_struct Tryz.underlying23 (hval 0 23 v0 rfl rfl)
  have k0 := h0
  have lt0 : ∀ x ∈ p0, x.block < W.heap.size := by obtain ⟨m, hm⟩ := k0; exact DataW.trod_lt m _ _ _ hm
  obtain ⟨f0, hf0⟩ := h0
  obtain ⟨x0, ex0, vi0, ki0, bl0⟩ := val_cells hf0
  obtain rfl : cs0 = #[.int .i64 x0.k, .int .i64 x0.n, .int .i64 x0.m, .string ⟨x0.b.toArray⟩] := by obtain ⟨l⟩ := cs0; exact congrArg List.toArray ex0
  obtain ⟨s1, rfl, rfl, rfl, w1⟩ := open_string Tryz.underlying9 (hval 1 9 v1 rfl rfl) h1
  have z1 := sized_string hsz (j := 1) (t := 9) rfl rfl
  clear hA0 hval0 hsz0
  rw [MakeChecks.laidMetH_plain _ _ _ (by kernel_rfl)] at hL
  have hT : Tabs W := tabs_of (Lib.laidMet.reads hL (.tail _ (.tail _ (.tail _ (.tail _ (.tail _ (.tail _ (.head _)))))))) (Lib.laidMet.reads hL (.tail _ (.tail _ (.tail _ (.head _)))))
  have hP : Pt.Ptab W := Pt.ptab_of (Lib.laidMet.reads hL (.tail _ (.tail _ (.head _))))
  have hE : Pt.Ers W := ⟨Pt.esy_of hL.tail.tail.tail.tail.tail, Pt.era_of hL.tail.tail.tail.tail⟩
  refine (Dt.texts_all x0 s1 W (by unfold Dt.rg; exact vi0.1) z1 hT hP hE).mono fun e W' ⟨he, bel⟩ => ?_
  subst he
  exact ⟨_, rfl, _, _, _, [], _, [], hW', trodAll_mk1 (shut_bool Tryz.underlying4 _), trodAll_mk2 (Below.trod laidOut (by kernel_rfl) (of_decide_eq_true (by kernel_rfl)) k0 bel lt0) (shut_string Tryz.underlying9 w1), rfl, bel.frame _, fun h => by cases h⟩
end Go.Proofs.YtibbenhplmmmiaaGreatDoor
