/-
  The walk of GaussTexts.
-/
import Derived.Test.YtibbenhplmmmiaaDoorPtR
import Derived.Test.YtibbenhplmmmiaaDoorGKnows
namespace Go.Proofs.YtibbenhplmmmiaaDoor.Pt
open Go.RowKit Go.Shelf
attribute [local go_sem] cell?_more frozen?_more setCell_more more_lt more_more more_drew more_drewN setCell_drewN alloc_drewN

set_option maxRecDepth 20000 in
set_option maxHeartbeats 4000000 in
theorem texts_right (x y n m er : Int) (SB TB : ByteArray) (w : World)
    (GP : ∀ W, Below w.heap.size w W → Calls Tryd.prog 4 #[.string SB] W fun e w' => e = .returned (.tuple #[.agg #[.int .i64 n, .int .i64 m], .int .i64 er]) ∧ Below W.heap.size W w')
    (RP : ∀ W, Calls Tryd.prog 5 #[.string SB] W fun e w' => e = .returned (.tuple #[.agg #[.int .i64 n, .int .i64 m], .int .i64 er]) ∧ Below W.heap.size W w')
    (OW : ∀ W, Calls Tryd.prog 7 #[.agg #[.int .i64 x, .int .i64 y]] W fun e w' => e = .returned (.agg #[.int .i64 x, .int .i64 y]) ∧ Grew W w')
    (PR : ∀ W, Below w.heap.size w W → Calls Tryd.prog 6 #[.agg #[.int .i64 x, .int .i64 y]] W fun e w' => e = .returned (.string TB) ∧ Below W.heap.size W w')
    (PT : ∀ W, Below w.heap.size w W → Calls Tryd.prog 4 #[.string TB] W fun e w' => e = .returned (.tuple #[.agg #[.int .i64 x, .int .i64 y], .int .i64 0]) ∧ Below W.heap.size W w')
    (RR : ∀ W, Calls Tryd.prog 8 #[.agg #[.int .i64 x, .int .i64 y]] W fun e w' => e = .returned (.bool true) ∧ Grew W w')
    (RT : ∀ W, Calls Tryd.prog 11 #[.agg #[.int .i64 x, .int .i64 y]] W fun e w' => e = .returned (.string TB) ∧ Below W.heap.size W w')
    (SM : ∀ a b W, Calls Tryd.prog 10 #[.agg #[.int .i64 a, .int .i64 b], .agg #[.int .i64 a, .int .i64 b]] W fun e w' => e = .returned (.bool true) ∧ Grew W w')
    (NU : ∀ (a : Int) W, Calls Tryd.prog 9 #[.int .i64 a] W fun e w' => e = .returned (.int .i64 a) ∧ W = w')
    (KN : ∀ W, Calls Tryd.prog 12 #[] W fun e w' => e = .returned (.bool true) ∧ Grew W w') :
    Calls Tryd.prog 3 #[.agg #[.int .i64 x, .int .i64 y], .string SB] w fun e w' => e = .returned (.bool true) ∧ Below w.heap.size w w' := by
  have heq : (TB.toList == TB.toList) = true := by simp
  have B0 : Below w.heap.size w (w.alloc (.cells #[.int .i64 x, .int .i64 y] 23)) := (Below.refl _ w).alloc (Nat.le_refl _) _
  have P0 := Cbox.new w #[.int .i64 x, .int .i64 y] 23
  go_enter Tryd.func3, Tryd.ntmps3
  go_upto_region 1 with fail
  generalize w.alloc (.cells #[.int .i64 x, .int .i64 y] 23) = w0 at *
  go_wp2_with fail
  refine (GP _ B0).mono ?_
  rintro e w1 ⟨rfl, b1⟩
  have B1 := below_trans B0 b1
  have P1 := P0.later b1
  have u1 : Below w1.heap.size w1 (w1.alloc (.cells #[.int .i64 n, .int .i64 m] 24)) := (Below.refl _ _).alloc (Nat.le_refl _) _
  have A1 := Cbox.new w1 #[.int .i64 n, .int .i64 m] 24
  have B1' := below_trans B1 u1
  have P1' := P1.later u1
  go_upto_region 2 with fail
  generalize w1.alloc (.cells #[.int .i64 n, .int .i64 m] 24) = v1 at *
  go_wp2_with fail
  refine (RP _).mono ?_
  rintro e w2 ⟨rfl, b2⟩
  have B2 := below_trans B1' b2
  have P2 := P1'.later b2
  have A2 := A1.later b2
  have u2 : Below w2.heap.size w2 (w2.alloc (.cells #[.int .i64 n, .int .i64 m] 23)) := (Below.refl _ _).alloc (Nat.le_refl _) _
  have F2 := Cbox.new w2 #[.int .i64 n, .int .i64 m] 23
  have B2' := below_trans B2 u2
  have P2' := P2.later u2
  have A2' := A2.later u2
  go_upto_region 3 with fail
  generalize w2.alloc (.cells #[.int .i64 n, .int .i64 m] 23) = v2 at *
  have z0 := P2'.at 0
  have z1 := P2'.at 1
  clear P0 P1 P1' P2 A1 A2 u1 u2 b1 b2
  go_wp2_with fail
  refine (OW _).mono ?_
  rintro e w3 ⟨rfl, g3⟩
  have B3 := below_trans B2' g3.below
  go_wp2_with fail
  refine (PR _ B3).mono ?_
  rintro e w4 ⟨rfl, b4⟩
  have B4 := below_trans B3 b4
  go_wp2_with fail
  refine (PT _ B4).mono ?_
  rintro e w5 ⟨rfl, b5⟩
  have B5 := below_trans B4 b5
  have d5 := below_trans g3.below (below_trans b4 b5)
  have P5 := P2'.later d5
  have A5 := A2'.later d5
  have F5 := F2.later d5
  have u5 : Below w5.heap.size w5 (w5.alloc (.cells #[.int .i64 x, .int .i64 y] 24)) := (Below.refl _ _).alloc (Nat.le_refl _) _
  have C5 := Cbox.new w5 #[.int .i64 x, .int .i64 y] 24
  have B5' := below_trans B5 u5
  have P5' := P5.later u5
  have A5' := A5.later u5
  have F5' := F5.later u5
  go_upto_region 4 with fail
  generalize w5.alloc (.cells #[.int .i64 x, .int .i64 y] 24) = v5 at *
  have z0 := P5'.at 0
  have z1 := P5'.at 1
  clear P2' A2' F2 P5 A5 F5 u5 d5
  go_wp2_with fail
  refine (RR _).mono ?_
  rintro e w6 ⟨rfl, g6⟩
  have B6 := below_trans B5' g6.below
  have P6 := P5'.later g6.below
  have A6 := A5'.later g6.below
  have F6 := F5'.later g6.below
  have C6 := C5.later g6.below
  have z0 := P6.at 0
  have z1 := P6.at 1
  have c0 := C6.at 0
  have c1 := C6.at 1
  clear P5' A5' F5' C5
  go_wp2_with fail
  refine (NU _ _).mono ?_
  rintro e w7 ⟨rfl, rfl⟩
  go_wp2_with fail
  refine (SM _ _ _).mono ?_
  rintro e w8 ⟨rfl, g8⟩
  have d8 : Below w6.heap.size w6 w8 := g8.below
  have B8 := below_trans B6 d8
  have P8 := P6.later d8
  have A8 := A6.later d8
  have F8 := F6.later d8
  go_upto_region 6 with fail
  clear P6 A6 F6 C6 c0 c1 z0 z1
  refine wp_region_held_drew (S := (fun W => Cbox W w.heap.size #[.int .i64 x, .int .i64 y] 23 ∧ Cbox W w1.heap.size #[.int .i64 n, .int .i64 m] 24 ∧ Cbox W w2.heap.size #[.int .i64 n, .int .i64 m] 23)) (by kernel_rfl) ?_ (fun hHeld => ?_)
  · ((try dsimp only); exact ⟨P8, A8, F8⟩)
  refine wpAnyH_take (i := 0) (oi := { dst := some 41, op := Op.load 23 (Operand.tmp 2), type := 23, pos := "law.go:51", after := #[], guard := none }) (v := ?_) rfl (by kernel_rfl) (by kernel_rfl) (by kernel_rfl) (fun _ _ _ h => h) (Or.inl ⟨by rfl, ?_⟩) (by assumption) ?_
  rotate_left
  · (intro W hSw; (try dsimp only at hSw); have y0 := hSw.1.at 0; have y1 := hSw.1.at 1; have y2 := hSw.2.1.at 0; have y3 := hSw.2.1.at 1; have y4 := hSw.2.2.at 0; have y5 := hSw.2.2.at 1; first | (go_simp; done) | (go_simp; with_reducible rfl))
  try simp only [Act.put, List.setIfInBounds_toArray, List.set_cons_zero, List.set_cons_succ]
  refine wpAnyH_take (i := 3) (oi := { dst := some 44, op := Op.load 23 (Operand.tmp 2), type := 23, pos := "law.go:51", after := #[], guard := none }) (v := ?_) rfl (by kernel_rfl) (by kernel_rfl) (by kernel_rfl) (fun _ _ _ h => h) (Or.inl ⟨by rfl, ?_⟩) (by assumption) ?_
  rotate_left
  · (intro W hSw; (try dsimp only at hSw); have y0 := hSw.1.at 0; have y1 := hSw.1.at 1; have y2 := hSw.2.1.at 0; have y3 := hSw.2.1.at 1; have y4 := hSw.2.2.at 0; have y5 := hSw.2.2.at 1; first | (go_simp; done) | (go_simp; with_reducible rfl))
  try simp only [Act.put, List.setIfInBounds_toArray, List.set_cons_zero, List.set_cons_succ]
  refine wpAnyH_ready (rs := [1]) (by kernel_rfl) (by simp) ?_
  refine AllReadyH.cons (o := { dst := some 42, op := Op.call { callee := Callee.value (Operand.func 7), args := #[Operand.tmp 41], argTypes := #[23] }, type := 24, pos := "law.go:51", after := #[{ on := 0, ground := Ground.data }], guard := none }) rfl (fun K hK => ?_) AllReadyH.nil
  go_simp
  (refine (OW _).mono ?_; rintro e w9 ⟨rfl, g9⟩; have d9 : Below w8.heap.size w8 w9 := (by first | exact below_trans ((Below.refl _ w8).drew) g9.below | exact g9.below); have B9 := below_trans B8 d9; have P9 := P8.later d9; have A9 := A8.later d9; have F9 := F8.later d9)
  refine hK.out _ _ ?_ (fun hHeld => ?_)
  · ((try dsimp only); first | exact ⟨P14, A14, F14⟩ | exact ⟨P12, A12, F12⟩ | exact ⟨P11, A11, F11⟩ | exact ⟨P10, A10, F10⟩ | exact ⟨P9, A9, F9⟩)
  clear hK K
  try simp only [Act.put, List.setIfInBounds_toArray, List.set_cons_zero, List.set_cons_succ]
  refine wpAnyH_ready (rs := [2]) (by kernel_rfl) (by simp) ?_
  refine AllReadyH.cons (o := { dst := some 43, op := Op.call { callee := Callee.value (Operand.func 6), args := #[Operand.tmp 42], argTypes := #[24] }, type := 9, pos := "law.go:51", after := #[{ on := 1, ground := Ground.data }, { on := 1, ground := Ground.chain }], guard := none }) rfl (fun K hK => ?_) AllReadyH.nil
  go_simp
  (refine (PR _ (by first | exact B9 | exact B9.drew)).mono ?_; rintro e w10 ⟨rfl, b10⟩; have d10 : Below w9.heap.size w9 w10 := (by first | exact below_trans ((Below.refl _ w9).drew) b10 | exact b10); have B10 := below_trans B9 d10; have P10 := P9.later d10; have A10 := A9.later d10; have F10 := F9.later d10)
  refine hK.out _ _ ?_ (fun hHeld => ?_)
  · ((try dsimp only); first | exact ⟨P14, A14, F14⟩ | exact ⟨P12, A12, F12⟩ | exact ⟨P11, A11, F11⟩ | exact ⟨P10, A10, F10⟩ | exact ⟨P9, A9, F9⟩)
  clear hK K
  try simp only [Act.put, List.setIfInBounds_toArray, List.set_cons_zero, List.set_cons_succ]
  refine wpAnyH_ready (rs := [4]) (by kernel_rfl) (by simp) ?_
  refine AllReadyH.cons (o := { dst := some 45, op := Op.call { callee := Callee.value (Operand.func 11), args := #[Operand.tmp 44], argTypes := #[23] }, type := 9, pos := "law.go:51", after := #[{ on := 3, ground := Ground.data }, { on := 2, ground := Ground.chain }], guard := none }) rfl (fun K hK => ?_) AllReadyH.nil
  go_simp
  (refine (RT _).mono ?_; rintro e w11 ⟨rfl, b11⟩; have d11 : Below w10.heap.size w10 w11 := (by first | exact below_trans ((Below.refl _ w10).drew) b11 | exact b11); have B11 := below_trans B10 d11; have P11 := P10.later d11; have A11 := A10.later d11; have F11 := F10.later d11)
  refine hK.out _ _ ?_ (fun hHeld => ?_)
  · ((try dsimp only); first | exact ⟨P14, A14, F14⟩ | exact ⟨P12, A12, F12⟩ | exact ⟨P11, A11, F11⟩ | exact ⟨P10, A10, F10⟩ | exact ⟨P9, A9, F9⟩)
  clear hK K
  try simp only [Act.put, List.setIfInBounds_toArray, List.set_cons_zero, List.set_cons_succ]
  refine wpAnyH_take (i := 5) (oi := { dst := some 46, op := Op.binOp BinOp.eql 9 (Operand.tmp 43) (Operand.tmp 45) 9, type := 4, pos := "law.go:51", after := #[{ on := 2, ground := Ground.data }, { on := 4, ground := Ground.data }], guard := none }) (v := ?_) rfl (by kernel_rfl) (by kernel_rfl) (by kernel_rfl) (fun _ _ _ h => h) (Or.inl ⟨by rfl, ?_⟩) (by assumption) ?_
  rotate_left
  · (intro W hSw; (try dsimp only at hSw); have y0 := hSw.1.at 0; have y1 := hSw.1.at 1; have y2 := hSw.2.1.at 0; have y3 := hSw.2.1.at 1; have y4 := hSw.2.2.at 0; have y5 := hSw.2.2.at 1; first | (go_simp; done) | (go_simp; with_reducible rfl))
  try simp only [Act.put, List.setIfInBounds_toArray, List.set_cons_zero, List.set_cons_succ]
  refine wpAnyH_take (i := 6) (oi := { dst := some 47, op := Op.move (Operand.tmp 46), type := 4, pos := "law.go:51", after := #[{ on := 5, ground := Ground.data }, { on := 4, ground := Ground.chain }], guard := none }) (v := ?_) rfl (by kernel_rfl) (by kernel_rfl) (by kernel_rfl) (fun _ _ _ h => h) (Or.inl ⟨by rfl, ?_⟩) (by assumption) ?_
  rotate_left
  · (intro W hSw; (try dsimp only at hSw); have y0 := hSw.1.at 0; have y1 := hSw.1.at 1; have y2 := hSw.2.1.at 0; have y3 := hSw.2.1.at 1; have y4 := hSw.2.2.at 0; have y5 := hSw.2.2.at 1; first | (go_simp; done) | (go_simp; with_reducible rfl))
  try simp only [Act.put, List.setIfInBounds_toArray, List.set_cons_zero, List.set_cons_succ]
  refine wpAnyH_take (i := 7) (oi := { dst := some 48, op := Op.load 24 (Operand.tmp 5), type := 24, pos := "law.go:51", after := #[{ on := 6, ground := Ground.guard }], guard := some (6, true) }) (v := ?_) rfl (by kernel_rfl) (by kernel_rfl) (by kernel_rfl) (fun _ _ _ h => h) (Or.inl ⟨by rfl, ?_⟩) (by assumption) ?_
  rotate_left
  · (intro W hSw; (try dsimp only at hSw); have y0 := hSw.1.at 0; have y1 := hSw.1.at 1; have y2 := hSw.2.1.at 0; have y3 := hSw.2.1.at 1; have y4 := hSw.2.2.at 0; have y5 := hSw.2.2.at 1; first | (go_simp; done) | (go_simp; with_reducible rfl))
  try simp only [Act.put, List.setIfInBounds_toArray, List.set_cons_zero, List.set_cons_succ]
  refine wpAnyH_take (i := 8) (oi := { dst := some 49, op := Op.load 23 (Operand.tmp 7), type := 23, pos := "law.go:51", after := #[{ on := 6, ground := Ground.guard }], guard := some (6, true) }) (v := ?_) rfl (by kernel_rfl) (by kernel_rfl) (by kernel_rfl) (fun _ _ _ h => h) (Or.inl ⟨by rfl, ?_⟩) (by assumption) ?_
  rotate_left
  · (intro W hSw; (try dsimp only at hSw); have y0 := hSw.1.at 0; have y1 := hSw.1.at 1; have y2 := hSw.2.1.at 0; have y3 := hSw.2.1.at 1; have y4 := hSw.2.2.at 0; have y5 := hSw.2.2.at 1; first | (go_simp; done) | (go_simp; with_reducible rfl))
  try simp only [Act.put, List.setIfInBounds_toArray, List.set_cons_zero, List.set_cons_succ]
  refine wpAnyH_ready (rs := [9]) (by kernel_rfl) (by simp) ?_
  refine AllReadyH.cons (o := { dst := some 50, op := Op.call { callee := Callee.value (Operand.func 10), args := #[Operand.tmp 48, Operand.tmp 49], argTypes := #[24, 23] }, type := 4, pos := "law.go:51", after := #[{ on := 7, ground := Ground.data }, { on := 8, ground := Ground.data }, { on := 6, ground := Ground.chain }, { on := 6, ground := Ground.guard }], guard := some (6, true) }) rfl (fun K hK => ?_) AllReadyH.nil
  go_simp
  (refine (SM _ _ _).mono ?_; rintro e w12 ⟨rfl, g12⟩; have d12 : Below w11.heap.size w11 w12 := (by first | exact below_trans ((Below.refl _ w11).drew) g12.below | exact g12.below); have B12 := below_trans B11 d12; have P12 := P11.later d12; have A12 := A11.later d12; have F12 := F11.later d12)
  refine hK.out _ _ ?_ (fun hHeld => ?_)
  · ((try dsimp only); first | exact ⟨P14, A14, F14⟩ | exact ⟨P12, A12, F12⟩ | exact ⟨P11, A11, F11⟩ | exact ⟨P10, A10, F10⟩ | exact ⟨P9, A9, F9⟩)
  clear hK K
  try simp only [Act.put, List.setIfInBounds_toArray, List.set_cons_zero, List.set_cons_succ]
  refine wpAnyH_take (i := 10) (oi := { dst := some 51, op := Op.pick (Operand.tmp 47) (Operand.tmp 50) (Operand.const (Value.bool false)), type := 4, pos := "law.go:51", after := #[{ on := 6, ground := Ground.data }, { on := 9, ground := Ground.data }], guard := none }) (v := ?_) rfl (by kernel_rfl) (by kernel_rfl) (by kernel_rfl) (fun _ _ _ h => h) (Or.inl ⟨by rfl, ?_⟩) (by assumption) ?_
  rotate_left
  · (intro W hSw; (try dsimp only at hSw); have y0 := hSw.1.at 0; have y1 := hSw.1.at 1; have y2 := hSw.2.1.at 0; have y3 := hSw.2.1.at 1; have y4 := hSw.2.2.at 0; have y5 := hSw.2.2.at 1; first | (go_simp; done) | (go_simp; with_reducible rfl))
  try simp only [Act.put, List.setIfInBounds_toArray, List.set_cons_zero, List.set_cons_succ]
  refine wpAnyH_take (i := 11) (oi := { dst := some 52, op := Op.move (Operand.tmp 51), type := 4, pos := "law.go:51", after := #[{ on := 10, ground := Ground.data }, { on := 9, ground := Ground.chain }], guard := none }) (v := ?_) rfl (by kernel_rfl) (by kernel_rfl) (by kernel_rfl) (fun _ _ _ h => h) (Or.inl ⟨by rfl, ?_⟩) (by assumption) ?_
  rotate_left
  · (intro W hSw; (try dsimp only at hSw); have y0 := hSw.1.at 0; have y1 := hSw.1.at 1; have y2 := hSw.2.1.at 0; have y3 := hSw.2.1.at 1; have y4 := hSw.2.2.at 0; have y5 := hSw.2.2.at 1; first | (go_simp; done) | (go_simp; with_reducible rfl))
  try simp only [Act.put, List.setIfInBounds_toArray, List.set_cons_zero, List.set_cons_succ]
  refine wpAnyH_take (i := 12) (oi := { dst := some 53, op := Op.move (Operand.tmp 6), type := 25, pos := "law.go:51", after := #[{ on := 11, ground := Ground.guard }], guard := some (11, true) }) (v := ?_) rfl (by kernel_rfl) (by kernel_rfl) (by kernel_rfl) (fun _ _ _ h => h) (Or.inl ⟨by rfl, ?_⟩) (by assumption) ?_
  rotate_left
  · (intro W hSw; (try dsimp only at hSw); have y0 := hSw.1.at 0; have y1 := hSw.1.at 1; have y2 := hSw.2.1.at 0; have y3 := hSw.2.1.at 1; have y4 := hSw.2.2.at 0; have y5 := hSw.2.2.at 1; first | (go_simp; done) | (go_simp; with_reducible rfl))
  try simp only [Act.put, List.setIfInBounds_toArray, List.set_cons_zero, List.set_cons_succ]
  refine wpAnyH_take (i := 14) (oi := { dst := some 55, op := Op.move (Operand.tmp 8), type := 3, pos := "law.go:51", after := #[{ on := 11, ground := Ground.guard }], guard := some (11, true) }) (v := ?_) rfl (by kernel_rfl) (by kernel_rfl) (by kernel_rfl) (fun _ _ _ h => h) (Or.inl ⟨by rfl, ?_⟩) (by assumption) ?_
  rotate_left
  · (intro W hSw; (try dsimp only at hSw); have y0 := hSw.1.at 0; have y1 := hSw.1.at 1; have y2 := hSw.2.1.at 0; have y3 := hSw.2.1.at 1; have y4 := hSw.2.2.at 0; have y5 := hSw.2.2.at 1; first | (go_simp; done) | (go_simp; with_reducible rfl))
  try simp only [Act.put, List.setIfInBounds_toArray, List.set_cons_zero, List.set_cons_succ]
  refine wpAnyH_ready (rs := [13]) (by kernel_rfl) (by simp) ?_
  refine AllReadyH.cons (o := { dst := some 54, op := Op.call { callee := Callee.value (Operand.func 9), args := #[Operand.tmp 53], argTypes := #[25] }, type := 3, pos := "law.go:51", after := #[{ on := 12, ground := Ground.data }, { on := 11, ground := Ground.chain }, { on := 11, ground := Ground.guard }], guard := some (11, true) }) rfl (fun K hK => ?_) AllReadyH.nil
  go_simp
  (refine (NU _ _).mono ?_; rintro e w13 ⟨rfl, rfl⟩)
  refine hK.out _ _ ?_ (fun hHeld => ?_)
  · ((try dsimp only); first | exact ⟨P14, A14, F14⟩ | exact ⟨P12, A12, F12⟩ | exact ⟨P11, A11, F11⟩ | exact ⟨P10, A10, F10⟩ | exact ⟨P9, A9, F9⟩)
  clear hK K
  try simp only [Act.put, List.setIfInBounds_toArray, List.set_cons_zero, List.set_cons_succ]
  refine wpAnyH_take (i := 15) (oi := { dst := some 56, op := Op.binOp BinOp.eql 3 (Operand.tmp 54) (Operand.tmp 55) 3, type := 4, pos := "law.go:51", after := #[{ on := 13, ground := Ground.data }, { on := 14, ground := Ground.data }, { on := 11, ground := Ground.guard }], guard := some (11, true) }) (v := ?_) rfl (by kernel_rfl) (by kernel_rfl) (by kernel_rfl) (fun _ _ _ h => h) (Or.inl ⟨by rfl, ?_⟩) (by assumption) ?_
  rotate_left
  · (intro W hSw; (try dsimp only at hSw); have y0 := hSw.1.at 0; have y1 := hSw.1.at 1; have y2 := hSw.2.1.at 0; have y3 := hSw.2.1.at 1; have y4 := hSw.2.2.at 0; have y5 := hSw.2.2.at 1; first | (go_simp; done) | (go_simp; with_reducible rfl))
  try simp only [Act.put, List.setIfInBounds_toArray, List.set_cons_zero, List.set_cons_succ]
  refine wpAnyH_take (i := 16) (oi := { dst := some 57, op := Op.pick (Operand.tmp 52) (Operand.tmp 56) (Operand.const (Value.bool false)), type := 4, pos := "law.go:51", after := #[{ on := 11, ground := Ground.data }, { on := 15, ground := Ground.data }], guard := none }) (v := ?_) rfl (by kernel_rfl) (by kernel_rfl) (by kernel_rfl) (fun _ _ _ h => h) (Or.inl ⟨by rfl, ?_⟩) (by assumption) ?_
  rotate_left
  · (intro W hSw; (try dsimp only at hSw); have y0 := hSw.1.at 0; have y1 := hSw.1.at 1; have y2 := hSw.2.1.at 0; have y3 := hSw.2.1.at 1; have y4 := hSw.2.2.at 0; have y5 := hSw.2.2.at 1; first | (go_simp; done) | (go_simp; with_reducible rfl))
  try simp only [Act.put, List.setIfInBounds_toArray, List.set_cons_zero, List.set_cons_succ]
  refine wpAnyH_take (i := 17) (oi := { dst := some 58, op := Op.move (Operand.tmp 57), type := 4, pos := "law.go:51", after := #[{ on := 16, ground := Ground.data }, { on := 13, ground := Ground.chain }], guard := none }) (v := ?_) rfl (by kernel_rfl) (by kernel_rfl) (by kernel_rfl) (fun _ _ _ h => h) (Or.inl ⟨by rfl, ?_⟩) (by assumption) ?_
  rotate_left
  · (intro W hSw; (try dsimp only at hSw); have y0 := hSw.1.at 0; have y1 := hSw.1.at 1; have y2 := hSw.2.1.at 0; have y3 := hSw.2.1.at 1; have y4 := hSw.2.2.at 0; have y5 := hSw.2.2.at 1; first | (go_simp; done) | (go_simp; with_reducible rfl))
  try simp only [Act.put, List.setIfInBounds_toArray, List.set_cons_zero, List.set_cons_succ]
  refine wpAnyH_ready (rs := [18]) (by kernel_rfl) (by simp) ?_
  refine AllReadyH.cons (o := { dst := some 59, op := Op.call { callee := Callee.value (Operand.func 12), args := #[], argTypes := #[] }, type := 4, pos := "law.go:51", after := #[{ on := 17, ground := Ground.chain }, { on := 17, ground := Ground.guard }], guard := some (17, true) }) rfl (fun K hK => ?_) AllReadyH.nil
  go_simp
  (refine (KN _).mono ?_; rintro e w14 ⟨rfl, g14⟩; have d14 : Below w12.heap.size w12 w14 := (by first | exact below_trans ((Below.refl _ w12).drew) g14.below | exact g14.below); have B14 := below_trans B12 d14; have P14 := P12.later d14; have A14 := A12.later d14; have F14 := F12.later d14)
  refine hK.out _ _ ?_ (fun hHeld => ?_)
  · ((try dsimp only); first | exact ⟨P14, A14, F14⟩ | exact ⟨P12, A12, F12⟩ | exact ⟨P11, A11, F11⟩ | exact ⟨P10, A10, F10⟩ | exact ⟨P9, A9, F9⟩)
  clear hK K
  try simp only [Act.put, List.setIfInBounds_toArray, List.set_cons_zero, List.set_cons_succ]
  refine wpAnyH_take (i := 19) (oi := { dst := some 60, op := Op.pick (Operand.tmp 58) (Operand.tmp 59) (Operand.const (Value.bool false)), type := 4, pos := "law.go:51", after := #[{ on := 17, ground := Ground.data }, { on := 18, ground := Ground.data }], guard := none }) (v := ?_) rfl (by kernel_rfl) (by kernel_rfl) (by kernel_rfl) (fun _ _ _ h => h) (Or.inl ⟨by rfl, ?_⟩) (by assumption) ?_
  rotate_left
  · (intro W hSw; (try dsimp only at hSw); have y0 := hSw.1.at 0; have y1 := hSw.1.at 1; have y2 := hSw.2.1.at 0; have y3 := hSw.2.1.at 1; have y4 := hSw.2.2.at 0; have y5 := hSw.2.2.at 1; first | (go_simp; done) | (go_simp; with_reducible rfl))
  try simp only [Act.put, List.setIfInBounds_toArray, List.set_cons_zero, List.set_cons_succ]
  refine wpAnyH_take (i := 20) (oi := { dst := some 4, op := Op.assign (Operand.tmp 60), type := 4, pos := "law.go:51", after := #[{ on := 19, ground := Ground.data }, { on := 18, ground := Ground.chain }, { on := 0, ground := Ground.phase }, { on := 1, ground := Ground.phase }, { on := 2, ground := Ground.phase }, { on := 3, ground := Ground.phase }, { on := 4, ground := Ground.phase }, { on := 5, ground := Ground.phase }, { on := 6, ground := Ground.phase }, { on := 7, ground := Ground.phase }, { on := 8, ground := Ground.phase }, { on := 9, ground := Ground.phase }, { on := 10, ground := Ground.phase }, { on := 11, ground := Ground.phase }, { on := 12, ground := Ground.phase }, { on := 13, ground := Ground.phase }, { on := 14, ground := Ground.phase }, { on := 15, ground := Ground.phase }, { on := 16, ground := Ground.phase }, { on := 17, ground := Ground.phase }, { on := 18, ground := Ground.phase }, { on := 19, ground := Ground.phase }], guard := none }) (v := ?_) rfl (by kernel_rfl) (by kernel_rfl) (by kernel_rfl) (fun _ _ _ h => h) (Or.inl ⟨by rfl, ?_⟩) (by assumption) ?_
  rotate_left
  · (intro W hSw; (try dsimp only at hSw); have y0 := hSw.1.at 0; have y1 := hSw.1.at 1; have y2 := hSw.2.1.at 0; have y3 := hSw.2.1.at 1; have y4 := hSw.2.2.at 0; have y5 := hSw.2.2.at 1; first | (go_simp; done) | (go_simp; with_reducible rfl))
  try simp only [Act.put, List.setIfInBounds_toArray, List.set_cons_zero, List.set_cons_succ]
  refine wpAnyH_done (by kernel_rfl) ?_ _
  go_wp2
  go_ret
  exact ⟨rfl, B14⟩

set_option maxRecDepth 20000 in
set_option maxHeartbeats 4000000 in
theorem texts_other (x y n m er c d g : Int) (SB TB : ByteArray) (w : World)
    (GP : ∀ W, Below w.heap.size w W → Calls Tryd.prog 4 #[.string SB] W fun e w' => e = .returned (.tuple #[.agg #[.int .i64 n, .int .i64 m], .int .i64 er]) ∧ Below W.heap.size W w')
    (RP : ∀ W, Calls Tryd.prog 5 #[.string SB] W fun e w' => e = .returned (.tuple #[.agg #[.int .i64 n, .int .i64 m], .int .i64 er]) ∧ Below W.heap.size W w')
    (OW : ∀ W, Calls Tryd.prog 7 #[.agg #[.int .i64 x, .int .i64 y]] W fun e w' => e = .returned (.agg #[.int .i64 x, .int .i64 y]) ∧ Grew W w')
    (PR : ∀ W, Below w.heap.size w W → Calls Tryd.prog 6 #[.agg #[.int .i64 x, .int .i64 y]] W fun e w' => e = .returned (.string TB) ∧ Below W.heap.size W w')
    (PT : ∀ W, Below w.heap.size w W → Calls Tryd.prog 4 #[.string TB] W fun e w' => e = .returned (.tuple #[.agg #[.int .i64 c, .int .i64 d], .int .i64 g]) ∧ Below W.heap.size W w')
    (RR : ∀ W, Calls Tryd.prog 8 #[.agg #[.int .i64 x, .int .i64 y]] W fun e w' => e = .returned (.bool false) ∧ Grew W w')
    (RT : ∀ W, Calls Tryd.prog 11 #[.agg #[.int .i64 x, .int .i64 y]] W fun e w' => e = .returned (.string TB) ∧ Below W.heap.size W w')
    (SM : ∀ a b W, Calls Tryd.prog 10 #[.agg #[.int .i64 a, .int .i64 b], .agg #[.int .i64 a, .int .i64 b]] W fun e w' => e = .returned (.bool true) ∧ Grew W w')
    (NU : ∀ (a : Int) W, Calls Tryd.prog 9 #[.int .i64 a] W fun e w' => e = .returned (.int .i64 a) ∧ W = w')
    (KN : ∀ W, Calls Tryd.prog 12 #[] W fun e w' => e = .returned (.bool true) ∧ Grew W w') :
    Calls Tryd.prog 3 #[.agg #[.int .i64 x, .int .i64 y], .string SB] w fun e w' => e = .returned (.bool true) ∧ Below w.heap.size w w' := by
  have heq : (TB.toList == TB.toList) = true := by simp
  have B0 : Below w.heap.size w (w.alloc (.cells #[.int .i64 x, .int .i64 y] 23)) := (Below.refl _ w).alloc (Nat.le_refl _) _
  have P0 := Cbox.new w #[.int .i64 x, .int .i64 y] 23
  go_enter Tryd.func3, Tryd.ntmps3
  go_upto_region 1 with fail
  generalize w.alloc (.cells #[.int .i64 x, .int .i64 y] 23) = w0 at *
  go_wp2_with fail
  refine (GP _ B0).mono ?_
  rintro e w1 ⟨rfl, b1⟩
  have B1 := below_trans B0 b1
  have P1 := P0.later b1
  have u1 : Below w1.heap.size w1 (w1.alloc (.cells #[.int .i64 n, .int .i64 m] 24)) := (Below.refl _ _).alloc (Nat.le_refl _) _
  have A1 := Cbox.new w1 #[.int .i64 n, .int .i64 m] 24
  have B1' := below_trans B1 u1
  have P1' := P1.later u1
  go_upto_region 2 with fail
  generalize w1.alloc (.cells #[.int .i64 n, .int .i64 m] 24) = v1 at *
  go_wp2_with fail
  refine (RP _).mono ?_
  rintro e w2 ⟨rfl, b2⟩
  have B2 := below_trans B1' b2
  have P2 := P1'.later b2
  have A2 := A1.later b2
  have u2 : Below w2.heap.size w2 (w2.alloc (.cells #[.int .i64 n, .int .i64 m] 23)) := (Below.refl _ _).alloc (Nat.le_refl _) _
  have F2 := Cbox.new w2 #[.int .i64 n, .int .i64 m] 23
  have B2' := below_trans B2 u2
  have P2' := P2.later u2
  have A2' := A2.later u2
  go_upto_region 3 with fail
  generalize w2.alloc (.cells #[.int .i64 n, .int .i64 m] 23) = v2 at *
  have z0 := P2'.at 0
  have z1 := P2'.at 1
  clear P0 P1 P1' P2 A1 A2 u1 u2 b1 b2
  go_wp2_with fail
  refine (OW _).mono ?_
  rintro e w3 ⟨rfl, g3⟩
  have B3 := below_trans B2' g3.below
  go_wp2_with fail
  refine (PR _ B3).mono ?_
  rintro e w4 ⟨rfl, b4⟩
  have B4 := below_trans B3 b4
  go_wp2_with fail
  refine (PT _ B4).mono ?_
  rintro e w5 ⟨rfl, b5⟩
  have B5 := below_trans B4 b5
  have d5 := below_trans g3.below (below_trans b4 b5)
  have P5 := P2'.later d5
  have A5 := A2'.later d5
  have F5 := F2.later d5
  have u5 : Below w5.heap.size w5 (w5.alloc (.cells #[.int .i64 c, .int .i64 d] 24)) := (Below.refl _ _).alloc (Nat.le_refl _) _
  have C5 := Cbox.new w5 #[.int .i64 c, .int .i64 d] 24
  have B5' := below_trans B5 u5
  have P5' := P5.later u5
  have A5' := A5.later u5
  have F5' := F5.later u5
  go_upto_region 4 with fail
  generalize w5.alloc (.cells #[.int .i64 c, .int .i64 d] 24) = v5 at *
  have z0 := P5'.at 0
  have z1 := P5'.at 1
  clear P2' A2' F2 P5 A5 F5 u5 d5
  go_wp2_with fail
  refine (RR _).mono ?_
  rintro e w6 ⟨rfl, g6⟩
  have B6 := below_trans B5' g6.below
  have P6 := P5'.later g6.below
  have A6 := A5'.later g6.below
  have F6 := F5'.later g6.below
  have C6 := C5.later g6.below
  have z0 := P6.at 0
  have z1 := P6.at 1
  have c0 := C6.at 0
  have c1 := C6.at 1
  clear P5' A5' F5' C5
  have B8 := B6
  have P8 := P6
  have A8 := A6
  have F8 := F6
  go_upto_region 6 with fail
  clear P6 A6 F6 C6 c0 c1 z0 z1
  refine wp_region_held_drew (S := (fun W => Cbox W w.heap.size #[.int .i64 x, .int .i64 y] 23 ∧ Cbox W w1.heap.size #[.int .i64 n, .int .i64 m] 24 ∧ Cbox W w2.heap.size #[.int .i64 n, .int .i64 m] 23)) (by kernel_rfl) ?_ (fun hHeld => ?_)
  · ((try dsimp only); exact ⟨P8, A8, F8⟩)
  refine wpAnyH_take (i := 0) (oi := { dst := some 41, op := Op.load 23 (Operand.tmp 2), type := 23, pos := "law.go:51", after := #[], guard := none }) (v := ?_) rfl (by kernel_rfl) (by kernel_rfl) (by kernel_rfl) (fun _ _ _ h => h) (Or.inl ⟨by rfl, ?_⟩) (by assumption) ?_
  rotate_left
  · (intro W hSw; (try dsimp only at hSw); have y0 := hSw.1.at 0; have y1 := hSw.1.at 1; have y2 := hSw.2.1.at 0; have y3 := hSw.2.1.at 1; have y4 := hSw.2.2.at 0; have y5 := hSw.2.2.at 1; first | (go_simp; done) | (go_simp; with_reducible rfl))
  try simp only [Act.put, List.setIfInBounds_toArray, List.set_cons_zero, List.set_cons_succ]
  refine wpAnyH_take (i := 3) (oi := { dst := some 44, op := Op.load 23 (Operand.tmp 2), type := 23, pos := "law.go:51", after := #[], guard := none }) (v := ?_) rfl (by kernel_rfl) (by kernel_rfl) (by kernel_rfl) (fun _ _ _ h => h) (Or.inl ⟨by rfl, ?_⟩) (by assumption) ?_
  rotate_left
  · (intro W hSw; (try dsimp only at hSw); have y0 := hSw.1.at 0; have y1 := hSw.1.at 1; have y2 := hSw.2.1.at 0; have y3 := hSw.2.1.at 1; have y4 := hSw.2.2.at 0; have y5 := hSw.2.2.at 1; first | (go_simp; done) | (go_simp; with_reducible rfl))
  try simp only [Act.put, List.setIfInBounds_toArray, List.set_cons_zero, List.set_cons_succ]
  refine wpAnyH_ready (rs := [1]) (by kernel_rfl) (by simp) ?_
  refine AllReadyH.cons (o := { dst := some 42, op := Op.call { callee := Callee.value (Operand.func 7), args := #[Operand.tmp 41], argTypes := #[23] }, type := 24, pos := "law.go:51", after := #[{ on := 0, ground := Ground.data }], guard := none }) rfl (fun K hK => ?_) AllReadyH.nil
  go_simp
  (refine (OW _).mono ?_; rintro e w9 ⟨rfl, g9⟩; have d9 : Below w6.heap.size w6 w9 := (by first | exact below_trans ((Below.refl _ w6).drew) g9.below | exact g9.below); have B9 := below_trans B8 d9; have P9 := P8.later d9; have A9 := A8.later d9; have F9 := F8.later d9)
  refine hK.out _ _ ?_ (fun hHeld => ?_)
  · ((try dsimp only); first | exact ⟨P14, A14, F14⟩ | exact ⟨P12, A12, F12⟩ | exact ⟨P11, A11, F11⟩ | exact ⟨P10, A10, F10⟩ | exact ⟨P9, A9, F9⟩)
  clear hK K
  try simp only [Act.put, List.setIfInBounds_toArray, List.set_cons_zero, List.set_cons_succ]
  refine wpAnyH_ready (rs := [2]) (by kernel_rfl) (by simp) ?_
  refine AllReadyH.cons (o := { dst := some 43, op := Op.call { callee := Callee.value (Operand.func 6), args := #[Operand.tmp 42], argTypes := #[24] }, type := 9, pos := "law.go:51", after := #[{ on := 1, ground := Ground.data }, { on := 1, ground := Ground.chain }], guard := none }) rfl (fun K hK => ?_) AllReadyH.nil
  go_simp
  (refine (PR _ (by first | exact B9 | exact B9.drew)).mono ?_; rintro e w10 ⟨rfl, b10⟩; have d10 : Below w9.heap.size w9 w10 := (by first | exact below_trans ((Below.refl _ w9).drew) b10 | exact b10); have B10 := below_trans B9 d10; have P10 := P9.later d10; have A10 := A9.later d10; have F10 := F9.later d10)
  refine hK.out _ _ ?_ (fun hHeld => ?_)
  · ((try dsimp only); first | exact ⟨P14, A14, F14⟩ | exact ⟨P12, A12, F12⟩ | exact ⟨P11, A11, F11⟩ | exact ⟨P10, A10, F10⟩ | exact ⟨P9, A9, F9⟩)
  clear hK K
  try simp only [Act.put, List.setIfInBounds_toArray, List.set_cons_zero, List.set_cons_succ]
  refine wpAnyH_ready (rs := [4]) (by kernel_rfl) (by simp) ?_
  refine AllReadyH.cons (o := { dst := some 45, op := Op.call { callee := Callee.value (Operand.func 11), args := #[Operand.tmp 44], argTypes := #[23] }, type := 9, pos := "law.go:51", after := #[{ on := 3, ground := Ground.data }, { on := 2, ground := Ground.chain }], guard := none }) rfl (fun K hK => ?_) AllReadyH.nil
  go_simp
  (refine (RT _).mono ?_; rintro e w11 ⟨rfl, b11⟩; have d11 : Below w10.heap.size w10 w11 := (by first | exact below_trans ((Below.refl _ w10).drew) b11 | exact b11); have B11 := below_trans B10 d11; have P11 := P10.later d11; have A11 := A10.later d11; have F11 := F10.later d11)
  refine hK.out _ _ ?_ (fun hHeld => ?_)
  · ((try dsimp only); first | exact ⟨P14, A14, F14⟩ | exact ⟨P12, A12, F12⟩ | exact ⟨P11, A11, F11⟩ | exact ⟨P10, A10, F10⟩ | exact ⟨P9, A9, F9⟩)
  clear hK K
  try simp only [Act.put, List.setIfInBounds_toArray, List.set_cons_zero, List.set_cons_succ]
  refine wpAnyH_take (i := 5) (oi := { dst := some 46, op := Op.binOp BinOp.eql 9 (Operand.tmp 43) (Operand.tmp 45) 9, type := 4, pos := "law.go:51", after := #[{ on := 2, ground := Ground.data }, { on := 4, ground := Ground.data }], guard := none }) (v := ?_) rfl (by kernel_rfl) (by kernel_rfl) (by kernel_rfl) (fun _ _ _ h => h) (Or.inl ⟨by rfl, ?_⟩) (by assumption) ?_
  rotate_left
  · (intro W hSw; (try dsimp only at hSw); have y0 := hSw.1.at 0; have y1 := hSw.1.at 1; have y2 := hSw.2.1.at 0; have y3 := hSw.2.1.at 1; have y4 := hSw.2.2.at 0; have y5 := hSw.2.2.at 1; first | (go_simp; done) | (go_simp; with_reducible rfl))
  try simp only [Act.put, List.setIfInBounds_toArray, List.set_cons_zero, List.set_cons_succ]
  refine wpAnyH_take (i := 6) (oi := { dst := some 47, op := Op.move (Operand.tmp 46), type := 4, pos := "law.go:51", after := #[{ on := 5, ground := Ground.data }, { on := 4, ground := Ground.chain }], guard := none }) (v := ?_) rfl (by kernel_rfl) (by kernel_rfl) (by kernel_rfl) (fun _ _ _ h => h) (Or.inl ⟨by rfl, ?_⟩) (by assumption) ?_
  rotate_left
  · (intro W hSw; (try dsimp only at hSw); have y0 := hSw.1.at 0; have y1 := hSw.1.at 1; have y2 := hSw.2.1.at 0; have y3 := hSw.2.1.at 1; have y4 := hSw.2.2.at 0; have y5 := hSw.2.2.at 1; first | (go_simp; done) | (go_simp; with_reducible rfl))
  try simp only [Act.put, List.setIfInBounds_toArray, List.set_cons_zero, List.set_cons_succ]
  refine wpAnyH_take (i := 7) (oi := { dst := some 48, op := Op.load 24 (Operand.tmp 5), type := 24, pos := "law.go:51", after := #[{ on := 6, ground := Ground.guard }], guard := some (6, true) }) (v := ?_) rfl (by kernel_rfl) (by kernel_rfl) (by kernel_rfl) (fun _ _ _ h => h) (Or.inl ⟨by rfl, ?_⟩) (by assumption) ?_
  rotate_left
  · (intro W hSw; (try dsimp only at hSw); have y0 := hSw.1.at 0; have y1 := hSw.1.at 1; have y2 := hSw.2.1.at 0; have y3 := hSw.2.1.at 1; have y4 := hSw.2.2.at 0; have y5 := hSw.2.2.at 1; first | (go_simp; done) | (go_simp; with_reducible rfl))
  try simp only [Act.put, List.setIfInBounds_toArray, List.set_cons_zero, List.set_cons_succ]
  refine wpAnyH_take (i := 8) (oi := { dst := some 49, op := Op.load 23 (Operand.tmp 7), type := 23, pos := "law.go:51", after := #[{ on := 6, ground := Ground.guard }], guard := some (6, true) }) (v := ?_) rfl (by kernel_rfl) (by kernel_rfl) (by kernel_rfl) (fun _ _ _ h => h) (Or.inl ⟨by rfl, ?_⟩) (by assumption) ?_
  rotate_left
  · (intro W hSw; (try dsimp only at hSw); have y0 := hSw.1.at 0; have y1 := hSw.1.at 1; have y2 := hSw.2.1.at 0; have y3 := hSw.2.1.at 1; have y4 := hSw.2.2.at 0; have y5 := hSw.2.2.at 1; first | (go_simp; done) | (go_simp; with_reducible rfl))
  try simp only [Act.put, List.setIfInBounds_toArray, List.set_cons_zero, List.set_cons_succ]
  refine wpAnyH_ready (rs := [9]) (by kernel_rfl) (by simp) ?_
  refine AllReadyH.cons (o := { dst := some 50, op := Op.call { callee := Callee.value (Operand.func 10), args := #[Operand.tmp 48, Operand.tmp 49], argTypes := #[24, 23] }, type := 4, pos := "law.go:51", after := #[{ on := 7, ground := Ground.data }, { on := 8, ground := Ground.data }, { on := 6, ground := Ground.chain }, { on := 6, ground := Ground.guard }], guard := some (6, true) }) rfl (fun K hK => ?_) AllReadyH.nil
  go_simp
  (refine (SM _ _ _).mono ?_; rintro e w12 ⟨rfl, g12⟩; have d12 : Below w11.heap.size w11 w12 := (by first | exact below_trans ((Below.refl _ w11).drew) g12.below | exact g12.below); have B12 := below_trans B11 d12; have P12 := P11.later d12; have A12 := A11.later d12; have F12 := F11.later d12)
  refine hK.out _ _ ?_ (fun hHeld => ?_)
  · ((try dsimp only); first | exact ⟨P14, A14, F14⟩ | exact ⟨P12, A12, F12⟩ | exact ⟨P11, A11, F11⟩ | exact ⟨P10, A10, F10⟩ | exact ⟨P9, A9, F9⟩)
  clear hK K
  try simp only [Act.put, List.setIfInBounds_toArray, List.set_cons_zero, List.set_cons_succ]
  refine wpAnyH_take (i := 10) (oi := { dst := some 51, op := Op.pick (Operand.tmp 47) (Operand.tmp 50) (Operand.const (Value.bool false)), type := 4, pos := "law.go:51", after := #[{ on := 6, ground := Ground.data }, { on := 9, ground := Ground.data }], guard := none }) (v := ?_) rfl (by kernel_rfl) (by kernel_rfl) (by kernel_rfl) (fun _ _ _ h => h) (Or.inl ⟨by rfl, ?_⟩) (by assumption) ?_
  rotate_left
  · (intro W hSw; (try dsimp only at hSw); have y0 := hSw.1.at 0; have y1 := hSw.1.at 1; have y2 := hSw.2.1.at 0; have y3 := hSw.2.1.at 1; have y4 := hSw.2.2.at 0; have y5 := hSw.2.2.at 1; first | (go_simp; done) | (go_simp; with_reducible rfl))
  try simp only [Act.put, List.setIfInBounds_toArray, List.set_cons_zero, List.set_cons_succ]
  refine wpAnyH_take (i := 11) (oi := { dst := some 52, op := Op.move (Operand.tmp 51), type := 4, pos := "law.go:51", after := #[{ on := 10, ground := Ground.data }, { on := 9, ground := Ground.chain }], guard := none }) (v := ?_) rfl (by kernel_rfl) (by kernel_rfl) (by kernel_rfl) (fun _ _ _ h => h) (Or.inl ⟨by rfl, ?_⟩) (by assumption) ?_
  rotate_left
  · (intro W hSw; (try dsimp only at hSw); have y0 := hSw.1.at 0; have y1 := hSw.1.at 1; have y2 := hSw.2.1.at 0; have y3 := hSw.2.1.at 1; have y4 := hSw.2.2.at 0; have y5 := hSw.2.2.at 1; first | (go_simp; done) | (go_simp; with_reducible rfl))
  try simp only [Act.put, List.setIfInBounds_toArray, List.set_cons_zero, List.set_cons_succ]
  refine wpAnyH_take (i := 12) (oi := { dst := some 53, op := Op.move (Operand.tmp 6), type := 25, pos := "law.go:51", after := #[{ on := 11, ground := Ground.guard }], guard := some (11, true) }) (v := ?_) rfl (by kernel_rfl) (by kernel_rfl) (by kernel_rfl) (fun _ _ _ h => h) (Or.inl ⟨by rfl, ?_⟩) (by assumption) ?_
  rotate_left
  · (intro W hSw; (try dsimp only at hSw); have y0 := hSw.1.at 0; have y1 := hSw.1.at 1; have y2 := hSw.2.1.at 0; have y3 := hSw.2.1.at 1; have y4 := hSw.2.2.at 0; have y5 := hSw.2.2.at 1; first | (go_simp; done) | (go_simp; with_reducible rfl))
  try simp only [Act.put, List.setIfInBounds_toArray, List.set_cons_zero, List.set_cons_succ]
  refine wpAnyH_take (i := 14) (oi := { dst := some 55, op := Op.move (Operand.tmp 8), type := 3, pos := "law.go:51", after := #[{ on := 11, ground := Ground.guard }], guard := some (11, true) }) (v := ?_) rfl (by kernel_rfl) (by kernel_rfl) (by kernel_rfl) (fun _ _ _ h => h) (Or.inl ⟨by rfl, ?_⟩) (by assumption) ?_
  rotate_left
  · (intro W hSw; (try dsimp only at hSw); have y0 := hSw.1.at 0; have y1 := hSw.1.at 1; have y2 := hSw.2.1.at 0; have y3 := hSw.2.1.at 1; have y4 := hSw.2.2.at 0; have y5 := hSw.2.2.at 1; first | (go_simp; done) | (go_simp; with_reducible rfl))
  try simp only [Act.put, List.setIfInBounds_toArray, List.set_cons_zero, List.set_cons_succ]
  refine wpAnyH_ready (rs := [13]) (by kernel_rfl) (by simp) ?_
  refine AllReadyH.cons (o := { dst := some 54, op := Op.call { callee := Callee.value (Operand.func 9), args := #[Operand.tmp 53], argTypes := #[25] }, type := 3, pos := "law.go:51", after := #[{ on := 12, ground := Ground.data }, { on := 11, ground := Ground.chain }, { on := 11, ground := Ground.guard }], guard := some (11, true) }) rfl (fun K hK => ?_) AllReadyH.nil
  go_simp
  (refine (NU _ _).mono ?_; rintro e w13 ⟨rfl, rfl⟩)
  refine hK.out _ _ ?_ (fun hHeld => ?_)
  · ((try dsimp only); first | exact ⟨P14, A14, F14⟩ | exact ⟨P12, A12, F12⟩ | exact ⟨P11, A11, F11⟩ | exact ⟨P10, A10, F10⟩ | exact ⟨P9, A9, F9⟩)
  clear hK K
  try simp only [Act.put, List.setIfInBounds_toArray, List.set_cons_zero, List.set_cons_succ]
  refine wpAnyH_take (i := 15) (oi := { dst := some 56, op := Op.binOp BinOp.eql 3 (Operand.tmp 54) (Operand.tmp 55) 3, type := 4, pos := "law.go:51", after := #[{ on := 13, ground := Ground.data }, { on := 14, ground := Ground.data }, { on := 11, ground := Ground.guard }], guard := some (11, true) }) (v := ?_) rfl (by kernel_rfl) (by kernel_rfl) (by kernel_rfl) (fun _ _ _ h => h) (Or.inl ⟨by rfl, ?_⟩) (by assumption) ?_
  rotate_left
  · (intro W hSw; (try dsimp only at hSw); have y0 := hSw.1.at 0; have y1 := hSw.1.at 1; have y2 := hSw.2.1.at 0; have y3 := hSw.2.1.at 1; have y4 := hSw.2.2.at 0; have y5 := hSw.2.2.at 1; first | (go_simp; done) | (go_simp; with_reducible rfl))
  try simp only [Act.put, List.setIfInBounds_toArray, List.set_cons_zero, List.set_cons_succ]
  refine wpAnyH_take (i := 16) (oi := { dst := some 57, op := Op.pick (Operand.tmp 52) (Operand.tmp 56) (Operand.const (Value.bool false)), type := 4, pos := "law.go:51", after := #[{ on := 11, ground := Ground.data }, { on := 15, ground := Ground.data }], guard := none }) (v := ?_) rfl (by kernel_rfl) (by kernel_rfl) (by kernel_rfl) (fun _ _ _ h => h) (Or.inl ⟨by rfl, ?_⟩) (by assumption) ?_
  rotate_left
  · (intro W hSw; (try dsimp only at hSw); have y0 := hSw.1.at 0; have y1 := hSw.1.at 1; have y2 := hSw.2.1.at 0; have y3 := hSw.2.1.at 1; have y4 := hSw.2.2.at 0; have y5 := hSw.2.2.at 1; first | (go_simp; done) | (go_simp; with_reducible rfl))
  try simp only [Act.put, List.setIfInBounds_toArray, List.set_cons_zero, List.set_cons_succ]
  refine wpAnyH_take (i := 17) (oi := { dst := some 58, op := Op.move (Operand.tmp 57), type := 4, pos := "law.go:51", after := #[{ on := 16, ground := Ground.data }, { on := 13, ground := Ground.chain }], guard := none }) (v := ?_) rfl (by kernel_rfl) (by kernel_rfl) (by kernel_rfl) (fun _ _ _ h => h) (Or.inl ⟨by rfl, ?_⟩) (by assumption) ?_
  rotate_left
  · (intro W hSw; (try dsimp only at hSw); have y0 := hSw.1.at 0; have y1 := hSw.1.at 1; have y2 := hSw.2.1.at 0; have y3 := hSw.2.1.at 1; have y4 := hSw.2.2.at 0; have y5 := hSw.2.2.at 1; first | (go_simp; done) | (go_simp; with_reducible rfl))
  try simp only [Act.put, List.setIfInBounds_toArray, List.set_cons_zero, List.set_cons_succ]
  refine wpAnyH_ready (rs := [18]) (by kernel_rfl) (by simp) ?_
  refine AllReadyH.cons (o := { dst := some 59, op := Op.call { callee := Callee.value (Operand.func 12), args := #[], argTypes := #[] }, type := 4, pos := "law.go:51", after := #[{ on := 17, ground := Ground.chain }, { on := 17, ground := Ground.guard }], guard := some (17, true) }) rfl (fun K hK => ?_) AllReadyH.nil
  go_simp
  (refine (KN _).mono ?_; rintro e w14 ⟨rfl, g14⟩; have d14 : Below w12.heap.size w12 w14 := (by first | exact below_trans ((Below.refl _ w12).drew) g14.below | exact g14.below); have B14 := below_trans B12 d14; have P14 := P12.later d14; have A14 := A12.later d14; have F14 := F12.later d14)
  refine hK.out _ _ ?_ (fun hHeld => ?_)
  · ((try dsimp only); first | exact ⟨P14, A14, F14⟩ | exact ⟨P12, A12, F12⟩ | exact ⟨P11, A11, F11⟩ | exact ⟨P10, A10, F10⟩ | exact ⟨P9, A9, F9⟩)
  clear hK K
  try simp only [Act.put, List.setIfInBounds_toArray, List.set_cons_zero, List.set_cons_succ]
  refine wpAnyH_take (i := 19) (oi := { dst := some 60, op := Op.pick (Operand.tmp 58) (Operand.tmp 59) (Operand.const (Value.bool false)), type := 4, pos := "law.go:51", after := #[{ on := 17, ground := Ground.data }, { on := 18, ground := Ground.data }], guard := none }) (v := ?_) rfl (by kernel_rfl) (by kernel_rfl) (by kernel_rfl) (fun _ _ _ h => h) (Or.inl ⟨by rfl, ?_⟩) (by assumption) ?_
  rotate_left
  · (intro W hSw; (try dsimp only at hSw); have y0 := hSw.1.at 0; have y1 := hSw.1.at 1; have y2 := hSw.2.1.at 0; have y3 := hSw.2.1.at 1; have y4 := hSw.2.2.at 0; have y5 := hSw.2.2.at 1; first | (go_simp; done) | (go_simp; with_reducible rfl))
  try simp only [Act.put, List.setIfInBounds_toArray, List.set_cons_zero, List.set_cons_succ]
  refine wpAnyH_take (i := 20) (oi := { dst := some 4, op := Op.assign (Operand.tmp 60), type := 4, pos := "law.go:51", after := #[{ on := 19, ground := Ground.data }, { on := 18, ground := Ground.chain }, { on := 0, ground := Ground.phase }, { on := 1, ground := Ground.phase }, { on := 2, ground := Ground.phase }, { on := 3, ground := Ground.phase }, { on := 4, ground := Ground.phase }, { on := 5, ground := Ground.phase }, { on := 6, ground := Ground.phase }, { on := 7, ground := Ground.phase }, { on := 8, ground := Ground.phase }, { on := 9, ground := Ground.phase }, { on := 10, ground := Ground.phase }, { on := 11, ground := Ground.phase }, { on := 12, ground := Ground.phase }, { on := 13, ground := Ground.phase }, { on := 14, ground := Ground.phase }, { on := 15, ground := Ground.phase }, { on := 16, ground := Ground.phase }, { on := 17, ground := Ground.phase }, { on := 18, ground := Ground.phase }, { on := 19, ground := Ground.phase }], guard := none }) (v := ?_) rfl (by kernel_rfl) (by kernel_rfl) (by kernel_rfl) (fun _ _ _ h => h) (Or.inl ⟨by rfl, ?_⟩) (by assumption) ?_
  rotate_left
  · (intro W hSw; (try dsimp only at hSw); have y0 := hSw.1.at 0; have y1 := hSw.1.at 1; have y2 := hSw.2.1.at 0; have y3 := hSw.2.1.at 1; have y4 := hSw.2.2.at 0; have y5 := hSw.2.2.at 1; first | (go_simp; done) | (go_simp; with_reducible rfl))
  try simp only [Act.put, List.setIfInBounds_toArray, List.set_cons_zero, List.set_cons_succ]
  refine wpAnyH_done (by kernel_rfl) ?_ _
  go_wp2
  go_ret
  exact ⟨rfl, B14⟩

theorem texts_all (x y : Int) (l : List UInt8) (w : World) (hP : Ptab w) (hE : Ers w) (hl : l.length ≤ 281474976710656) :
    Calls Tryd.prog 3 #[.agg #[.int .i64 x, .int .i64 y], .string ⟨l.toArray⟩] w fun e w' => e = .returned (.bool true) ∧ Below w.heap.size w w' := by
  have hpl : (ptx x y).length ≤ 281474976710656 := by
    unfold ptx
    split
    · rename_i h; have := gtx_len x y h; omega
    · simp
  have GP : ∀ W, Below w.heap.size w W → _ := fun W h => gparse_any l W (hP.later h) (hE.later h) hl
  have RP := fun W => rparse_any l W hl
  have PR : ∀ W, Below w.heap.size w W → _ := fun W h => gprint_any x y W (hP.later h)
  have PT : ∀ W, Below w.heap.size w W → _ := fun W h => gparse_any (ptx x y) W (hP.later h) (hE.later h) hpl
  have RR := fun W => rright_any x y W
  have RT := fun W => rprint_any x y W
  cases h : (ok1 x && ok1 y) with
  | true =>
    rw [h] at RR
    have e : gpv (ptx x y) = (x, y, 0) := by unfold ptx; rw [if_pos h]; exact gpv_text x y h
    rw [e] at PT
    exact texts_right x y _ _ _ _ _ w GP RP (fun W => Proofs.YtibbenhplmmmiaaDoor.own_any x y W) PR PT RR RT (fun a b W => Proofs.YtibbenhplmmmiaaDoor.same_any a b W) (fun a W => Proofs.YtibbenhplmmmiaaDoor.num_any a W) (fun W => Proofs.YtibbenhplmmmiaaDoor.knows_any W)
  | false =>
    rw [h] at RR
    exact texts_other x y _ _ _ _ _ _ _ _ w GP RP (fun W => Proofs.YtibbenhplmmmiaaDoor.own_any x y W) PR PT RR RT (fun a b W => Proofs.YtibbenhplmmmiaaDoor.same_any a b W) (fun a W => Proofs.YtibbenhplmmmiaaDoor.num_any a W) (fun W => Proofs.YtibbenhplmmmiaaDoor.knows_any W)
theorem texts_bytes (x y : Int) (s : ByteArray) (w : World) (hP : Ptab w) (hE : Ers w) (hl : s.size ≤ 140737488351232) :
    Calls Tryd.prog 3 #[.agg #[.int .i64 x, .int .i64 y], .string s] w fun e w' => e = .returned (.bool true) ∧ Below w.heap.size w w' := by
  obtain ⟨⟨l⟩⟩ := s
  exact texts_all x y l w hP hE (Nat.le_trans hl (by decide))
end Go.Proofs.YtibbenhplmmmiaaDoor.Pt
