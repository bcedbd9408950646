/-
  The contract of textOf of package expr: a column and a call.
-/
import Derived.Test.YtgapmofhnjfdiaaGreatDoorEPrt2
namespace Go.Proofs.YtgapmofhnjfdiaaGreatDoor
open Go.RowKit Go.Shelf
attribute [local go_sem] cell?_more frozen?_more setCell_more more_lt more_more more_drew more_drewN setCell_drewN alloc_drewN

set_option maxRecDepth 20000 in
set_option maxHeartbeats 4000000 in
theorem textOf_col (pv : Va → List UInt8) (x : Nd) (ao : Option Addr) (n c : Nat) (of : List (List UInt8)) (w : World) (hx : x.o = 2) (ht : x.t.length ≤ 10000000000000) (hn : x.n.length ≤ 10000000000000) :
    Calls Tryz.prog 41 #[ndv x, .slice ao n c] w fun e w' => e = .returned (.string ⟨(txtN pv x of).toArray⟩) ∧ Below w.heap.size w w' := by
  have C := fun W => columnText_any x W (by omega) (by omega)
  obtain ⟨xo, xt, xn, xv, xa⟩ := x
  simp only at hx hn ht
  subst hx
  have et : txtN pv ⟨2, xt, xn, xv, xa⟩ of = colT ⟨2, xt, xn, xv, xa⟩ := rfl
  rw [et]
  clear et
  generalize colT ⟨2, xt, xn, xv, xa⟩ = T at *
  go_enter Tryz.func41, Tryz.ntmps41
  go_wp2_with (go_at_call 98; refine (C _).mono ?_; rintro e w1 ⟨rfl, b1⟩)
  go_ret
  exact ⟨rfl, by first | exact ((Below.refl _ w).alloc (Nat.le_refl _) _).trans (b1.mono (by simp)) | skip⟩

set_option maxRecDepth 20000 in
set_option maxHeartbeats 4000000 in
theorem textOf_val (pv : Va → List UInt8) (x : Nd) (ao : Option Addr) (n c : Nat) (of : List (List UInt8)) (w : World) (hx : x.o = 1)
    (P : ∀ W, Below w.heap.size w W → Calls Tryz.prog 97 #[vv x.v] W fun e w' => e = .returned (.string ⟨(pv x.v).toArray⟩) ∧ Below W.heap.size W w') :
    Calls Tryz.prog 41 #[ndv x, .slice ao n c] w fun e w' => e = .returned (.string ⟨(txtN pv x of).toArray⟩) ∧ Below w.heap.size w w' := by
  obtain ⟨xo, xt, xn, ⟨vk, vn, vm, vb⟩, xa⟩ := x
  simp only at hx P
  subst hx
  have et : txtN pv ⟨1, xt, xn, ⟨vk, vn, vm, vb⟩, xa⟩ of = pv ⟨vk, vn, vm, vb⟩ := rfl
  rw [et]
  clear et
  generalize pv ⟨vk, vn, vm, vb⟩ = T at *
  have P' : ∀ W, Below w.heap.size w W → Calls Tryz.prog 97 #[va vk vn vm ⟨vb.toArray⟩] W fun e w' => e = .returned (.string ⟨T.toArray⟩) ∧ Below W.heap.size W w' := P
  clear P
  go_enter Tryz.func41, Tryz.ntmps41
  go_wp2_with (go_at_call 97; refine (P' _ (by first | exact (Below.refl _ w).alloc (Nat.le_refl _) _ | exact ((Below.refl _ w).alloc (Nat.le_refl _) _).drew)).mono ?_; rintro e w1 ⟨rfl, b1⟩)
  go_ret
  exact ⟨rfl, by first | exact ((Below.refl _ w).alloc (Nat.le_refl _) _).trans (b1.mono (by simp)) | skip⟩

theorem join_at (g off c : Nat) (of : List (List UInt8)) (w : World) (hs : Sw w g off of) (hg : g < w.heap.size) (hN : of.length ≤ 1000) (hc : of.length ≤ c) (hlen : (Lib.join of [44, 32]).length ≤ 100000000000000) :
    ∀ W, Below w.heap.size w W → Calls Tryz.prog 100 #[.slice (some ⟨g, off, none⟩) of.length c, .string ⟨#[44, 32]⟩] W fun e w' => e = .returned (.string ⟨(Lib.join of [44, 32]).toArray⟩) ∧ Below W.heap.size W w' := by
  intro W hB
  have e : (of.map (fun x : List UInt8 => (⟨x.toArray⟩ : ByteArray))).map (·.data.toList) = of := by rw [List.map_map]; simp [Function.comp_def]
  have J := join_lib g off c (of.map fun x => ⟨x.toArray⟩) ⟨#[44, 32]⟩ W (by
    intro j x hx
    rw [List.getElem?_map] at hx
    cases hq : of[j]? with
    | none => rw [hq] at hx; cases hx
    | some y =>
      rw [hq] at hx
      cases hx
      obtain ⟨h1, h2⟩ := List.getElem?_eq_some_iff.1 hq
      have := hs j h1
      rw [h2] at this
      exact (hB.cell (p := ⟨g, off + j, none⟩) hg).trans this) (Nat.lt_of_lt_of_le hg hB.size) (by rw [List.length_map]; omega) (by rw [List.length_map]; omega) (by
    rw [e]
    show (Lib.join of [44, 32]).length ≤ _
    omega)
  rw [e, List.length_map] at J
  exact J

set_option maxRecDepth 20000 in
set_option maxHeartbeats 4000000 in
theorem textOf_call (pv : Va → List UInt8) (x : Nd) (ao : Option Addr) (n c : Nat) (of : List (List UInt8)) (w : World) (hx : x.o = 19) (hn : x.n.length ≤ 10000000000000) (hlen : (Lib.join of [44, 32]).length ≤ 100000000000000)
    (J : ∀ W, Below w.heap.size w W → Calls Tryz.prog 100 #[.slice ao n c, .string ⟨#[44, 32]⟩] W fun e w' => e = .returned (.string ⟨(Lib.join of [44, 32]).toArray⟩) ∧ Below W.heap.size W w') :
    Calls Tryz.prog 41 #[ndv x, .slice ao n c] w fun e w' => e = .returned (.string ⟨(txtN pv x of).toArray⟩) ∧ Below w.heap.size w w' := by
  obtain ⟨xo, xt, xn, xv, xa⟩ := x
  simp only at hx hn
  subst hx
  have et : txtN pv ⟨19, xt, xn, xv, xa⟩ of = xn ++ [40] ++ Lib.join of [44, 32] ++ [41] := rfl
  rw [et]
  clear et
  generalize Lib.join of [44, 32] = T at *
  have e1 : (ByteArray.mk xn.toArray) ++ (ByteArray.mk #[40]) = ⟨(xn ++ [40]).toArray⟩ := ba_app xn [40]
  have e2 : (ByteArray.mk (xn ++ [40]).toArray) ++ (ByteArray.mk T.toArray) = ⟨(xn ++ [40] ++ T).toArray⟩ := ba_app (xn ++ [40]) T
  have e3 : (ByteArray.mk (xn ++ [40] ++ T).toArray) ++ (ByteArray.mk #[41]) = ⟨(xn ++ [40] ++ T ++ [41]).toArray⟩ := ba_app (xn ++ [40] ++ T) [41]
  have s1 : (ByteArray.mk xn.toArray).size = xn.length := rfl
  have s2 : (ByteArray.mk (xn ++ [40]).toArray).size = xn.length + 1 := by show (xn ++ [40]).length = _; simp
  have s3 : (ByteArray.mk (xn ++ [40] ++ T).toArray).size = xn.length + 1 + T.length := by show (xn ++ [40] ++ T).length = _; simp; omega
  have s4 : (ByteArray.mk T.toArray).size = T.length := rfl
  have s5 : (ByteArray.mk #[40]).size = 1 := rfl
  have s6 : (ByteArray.mk #[41]).size = 1 := rfl
  have k1 : ¬ 9223372036854775807 < xn.length + 1 := by omega
  have k2 : ¬ 9223372036854775807 < xn.length + 1 + T.length := by omega
  have k3 : ¬ 9223372036854775807 < xn.length + 1 + T.length + 1 := by omega
  generalize xn ++ [40] ++ T ++ [41] = F at *
  generalize ByteArray.mk (xn ++ [40] ++ T).toArray = B3 at *
  generalize ByteArray.mk (xn ++ [40]).toArray = B2 at *
  generalize ByteArray.mk T.toArray = B1 at *
  go_enter Tryz.func41, Tryz.ntmps41
  go_wp2_with fail
  have CC : Hid (∀ W, Below (w.alloc (.cells (ncs ⟨19, xt, xn, xv, xa⟩) 32)).heap.size (w.alloc (.cells (ncs ⟨19, xt, xn, xv, xa⟩) 32)) W → W.cell? ⟨w.heap.size, 2, none⟩ = some (.string ⟨xn.toArray⟩)) := fun W h => (Cbox.later (Cbox.new w (ncs ⟨19, xt, xn, xv, xa⟩) 32) h).at 2
  refine wp_region_held_drew (S := (fun W => Below (w.alloc (.cells (ncs ⟨19, xt, xn, xv, xa⟩) 32)).heap.size (w.alloc (.cells (ncs ⟨19, xt, xn, xv, xa⟩) 32)) W)) (by kernel_rfl) ?_ (fun hHeld => ?_)
  · exact (Below.refl _ _).drew
  refine wpAnyH_take (i := 0) (oi := { dst := some 39, op := Op.fieldAddr 32 (Operand.tmp 2) 2, type := 0, pos := "print.go:52", after := #[], guard := none }) (v := ?_) rfl (by kernel_rfl) (by kernel_rfl) (by kernel_rfl) (fun _ _ _ h => h) (Or.inl ⟨by rfl, ?_⟩) (by assumption) ?_
  rotate_left
  · (intro W hSw; (try dsimp only at hSw); have q0 := CC.out W hSw; first | (go_simp; done) | (go_simp; with_reducible rfl) | (go_simp; first | rw [if_neg k1] | rw [if_neg k2] | rw [if_neg k3]))
  try simp only [Act.put, List.setIfInBounds_toArray, List.set_cons_zero, List.set_cons_succ]
  refine wpAnyH_take (i := 1) (oi := { dst := some 40, op := Op.load 9 (Operand.tmp 39), type := 9, pos := "print.go:52", after := #[{ on := 0, ground := Ground.data }], guard := none }) (v := ?_) rfl (by kernel_rfl) (by kernel_rfl) (by kernel_rfl) (fun _ _ _ h => h) (Or.inl ⟨by rfl, ?_⟩) (by assumption) ?_
  rotate_left
  · (intro W hSw; (try dsimp only at hSw); have q0 := CC.out W hSw; first | (go_simp; done) | (go_simp; with_reducible rfl) | (go_simp; first | rw [if_neg k1] | rw [if_neg k2] | rw [if_neg k3]))
  try simp only [Act.put, List.setIfInBounds_toArray, List.set_cons_zero, List.set_cons_succ]
  refine wpAnyH_take (i := 2) (oi := { dst := some 41, op := Op.binOp BinOp.add 9 (Operand.tmp 40) (Operand.const (Value.string { data := #[40] })) 9, type := 9, pos := "print.go:52", after := #[{ on := 1, ground := Ground.data }], guard := none }) (v := ?_) rfl (by kernel_rfl) (by kernel_rfl) (by kernel_rfl) (fun _ _ _ h => h) (Or.inl ⟨by rfl, ?_⟩) (by assumption) ?_
  rotate_left
  · (intro W hSw; (try dsimp only at hSw); have q0 := CC.out W hSw; first | (go_simp; done) | (go_simp; with_reducible rfl) | (go_simp; first | rw [if_neg k1] | rw [if_neg k2] | rw [if_neg k3]))
  try simp only [Act.put, List.setIfInBounds_toArray, List.set_cons_zero, List.set_cons_succ]
  refine wpAnyH_take (i := 3) (oi := { dst := some 42, op := Op.move (Operand.tmp 1), type := 51, pos := "print.go:52", after := #[], guard := none }) (v := ?_) rfl (by kernel_rfl) (by kernel_rfl) (by kernel_rfl) (fun _ _ _ h => h) (Or.inl ⟨by rfl, ?_⟩) (by assumption) ?_
  rotate_left
  · (intro W hSw; (try dsimp only at hSw); have q0 := CC.out W hSw; first | (go_simp; done) | (go_simp; with_reducible rfl) | (go_simp; first | rw [if_neg k1] | rw [if_neg k2] | rw [if_neg k3]))
  try simp only [Act.put, List.setIfInBounds_toArray, List.set_cons_zero, List.set_cons_succ]
  refine wpAnyH_ready (rs := [4]) (by kernel_rfl) (by simp) ?_
  refine AllReadyH.cons (o := { dst := some 43, op := Op.call { callee := Callee.value (Operand.func 100), args := #[Operand.tmp 42, Operand.const (Value.string { data := #[44, 32] })], argTypes := #[51, 9] }, type := 9, pos := "print.go:52", after := #[{ on := 3, ground := Ground.data }], guard := none }) rfl (fun K hK => ?_) AllReadyH.nil
  go_simp
  go_wp2_with fail
  refine (J _ (((Below.refl _ w).alloc (Nat.le_refl _) _).trans (hHeld.mono (by simp)))).mono ?_
  rintro e w1 ⟨rfl, b1⟩
  try dsimp only
  refine hK.out _ _ ?_ (fun hHeld => ?_)
  · ((try dsimp only); exact hHeld.trans (b1.mono hHeld.size))
  clear hK K
  try simp only [Act.put, List.setIfInBounds_toArray, List.set_cons_zero, List.set_cons_succ]
  refine wpAnyH_take (i := 5) (oi := { dst := some 44, op := Op.binOp BinOp.add 9 (Operand.tmp 41) (Operand.tmp 43) 9, type := 9, pos := "print.go:52", after := #[{ on := 2, ground := Ground.data }, { on := 4, ground := Ground.data }], guard := none }) (v := ?_) rfl (by kernel_rfl) (by kernel_rfl) (by kernel_rfl) (fun _ _ _ h => h) (Or.inl ⟨by rfl, ?_⟩) (by assumption) ?_
  rotate_left
  · (intro W hSw; (try dsimp only at hSw); have q0 := CC.out W hSw; first | (go_simp; done) | (go_simp; with_reducible rfl) | (go_simp; first | rw [if_neg k1] | rw [if_neg k2] | rw [if_neg k3]))
  try simp only [Act.put, List.setIfInBounds_toArray, List.set_cons_zero, List.set_cons_succ]
  refine wpAnyH_take (i := 6) (oi := { dst := some 45, op := Op.binOp BinOp.add 9 (Operand.tmp 44) (Operand.const (Value.string { data := #[41] })) 9, type := 9, pos := "print.go:52", after := #[{ on := 5, ground := Ground.data }], guard := none }) (v := ?_) rfl (by kernel_rfl) (by kernel_rfl) (by kernel_rfl) (fun _ _ _ h => h) (Or.inl ⟨by rfl, ?_⟩) (by assumption) ?_
  rotate_left
  · (intro W hSw; (try dsimp only at hSw); have q0 := CC.out W hSw; first | (go_simp; done) | (go_simp; with_reducible rfl) | (go_simp; first | rw [if_neg k1] | rw [if_neg k2] | rw [if_neg k3]))
  try simp only [Act.put, List.setIfInBounds_toArray, List.set_cons_zero, List.set_cons_succ]
  refine wpAnyH_take (i := 7) (oi := { dst := some 4, op := Op.assign (Operand.tmp 45), type := 9, pos := "print.go:52", after := #[{ on := 6, ground := Ground.data }, { on := 4, ground := Ground.chain }, { on := 0, ground := Ground.phase }, { on := 1, ground := Ground.phase }, { on := 2, ground := Ground.phase }, { on := 3, ground := Ground.phase }, { on := 4, ground := Ground.phase }, { on := 5, ground := Ground.phase }, { on := 6, ground := Ground.phase }], guard := none }) (v := ?_) rfl (by kernel_rfl) (by kernel_rfl) (by kernel_rfl) (fun _ _ _ h => h) (Or.inl ⟨by rfl, ?_⟩) (by assumption) ?_
  rotate_left
  · (intro W hSw; (try dsimp only at hSw); have q0 := CC.out W hSw; first | (go_simp; done) | (go_simp; with_reducible rfl) | (go_simp; first | rw [if_neg k1] | rw [if_neg k2] | rw [if_neg k3]))
  try simp only [Act.put, List.setIfInBounds_toArray, List.set_cons_zero, List.set_cons_succ]
  refine wpAnyH_done (by kernel_rfl) ?_ _
  go_wp2
  go_ret
  exact ⟨rfl, ((Below.refl _ w).alloc (Nat.le_refl _) _).trans (hHeld.mono (by simp))⟩
end Go.Proofs.YtgapmofhnjfdiaaGreatDoor
