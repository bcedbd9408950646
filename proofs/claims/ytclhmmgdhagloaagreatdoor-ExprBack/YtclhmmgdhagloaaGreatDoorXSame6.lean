/-
  longstoplaw06.Same of nodes that are alike.
-/
import Derived.Test.YtclhmmgdhagloaaGreatDoorMVEBkS
namespace Go.Proofs.YtclhmmgdhagloaaGreatDoor
open Go.RowKit Go.Shelf
attribute [local go_sem] cell?_more frozen?_more setCell_more more_lt more_more more_drew more_drewN setCell_drewN alloc_drewN

def smO6x0 : Oper := { dst := some 17, op := Op.move (Operand.tmp 0), type := 24, pos := "law.go:30", after := #[], guard := none }
def smO6x1 : Oper := { dst := some 18, op := Op.move (Operand.tmp 5), type := 3, pos := "law.go:30", after := #[], guard := none }
def smO6x2 : Oper := { dst := some 19, op := Op.indexAddr 24 (Operand.tmp 17) (Operand.tmp 18), type := 0, pos := "law.go:30", after := #[{ on := 0, ground := Ground.data }, { on := 1, ground := Ground.data }], guard := none }
def smO6x3 : Oper := { dst := some 20, op := Op.fieldAddr 44 (Operand.tmp 19) 0, type := 0, pos := "law.go:30", after := #[{ on := 2, ground := Ground.data }], guard := none }
def smO6x4 : Oper := { dst := some 21, op := Op.load 3 (Operand.tmp 20), type := 3, pos := "law.go:30", after := #[{ on := 3, ground := Ground.data }], guard := none }
def smO6x5 : Oper := { dst := some 22, op := Op.move (Operand.tmp 1), type := 22, pos := "law.go:30", after := #[], guard := none }
def smO6x6 : Oper := { dst := some 23, op := Op.move (Operand.tmp 5), type := 3, pos := "law.go:30", after := #[], guard := none }
def smO6x7 : Oper := { dst := some 24, op := Op.indexAddr 22 (Operand.tmp 22) (Operand.tmp 23), type := 0, pos := "law.go:30", after := #[{ on := 5, ground := Ground.data }, { on := 6, ground := Ground.data }], guard := none }
def smO6x8 : Oper := { dst := some 25, op := Op.fieldAddr 67 (Operand.tmp 24) 0, type := 0, pos := "law.go:30", after := #[{ on := 7, ground := Ground.data }], guard := none }
def smO6x9 : Oper := { dst := some 26, op := Op.load 3 (Operand.tmp 25), type := 3, pos := "law.go:30", after := #[{ on := 8, ground := Ground.data }], guard := none }
def smO6x10 : Oper := { dst := some 27, op := Op.binOp BinOp.neq 3 (Operand.tmp 21) (Operand.tmp 26) 3, type := 4, pos := "law.go:30", after := #[{ on := 4, ground := Ground.data }, { on := 9, ground := Ground.data }], guard := none }
def smO6x11 : Oper := { dst := some 28, op := Op.move (Operand.tmp 27), type := 4, pos := "law.go:30", after := #[{ on := 10, ground := Ground.data }], guard := none }
def smO6x12 : Oper := { dst := some 29, op := Op.move (Operand.tmp 0), type := 24, pos := "law.go:30", after := #[{ on := 11, ground := Ground.guard }], guard := some (11, false) }
def smO6x13 : Oper := { dst := some 30, op := Op.move (Operand.tmp 5), type := 3, pos := "law.go:30", after := #[{ on := 11, ground := Ground.guard }], guard := some (11, false) }
def smO6x14 : Oper := { dst := some 31, op := Op.indexAddr 24 (Operand.tmp 29) (Operand.tmp 30), type := 0, pos := "law.go:30", after := #[{ on := 12, ground := Ground.data }, { on := 13, ground := Ground.data }, { on := 11, ground := Ground.guard }], guard := some (11, false) }
def smO6x15 : Oper := { dst := some 32, op := Op.fieldAddr 44 (Operand.tmp 31) 1, type := 0, pos := "law.go:30", after := #[{ on := 14, ground := Ground.data }, { on := 11, ground := Ground.guard }], guard := some (11, false) }
def smO6x16 : Oper := { dst := some 33, op := Op.load 9 (Operand.tmp 32), type := 9, pos := "law.go:30", after := #[{ on := 15, ground := Ground.data }, { on := 11, ground := Ground.guard }], guard := some (11, false) }
def smO6x17 : Oper := { dst := some 34, op := Op.move (Operand.tmp 1), type := 22, pos := "law.go:30", after := #[{ on := 11, ground := Ground.guard }], guard := some (11, false) }
def smO6x18 : Oper := { dst := some 35, op := Op.move (Operand.tmp 5), type := 3, pos := "law.go:30", after := #[{ on := 11, ground := Ground.guard }], guard := some (11, false) }
def smO6x19 : Oper := { dst := some 36, op := Op.indexAddr 22 (Operand.tmp 34) (Operand.tmp 35), type := 0, pos := "law.go:30", after := #[{ on := 17, ground := Ground.data }, { on := 18, ground := Ground.data }, { on := 11, ground := Ground.guard }], guard := some (11, false) }
def smO6x20 : Oper := { dst := some 37, op := Op.fieldAddr 67 (Operand.tmp 36) 1, type := 0, pos := "law.go:30", after := #[{ on := 19, ground := Ground.data }, { on := 11, ground := Ground.guard }], guard := some (11, false) }
def smO6x21 : Oper := { dst := some 38, op := Op.load 9 (Operand.tmp 37), type := 9, pos := "law.go:30", after := #[{ on := 20, ground := Ground.data }, { on := 11, ground := Ground.guard }], guard := some (11, false) }
def smO6x22 : Oper := { dst := some 39, op := Op.binOp BinOp.neq 9 (Operand.tmp 33) (Operand.tmp 38) 9, type := 4, pos := "law.go:30", after := #[{ on := 16, ground := Ground.data }, { on := 21, ground := Ground.data }, { on := 11, ground := Ground.guard }], guard := some (11, false) }
def smO6x23 : Oper := { dst := some 40, op := Op.pick (Operand.tmp 28) (Operand.const (Value.bool true)) (Operand.tmp 39), type := 4, pos := "law.go:30", after := #[{ on := 11, ground := Ground.data }, { on := 22, ground := Ground.data }], guard := none }
def smO6x24 : Oper := { dst := some 41, op := Op.move (Operand.tmp 40), type := 4, pos := "law.go:30", after := #[{ on := 23, ground := Ground.data }, { on := 11, ground := Ground.chain }], guard := none }
def smO6x25 : Oper := { dst := some 42, op := Op.move (Operand.tmp 0), type := 24, pos := "law.go:30", after := #[{ on := 24, ground := Ground.guard }], guard := some (24, false) }
def smO6x26 : Oper := { dst := some 43, op := Op.move (Operand.tmp 5), type := 3, pos := "law.go:30", after := #[{ on := 24, ground := Ground.guard }], guard := some (24, false) }
def smO6x27 : Oper := { dst := some 44, op := Op.indexAddr 24 (Operand.tmp 42) (Operand.tmp 43), type := 0, pos := "law.go:30", after := #[{ on := 25, ground := Ground.data }, { on := 26, ground := Ground.data }, { on := 24, ground := Ground.guard }], guard := some (24, false) }
def smO6x28 : Oper := { dst := some 45, op := Op.fieldAddr 44 (Operand.tmp 44) 2, type := 0, pos := "law.go:30", after := #[{ on := 27, ground := Ground.data }, { on := 24, ground := Ground.guard }], guard := some (24, false) }
def smO6x29 : Oper := { dst := some 46, op := Op.load 9 (Operand.tmp 45), type := 9, pos := "law.go:30", after := #[{ on := 28, ground := Ground.data }, { on := 24, ground := Ground.guard }], guard := some (24, false) }
def smO6x30 : Oper := { dst := some 47, op := Op.move (Operand.tmp 1), type := 22, pos := "law.go:30", after := #[{ on := 24, ground := Ground.guard }], guard := some (24, false) }
def smO6x31 : Oper := { dst := some 48, op := Op.move (Operand.tmp 5), type := 3, pos := "law.go:30", after := #[{ on := 24, ground := Ground.guard }], guard := some (24, false) }
def smO6x32 : Oper := { dst := some 49, op := Op.indexAddr 22 (Operand.tmp 47) (Operand.tmp 48), type := 0, pos := "law.go:30", after := #[{ on := 30, ground := Ground.data }, { on := 31, ground := Ground.data }, { on := 24, ground := Ground.guard }], guard := some (24, false) }
def smO6x33 : Oper := { dst := some 50, op := Op.fieldAddr 67 (Operand.tmp 49) 2, type := 0, pos := "law.go:30", after := #[{ on := 32, ground := Ground.data }, { on := 24, ground := Ground.guard }], guard := some (24, false) }
def smO6x34 : Oper := { dst := some 51, op := Op.load 9 (Operand.tmp 50), type := 9, pos := "law.go:30", after := #[{ on := 33, ground := Ground.data }, { on := 24, ground := Ground.guard }], guard := some (24, false) }
def smO6x35 : Oper := { dst := some 52, op := Op.binOp BinOp.neq 9 (Operand.tmp 46) (Operand.tmp 51) 9, type := 4, pos := "law.go:30", after := #[{ on := 29, ground := Ground.data }, { on := 34, ground := Ground.data }, { on := 24, ground := Ground.guard }], guard := some (24, false) }
def smO6x36 : Oper := { dst := some 53, op := Op.pick (Operand.tmp 41) (Operand.const (Value.bool true)) (Operand.tmp 52), type := 4, pos := "law.go:30", after := #[{ on := 24, ground := Ground.data }, { on := 35, ground := Ground.data }], guard := none }
def smO6x37 : Oper := { dst := some 54, op := Op.move (Operand.tmp 53), type := 4, pos := "law.go:30", after := #[{ on := 36, ground := Ground.data }, { on := 24, ground := Ground.chain }], guard := none }
def smO6x38 : Oper := { dst := some 55, op := Op.move (Operand.tmp 0), type := 24, pos := "law.go:30", after := #[{ on := 37, ground := Ground.guard }], guard := some (37, false) }
def smO6x39 : Oper := { dst := some 56, op := Op.move (Operand.tmp 5), type := 3, pos := "law.go:30", after := #[{ on := 37, ground := Ground.guard }], guard := some (37, false) }
def smO6x40 : Oper := { dst := some 57, op := Op.indexAddr 24 (Operand.tmp 55) (Operand.tmp 56), type := 0, pos := "law.go:30", after := #[{ on := 38, ground := Ground.data }, { on := 39, ground := Ground.data }, { on := 37, ground := Ground.guard }], guard := some (37, false) }
def smO6x41 : Oper := { dst := some 58, op := Op.fieldAddr 44 (Operand.tmp 57) 3, type := 0, pos := "law.go:30", after := #[{ on := 40, ground := Ground.data }, { on := 37, ground := Ground.guard }], guard := some (37, false) }
def smO6x42 : Oper := { dst := some 59, op := Op.load 42 (Operand.tmp 58), type := 42, pos := "law.go:30", after := #[{ on := 41, ground := Ground.data }, { on := 37, ground := Ground.guard }], guard := some (37, false) }
def smO6x43 : Oper := { dst := some 60, op := Op.move (Operand.tmp 1), type := 22, pos := "law.go:30", after := #[{ on := 37, ground := Ground.guard }], guard := some (37, false) }
def smO6x44 : Oper := { dst := some 61, op := Op.move (Operand.tmp 5), type := 3, pos := "law.go:30", after := #[{ on := 37, ground := Ground.guard }], guard := some (37, false) }
def smO6x45 : Oper := { dst := some 62, op := Op.indexAddr 22 (Operand.tmp 60) (Operand.tmp 61), type := 0, pos := "law.go:30", after := #[{ on := 43, ground := Ground.data }, { on := 44, ground := Ground.data }, { on := 37, ground := Ground.guard }], guard := some (37, false) }
def smO6x46 : Oper := { dst := some 63, op := Op.fieldAddr 67 (Operand.tmp 62) 3, type := 0, pos := "law.go:30", after := #[{ on := 45, ground := Ground.data }, { on := 37, ground := Ground.guard }], guard := some (37, false) }
def smO6x47 : Oper := { dst := some 64, op := Op.load 42 (Operand.tmp 63), type := 42, pos := "law.go:30", after := #[{ on := 46, ground := Ground.data }, { on := 37, ground := Ground.guard }], guard := some (37, false) }
def smO6x48 : Oper := { dst := some 65, op := Op.call { callee := Callee.value (Operand.func 32), args := #[Operand.tmp 59, Operand.tmp 64], argTypes := #[42, 42] }, type := 4, pos := "law.go:30", after := #[{ on := 42, ground := Ground.data }, { on := 47, ground := Ground.data }, { on := 37, ground := Ground.chain }, { on := 37, ground := Ground.guard }], guard := some (37, false) }
def smO6x49 : Oper := { dst := some 66, op := Op.unOp UnOp.not 4 (Operand.tmp 65), type := 4, pos := "law.go:30", after := #[{ on := 48, ground := Ground.data }, { on := 37, ground := Ground.guard }], guard := some (37, false) }
def smO6x50 : Oper := { dst := some 67, op := Op.pick (Operand.tmp 54) (Operand.const (Value.bool true)) (Operand.tmp 66), type := 4, pos := "law.go:30", after := #[{ on := 37, ground := Ground.data }, { on := 49, ground := Ground.data }], guard := none }
def smO6x51 : Oper := { dst := some 68, op := Op.move (Operand.tmp 67), type := 4, pos := "law.go:30", after := #[{ on := 50, ground := Ground.data }, { on := 48, ground := Ground.chain }], guard := none }
def smO6x52 : Oper := { dst := some 69, op := Op.move (Operand.tmp 0), type := 24, pos := "law.go:30", after := #[{ on := 51, ground := Ground.guard }], guard := some (51, false) }
def smO6x53 : Oper := { dst := some 70, op := Op.move (Operand.tmp 5), type := 3, pos := "law.go:30", after := #[{ on := 51, ground := Ground.guard }], guard := some (51, false) }
def smO6x54 : Oper := { dst := some 71, op := Op.indexAddr 24 (Operand.tmp 69) (Operand.tmp 70), type := 0, pos := "law.go:30", after := #[{ on := 52, ground := Ground.data }, { on := 53, ground := Ground.data }, { on := 51, ground := Ground.guard }], guard := some (51, false) }
def smO6x55 : Oper := { dst := some 72, op := Op.fieldAddr 44 (Operand.tmp 71) 4, type := 0, pos := "law.go:30", after := #[{ on := 54, ground := Ground.data }, { on := 51, ground := Ground.guard }], guard := some (51, false) }
def smO6x56 : Oper := { dst := some 73, op := Op.load 3 (Operand.tmp 72), type := 3, pos := "law.go:30", after := #[{ on := 55, ground := Ground.data }, { on := 51, ground := Ground.guard }], guard := some (51, false) }
def smO6x57 : Oper := { dst := some 74, op := Op.move (Operand.tmp 1), type := 22, pos := "law.go:30", after := #[{ on := 51, ground := Ground.guard }], guard := some (51, false) }
def smO6x58 : Oper := { dst := some 75, op := Op.move (Operand.tmp 5), type := 3, pos := "law.go:30", after := #[{ on := 51, ground := Ground.guard }], guard := some (51, false) }
def smO6x59 : Oper := { dst := some 76, op := Op.indexAddr 22 (Operand.tmp 74) (Operand.tmp 75), type := 0, pos := "law.go:30", after := #[{ on := 57, ground := Ground.data }, { on := 58, ground := Ground.data }, { on := 51, ground := Ground.guard }], guard := some (51, false) }
def smO6x60 : Oper := { dst := some 77, op := Op.fieldAddr 67 (Operand.tmp 76) 4, type := 0, pos := "law.go:30", after := #[{ on := 59, ground := Ground.data }, { on := 51, ground := Ground.guard }], guard := some (51, false) }
def smO6x61 : Oper := { dst := some 78, op := Op.load 3 (Operand.tmp 77), type := 3, pos := "law.go:30", after := #[{ on := 60, ground := Ground.data }, { on := 51, ground := Ground.guard }], guard := some (51, false) }
def smO6x62 : Oper := { dst := some 79, op := Op.binOp BinOp.neq 3 (Operand.tmp 73) (Operand.tmp 78) 3, type := 4, pos := "law.go:30", after := #[{ on := 56, ground := Ground.data }, { on := 61, ground := Ground.data }, { on := 51, ground := Ground.guard }], guard := some (51, false) }
def smO6x63 : Oper := { dst := some 80, op := Op.pick (Operand.tmp 68) (Operand.const (Value.bool true)) (Operand.tmp 79), type := 4, pos := "law.go:30", after := #[{ on := 51, ground := Ground.data }, { on := 62, ground := Ground.data }], guard := none }

set_option maxRecDepth 20000 in
set_option maxHeartbeats 4000000 in
theorem same6_any (ao bo : Option Addr) (ca cb : Nat) (l : List Nd) (w : World) (hx : Nw w ao l) (hy : Nw w bo l) (hl : l.length ≤ 140737488351232) :
    Calls Tryz.prog 13 #[.slice ao l.length ca, .slice bo l.length cb] w fun e w' => e = .returned (.bool true) ∧ Below w.heap.size w w' := by
  have SM0 : Hid (∀ (v : Va) (W : World), Calls Tryz.prog 32 #[va v.k v.n v.m ⟨v.b.toArray⟩, va v.k v.n v.m ⟨v.b.toArray⟩] W fun e w' => e = .returned (.bool true) ∧ Below W.heap.size W w') := fun v W => by
    refine (rsame_any v.k v.n v.m ⟨v.b.toArray⟩ v.k v.n v.m ⟨v.b.toArray⟩ W).mono ?_
    rintro e w' ⟨rfl, h⟩
    exact ⟨by simp, h.below⟩
  obtain ⟨n, hn⟩ : ∃ n, l.length = n := ⟨_, rfl⟩
  have HN : Hid (l.length = n) := hn
  have HX : Hid (Nw w ao l) := hx
  have HY : Hid (Nw w bo l) := hy
  rw [hn] at hl ⊢
  clear hn hx hy
  go_enter Tryz.func13, Tryz.ntmps13
  go_wp2
  go_loopw [5] (fun r5 wr => ∃ k : Nat, r5 = .int .i64 (k : Int) ∧ k ≤ n ∧ Below w.heap.size w wr) (fun r _ => n - (intOf r).toNat)
  case atStart => exact ⟨0, rfl, Nat.zero_le _, Below.refl _ _⟩
  case round =>
    rename World => wo
    obtain ⟨k, rfl, hk, hb⟩ := hrel
    by_cases hlt : k < n
    · have hlt' : (k : Int) < (n : Int) := by omega
      have k0 : (0 : Int) ≤ (k : Int) := by omega
      have hkl : k < l.length := by rw [HN.out]; exact hlt
      obtain ⟨b, off, rfl, hcl⟩ := HX.out (by omega)
      obtain ⟨b2, off2, rfl, hcl2⟩ := HY.out (by omega)
      have C := (hcl k hkl).later hb
      have D := (hcl2 k hkl).later hb
      obtain ⟨x, he⟩ : ∃ x : Nd, x = l[k] := ⟨_, rfl⟩
      rw [← he] at C D
      obtain ⟨xo, xt, xn, ⟨vk, vn, vm, vb⟩, xa⟩ := x
      have CX : Hid (∀ W, Below wo.heap.size wo W → N8 W b (off + k * 8) ⟨xo, xt, xn, ⟨vk, vn, vm, vb⟩, xa⟩) := fun W h => C.later h
      have DX : Hid (∀ W, Below wo.heap.size wo W → N8 W b2 (off2 + k * 8) ⟨xo, xt, xn, ⟨vk, vn, vm, vb⟩, xa⟩) := fun W h => D.later h
      have SM := fun W => SM0.out ⟨vk, vn, vm, vb⟩ W
      dsimp only at SM
      clear hcl hcl2 C D he
      go_upto_region 6 with fail
      refine wp_region_held_drew (S := (fun W => Below wo.heap.size wo W)) (by kernel_rfl) ?_ (fun hHeld => ?_)
      · ((try dsimp only); exact (Below.refl _ _).drew)
      refine wpAnyH_take (i := 0) (oi := smO6x0) (v := ?_) rfl (by kernel_rfl) (by kernel_rfl) (by kernel_rfl) (fun _ _ _ h => h) (Or.inl ⟨by rfl, ?_⟩) (by assumption) ?_
      rotate_left
      · (intro W hSw; (try dsimp only at hSw); have C := CX.out _ hSw; have D := DX.out _ hSw; have cl := C.lt; have dl := D.lt; obtain ⟨c0, c1, c2, c3, c4, c5, c6, c7⟩ := C; obtain ⟨d0, d1, d2, d3, d4, d5, d6, d7⟩ := D; dsimp only at c0 c1 c2 c3 c4 c5 c6 c7 d0 d1 d2 d3 d4 d5 d6 d7; try simp only [smO6x0]; first | (go_simp; done) | (go_simp; with_reducible rfl))
      try simp only [smO6x0, Act.put, List.setIfInBounds_toArray, List.set_cons_zero, List.set_cons_succ]
      refine wpAnyH_take (i := 1) (oi := smO6x1) (v := ?_) rfl (by kernel_rfl) (by kernel_rfl) (by kernel_rfl) (fun _ _ _ h => h) (Or.inl ⟨by rfl, ?_⟩) (by assumption) ?_
      rotate_left
      · (intro W hSw; (try dsimp only at hSw); have C := CX.out _ hSw; have D := DX.out _ hSw; have cl := C.lt; have dl := D.lt; obtain ⟨c0, c1, c2, c3, c4, c5, c6, c7⟩ := C; obtain ⟨d0, d1, d2, d3, d4, d5, d6, d7⟩ := D; dsimp only at c0 c1 c2 c3 c4 c5 c6 c7 d0 d1 d2 d3 d4 d5 d6 d7; try simp only [smO6x1]; first | (go_simp; done) | (go_simp; with_reducible rfl))
      try simp only [smO6x1, Act.put, List.setIfInBounds_toArray, List.set_cons_zero, List.set_cons_succ]
      refine wpAnyH_take (i := 2) (oi := smO6x2) (v := ?_) rfl (by kernel_rfl) (by kernel_rfl) (by kernel_rfl) (fun _ _ _ h => h) (Or.inl ⟨by rfl, ?_⟩) (by assumption) ?_
      rotate_left
      · (intro W hSw; (try dsimp only at hSw); have C := CX.out _ hSw; have D := DX.out _ hSw; have cl := C.lt; have dl := D.lt; obtain ⟨c0, c1, c2, c3, c4, c5, c6, c7⟩ := C; obtain ⟨d0, d1, d2, d3, d4, d5, d6, d7⟩ := D; dsimp only at c0 c1 c2 c3 c4 c5 c6 c7 d0 d1 d2 d3 d4 d5 d6 d7; try simp only [smO6x2]; first | (go_simp; done) | (go_simp; with_reducible rfl))
      try simp only [smO6x2, Act.put, List.setIfInBounds_toArray, List.set_cons_zero, List.set_cons_succ]
      refine wpAnyH_take (i := 3) (oi := smO6x3) (v := ?_) rfl (by kernel_rfl) (by kernel_rfl) (by kernel_rfl) (fun _ _ _ h => h) (Or.inl ⟨by rfl, ?_⟩) (by assumption) ?_
      rotate_left
      · (intro W hSw; (try dsimp only at hSw); have C := CX.out _ hSw; have D := DX.out _ hSw; have cl := C.lt; have dl := D.lt; obtain ⟨c0, c1, c2, c3, c4, c5, c6, c7⟩ := C; obtain ⟨d0, d1, d2, d3, d4, d5, d6, d7⟩ := D; dsimp only at c0 c1 c2 c3 c4 c5 c6 c7 d0 d1 d2 d3 d4 d5 d6 d7; try simp only [smO6x3]; first | (go_simp; done) | (go_simp; with_reducible rfl))
      try simp only [smO6x3, Act.put, List.setIfInBounds_toArray, List.set_cons_zero, List.set_cons_succ]
      refine wpAnyH_take (i := 4) (oi := smO6x4) (v := ?_) rfl (by kernel_rfl) (by kernel_rfl) (by kernel_rfl) (fun _ _ _ h => h) (Or.inl ⟨by rfl, ?_⟩) (by assumption) ?_
      rotate_left
      · (intro W hSw; (try dsimp only at hSw); have C := CX.out _ hSw; have D := DX.out _ hSw; have cl := C.lt; have dl := D.lt; obtain ⟨c0, c1, c2, c3, c4, c5, c6, c7⟩ := C; obtain ⟨d0, d1, d2, d3, d4, d5, d6, d7⟩ := D; dsimp only at c0 c1 c2 c3 c4 c5 c6 c7 d0 d1 d2 d3 d4 d5 d6 d7; try simp only [smO6x4]; first | (go_simp; done) | (go_simp; with_reducible rfl))
      try simp only [smO6x4, Act.put, List.setIfInBounds_toArray, List.set_cons_zero, List.set_cons_succ]
      refine wpAnyH_take (i := 5) (oi := smO6x5) (v := ?_) rfl (by kernel_rfl) (by kernel_rfl) (by kernel_rfl) (fun _ _ _ h => h) (Or.inl ⟨by rfl, ?_⟩) (by assumption) ?_
      rotate_left
      · (intro W hSw; (try dsimp only at hSw); have C := CX.out _ hSw; have D := DX.out _ hSw; have cl := C.lt; have dl := D.lt; obtain ⟨c0, c1, c2, c3, c4, c5, c6, c7⟩ := C; obtain ⟨d0, d1, d2, d3, d4, d5, d6, d7⟩ := D; dsimp only at c0 c1 c2 c3 c4 c5 c6 c7 d0 d1 d2 d3 d4 d5 d6 d7; try simp only [smO6x5]; first | (go_simp; done) | (go_simp; with_reducible rfl))
      try simp only [smO6x5, Act.put, List.setIfInBounds_toArray, List.set_cons_zero, List.set_cons_succ]
      refine wpAnyH_take (i := 6) (oi := smO6x6) (v := ?_) rfl (by kernel_rfl) (by kernel_rfl) (by kernel_rfl) (fun _ _ _ h => h) (Or.inl ⟨by rfl, ?_⟩) (by assumption) ?_
      rotate_left
      · (intro W hSw; (try dsimp only at hSw); have C := CX.out _ hSw; have D := DX.out _ hSw; have cl := C.lt; have dl := D.lt; obtain ⟨c0, c1, c2, c3, c4, c5, c6, c7⟩ := C; obtain ⟨d0, d1, d2, d3, d4, d5, d6, d7⟩ := D; dsimp only at c0 c1 c2 c3 c4 c5 c6 c7 d0 d1 d2 d3 d4 d5 d6 d7; try simp only [smO6x6]; first | (go_simp; done) | (go_simp; with_reducible rfl))
      try simp only [smO6x6, Act.put, List.setIfInBounds_toArray, List.set_cons_zero, List.set_cons_succ]
      refine wpAnyH_take (i := 7) (oi := smO6x7) (v := ?_) rfl (by kernel_rfl) (by kernel_rfl) (by kernel_rfl) (fun _ _ _ h => h) (Or.inl ⟨by rfl, ?_⟩) (by assumption) ?_
      rotate_left
      · (intro W hSw; (try dsimp only at hSw); have C := CX.out _ hSw; have D := DX.out _ hSw; have cl := C.lt; have dl := D.lt; obtain ⟨c0, c1, c2, c3, c4, c5, c6, c7⟩ := C; obtain ⟨d0, d1, d2, d3, d4, d5, d6, d7⟩ := D; dsimp only at c0 c1 c2 c3 c4 c5 c6 c7 d0 d1 d2 d3 d4 d5 d6 d7; try simp only [smO6x7]; first | (go_simp; done) | (go_simp; with_reducible rfl))
      try simp only [smO6x7, Act.put, List.setIfInBounds_toArray, List.set_cons_zero, List.set_cons_succ]
      refine wpAnyH_take (i := 8) (oi := smO6x8) (v := ?_) rfl (by kernel_rfl) (by kernel_rfl) (by kernel_rfl) (fun _ _ _ h => h) (Or.inl ⟨by rfl, ?_⟩) (by assumption) ?_
      rotate_left
      · (intro W hSw; (try dsimp only at hSw); have C := CX.out _ hSw; have D := DX.out _ hSw; have cl := C.lt; have dl := D.lt; obtain ⟨c0, c1, c2, c3, c4, c5, c6, c7⟩ := C; obtain ⟨d0, d1, d2, d3, d4, d5, d6, d7⟩ := D; dsimp only at c0 c1 c2 c3 c4 c5 c6 c7 d0 d1 d2 d3 d4 d5 d6 d7; try simp only [smO6x8]; first | (go_simp; done) | (go_simp; with_reducible rfl))
      try simp only [smO6x8, Act.put, List.setIfInBounds_toArray, List.set_cons_zero, List.set_cons_succ]
      refine wpAnyH_take (i := 9) (oi := smO6x9) (v := ?_) rfl (by kernel_rfl) (by kernel_rfl) (by kernel_rfl) (fun _ _ _ h => h) (Or.inl ⟨by rfl, ?_⟩) (by assumption) ?_
      rotate_left
      · (intro W hSw; (try dsimp only at hSw); have C := CX.out _ hSw; have D := DX.out _ hSw; have cl := C.lt; have dl := D.lt; obtain ⟨c0, c1, c2, c3, c4, c5, c6, c7⟩ := C; obtain ⟨d0, d1, d2, d3, d4, d5, d6, d7⟩ := D; dsimp only at c0 c1 c2 c3 c4 c5 c6 c7 d0 d1 d2 d3 d4 d5 d6 d7; try simp only [smO6x9]; first | (go_simp; done) | (go_simp; with_reducible rfl))
      try simp only [smO6x9, Act.put, List.setIfInBounds_toArray, List.set_cons_zero, List.set_cons_succ]
      refine wpAnyH_take (i := 10) (oi := smO6x10) (v := ?_) rfl (by kernel_rfl) (by kernel_rfl) (by kernel_rfl) (fun _ _ _ h => h) (Or.inl ⟨by rfl, ?_⟩) (by assumption) ?_
      rotate_left
      · (intro W hSw; (try dsimp only at hSw); have C := CX.out _ hSw; have D := DX.out _ hSw; have cl := C.lt; have dl := D.lt; obtain ⟨c0, c1, c2, c3, c4, c5, c6, c7⟩ := C; obtain ⟨d0, d1, d2, d3, d4, d5, d6, d7⟩ := D; dsimp only at c0 c1 c2 c3 c4 c5 c6 c7 d0 d1 d2 d3 d4 d5 d6 d7; try simp only [smO6x10]; first | (go_simp; done) | (go_simp; with_reducible rfl))
      try simp only [smO6x10, Act.put, List.setIfInBounds_toArray, List.set_cons_zero, List.set_cons_succ]
      refine wpAnyH_take (i := 11) (oi := smO6x11) (v := ?_) rfl (by kernel_rfl) (by kernel_rfl) (by kernel_rfl) (fun _ _ _ h => h) (Or.inl ⟨by rfl, ?_⟩) (by assumption) ?_
      rotate_left
      · (intro W hSw; (try dsimp only at hSw); have C := CX.out _ hSw; have D := DX.out _ hSw; have cl := C.lt; have dl := D.lt; obtain ⟨c0, c1, c2, c3, c4, c5, c6, c7⟩ := C; obtain ⟨d0, d1, d2, d3, d4, d5, d6, d7⟩ := D; dsimp only at c0 c1 c2 c3 c4 c5 c6 c7 d0 d1 d2 d3 d4 d5 d6 d7; try simp only [smO6x11]; first | (go_simp; done) | (go_simp; with_reducible rfl))
      try simp only [smO6x11, Act.put, List.setIfInBounds_toArray, List.set_cons_zero, List.set_cons_succ]
      refine wpAnyH_take (i := 12) (oi := smO6x12) (v := ?_) rfl (by kernel_rfl) (by kernel_rfl) (by kernel_rfl) (fun _ _ _ h => h) (Or.inl ⟨by rfl, ?_⟩) (by assumption) ?_
      rotate_left
      · (intro W hSw; (try dsimp only at hSw); have C := CX.out _ hSw; have D := DX.out _ hSw; have cl := C.lt; have dl := D.lt; obtain ⟨c0, c1, c2, c3, c4, c5, c6, c7⟩ := C; obtain ⟨d0, d1, d2, d3, d4, d5, d6, d7⟩ := D; dsimp only at c0 c1 c2 c3 c4 c5 c6 c7 d0 d1 d2 d3 d4 d5 d6 d7; try simp only [smO6x12]; first | (go_simp; done) | (go_simp; with_reducible rfl))
      try simp only [smO6x12, Act.put, List.setIfInBounds_toArray, List.set_cons_zero, List.set_cons_succ]
      refine wpAnyH_take (i := 13) (oi := smO6x13) (v := ?_) rfl (by kernel_rfl) (by kernel_rfl) (by kernel_rfl) (fun _ _ _ h => h) (Or.inl ⟨by rfl, ?_⟩) (by assumption) ?_
      rotate_left
      · (intro W hSw; (try dsimp only at hSw); have C := CX.out _ hSw; have D := DX.out _ hSw; have cl := C.lt; have dl := D.lt; obtain ⟨c0, c1, c2, c3, c4, c5, c6, c7⟩ := C; obtain ⟨d0, d1, d2, d3, d4, d5, d6, d7⟩ := D; dsimp only at c0 c1 c2 c3 c4 c5 c6 c7 d0 d1 d2 d3 d4 d5 d6 d7; try simp only [smO6x13]; first | (go_simp; done) | (go_simp; with_reducible rfl))
      try simp only [smO6x13, Act.put, List.setIfInBounds_toArray, List.set_cons_zero, List.set_cons_succ]
      refine wpAnyH_take (i := 14) (oi := smO6x14) (v := ?_) rfl (by kernel_rfl) (by kernel_rfl) (by kernel_rfl) (fun _ _ _ h => h) (Or.inl ⟨by rfl, ?_⟩) (by assumption) ?_
      rotate_left
      · (intro W hSw; (try dsimp only at hSw); have C := CX.out _ hSw; have D := DX.out _ hSw; have cl := C.lt; have dl := D.lt; obtain ⟨c0, c1, c2, c3, c4, c5, c6, c7⟩ := C; obtain ⟨d0, d1, d2, d3, d4, d5, d6, d7⟩ := D; dsimp only at c0 c1 c2 c3 c4 c5 c6 c7 d0 d1 d2 d3 d4 d5 d6 d7; try simp only [smO6x14]; first | (go_simp; done) | (go_simp; with_reducible rfl))
      try simp only [smO6x14, Act.put, List.setIfInBounds_toArray, List.set_cons_zero, List.set_cons_succ]
      refine wpAnyH_take (i := 15) (oi := smO6x15) (v := ?_) rfl (by kernel_rfl) (by kernel_rfl) (by kernel_rfl) (fun _ _ _ h => h) (Or.inl ⟨by rfl, ?_⟩) (by assumption) ?_
      rotate_left
      · (intro W hSw; (try dsimp only at hSw); have C := CX.out _ hSw; have D := DX.out _ hSw; have cl := C.lt; have dl := D.lt; obtain ⟨c0, c1, c2, c3, c4, c5, c6, c7⟩ := C; obtain ⟨d0, d1, d2, d3, d4, d5, d6, d7⟩ := D; dsimp only at c0 c1 c2 c3 c4 c5 c6 c7 d0 d1 d2 d3 d4 d5 d6 d7; try simp only [smO6x15]; first | (go_simp; done) | (go_simp; with_reducible rfl))
      try simp only [smO6x15, Act.put, List.setIfInBounds_toArray, List.set_cons_zero, List.set_cons_succ]
      refine wpAnyH_take (i := 16) (oi := smO6x16) (v := ?_) rfl (by kernel_rfl) (by kernel_rfl) (by kernel_rfl) (fun _ _ _ h => h) (Or.inl ⟨by rfl, ?_⟩) (by assumption) ?_
      rotate_left
      · (intro W hSw; (try dsimp only at hSw); have C := CX.out _ hSw; have D := DX.out _ hSw; have cl := C.lt; have dl := D.lt; obtain ⟨c0, c1, c2, c3, c4, c5, c6, c7⟩ := C; obtain ⟨d0, d1, d2, d3, d4, d5, d6, d7⟩ := D; dsimp only at c0 c1 c2 c3 c4 c5 c6 c7 d0 d1 d2 d3 d4 d5 d6 d7; try simp only [smO6x16]; first | (go_simp; done) | (go_simp; with_reducible rfl))
      try simp only [smO6x16, Act.put, List.setIfInBounds_toArray, List.set_cons_zero, List.set_cons_succ]
      refine wpAnyH_take (i := 17) (oi := smO6x17) (v := ?_) rfl (by kernel_rfl) (by kernel_rfl) (by kernel_rfl) (fun _ _ _ h => h) (Or.inl ⟨by rfl, ?_⟩) (by assumption) ?_
      rotate_left
      · (intro W hSw; (try dsimp only at hSw); have C := CX.out _ hSw; have D := DX.out _ hSw; have cl := C.lt; have dl := D.lt; obtain ⟨c0, c1, c2, c3, c4, c5, c6, c7⟩ := C; obtain ⟨d0, d1, d2, d3, d4, d5, d6, d7⟩ := D; dsimp only at c0 c1 c2 c3 c4 c5 c6 c7 d0 d1 d2 d3 d4 d5 d6 d7; try simp only [smO6x17]; first | (go_simp; done) | (go_simp; with_reducible rfl))
      try simp only [smO6x17, Act.put, List.setIfInBounds_toArray, List.set_cons_zero, List.set_cons_succ]
      refine wpAnyH_take (i := 18) (oi := smO6x18) (v := ?_) rfl (by kernel_rfl) (by kernel_rfl) (by kernel_rfl) (fun _ _ _ h => h) (Or.inl ⟨by rfl, ?_⟩) (by assumption) ?_
      rotate_left
      · (intro W hSw; (try dsimp only at hSw); have C := CX.out _ hSw; have D := DX.out _ hSw; have cl := C.lt; have dl := D.lt; obtain ⟨c0, c1, c2, c3, c4, c5, c6, c7⟩ := C; obtain ⟨d0, d1, d2, d3, d4, d5, d6, d7⟩ := D; dsimp only at c0 c1 c2 c3 c4 c5 c6 c7 d0 d1 d2 d3 d4 d5 d6 d7; try simp only [smO6x18]; first | (go_simp; done) | (go_simp; with_reducible rfl))
      try simp only [smO6x18, Act.put, List.setIfInBounds_toArray, List.set_cons_zero, List.set_cons_succ]
      refine wpAnyH_take (i := 19) (oi := smO6x19) (v := ?_) rfl (by kernel_rfl) (by kernel_rfl) (by kernel_rfl) (fun _ _ _ h => h) (Or.inl ⟨by rfl, ?_⟩) (by assumption) ?_
      rotate_left
      · (intro W hSw; (try dsimp only at hSw); have C := CX.out _ hSw; have D := DX.out _ hSw; have cl := C.lt; have dl := D.lt; obtain ⟨c0, c1, c2, c3, c4, c5, c6, c7⟩ := C; obtain ⟨d0, d1, d2, d3, d4, d5, d6, d7⟩ := D; dsimp only at c0 c1 c2 c3 c4 c5 c6 c7 d0 d1 d2 d3 d4 d5 d6 d7; try simp only [smO6x19]; first | (go_simp; done) | (go_simp; with_reducible rfl))
      try simp only [smO6x19, Act.put, List.setIfInBounds_toArray, List.set_cons_zero, List.set_cons_succ]
      refine wpAnyH_take (i := 20) (oi := smO6x20) (v := ?_) rfl (by kernel_rfl) (by kernel_rfl) (by kernel_rfl) (fun _ _ _ h => h) (Or.inl ⟨by rfl, ?_⟩) (by assumption) ?_
      rotate_left
      · (intro W hSw; (try dsimp only at hSw); have C := CX.out _ hSw; have D := DX.out _ hSw; have cl := C.lt; have dl := D.lt; obtain ⟨c0, c1, c2, c3, c4, c5, c6, c7⟩ := C; obtain ⟨d0, d1, d2, d3, d4, d5, d6, d7⟩ := D; dsimp only at c0 c1 c2 c3 c4 c5 c6 c7 d0 d1 d2 d3 d4 d5 d6 d7; try simp only [smO6x20]; first | (go_simp; done) | (go_simp; with_reducible rfl))
      try simp only [smO6x20, Act.put, List.setIfInBounds_toArray, List.set_cons_zero, List.set_cons_succ]
      refine wpAnyH_take (i := 21) (oi := smO6x21) (v := ?_) rfl (by kernel_rfl) (by kernel_rfl) (by kernel_rfl) (fun _ _ _ h => h) (Or.inl ⟨by rfl, ?_⟩) (by assumption) ?_
      rotate_left
      · (intro W hSw; (try dsimp only at hSw); have C := CX.out _ hSw; have D := DX.out _ hSw; have cl := C.lt; have dl := D.lt; obtain ⟨c0, c1, c2, c3, c4, c5, c6, c7⟩ := C; obtain ⟨d0, d1, d2, d3, d4, d5, d6, d7⟩ := D; dsimp only at c0 c1 c2 c3 c4 c5 c6 c7 d0 d1 d2 d3 d4 d5 d6 d7; try simp only [smO6x21]; first | (go_simp; done) | (go_simp; with_reducible rfl))
      try simp only [smO6x21, Act.put, List.setIfInBounds_toArray, List.set_cons_zero, List.set_cons_succ]
      refine wpAnyH_take (i := 22) (oi := smO6x22) (v := ?_) rfl (by kernel_rfl) (by kernel_rfl) (by kernel_rfl) (fun _ _ _ h => h) (Or.inl ⟨by rfl, ?_⟩) (by assumption) ?_
      rotate_left
      · (intro W hSw; (try dsimp only at hSw); have C := CX.out _ hSw; have D := DX.out _ hSw; have cl := C.lt; have dl := D.lt; obtain ⟨c0, c1, c2, c3, c4, c5, c6, c7⟩ := C; obtain ⟨d0, d1, d2, d3, d4, d5, d6, d7⟩ := D; dsimp only at c0 c1 c2 c3 c4 c5 c6 c7 d0 d1 d2 d3 d4 d5 d6 d7; try simp only [smO6x22]; first | (go_simp; done) | (go_simp; with_reducible rfl))
      try simp only [smO6x22, Act.put, List.setIfInBounds_toArray, List.set_cons_zero, List.set_cons_succ]
      refine wpAnyH_take (i := 23) (oi := smO6x23) (v := ?_) rfl (by kernel_rfl) (by kernel_rfl) (by kernel_rfl) (fun _ _ _ h => h) (Or.inl ⟨by rfl, ?_⟩) (by assumption) ?_
      rotate_left
      · (intro W hSw; (try dsimp only at hSw); have C := CX.out _ hSw; have D := DX.out _ hSw; have cl := C.lt; have dl := D.lt; obtain ⟨c0, c1, c2, c3, c4, c5, c6, c7⟩ := C; obtain ⟨d0, d1, d2, d3, d4, d5, d6, d7⟩ := D; dsimp only at c0 c1 c2 c3 c4 c5 c6 c7 d0 d1 d2 d3 d4 d5 d6 d7; try simp only [smO6x23]; first | (go_simp; done) | (go_simp; with_reducible rfl))
      try simp only [smO6x23, Act.put, List.setIfInBounds_toArray, List.set_cons_zero, List.set_cons_succ]
      refine wpAnyH_take (i := 24) (oi := smO6x24) (v := ?_) rfl (by kernel_rfl) (by kernel_rfl) (by kernel_rfl) (fun _ _ _ h => h) (Or.inl ⟨by rfl, ?_⟩) (by assumption) ?_
      rotate_left
      · (intro W hSw; (try dsimp only at hSw); have C := CX.out _ hSw; have D := DX.out _ hSw; have cl := C.lt; have dl := D.lt; obtain ⟨c0, c1, c2, c3, c4, c5, c6, c7⟩ := C; obtain ⟨d0, d1, d2, d3, d4, d5, d6, d7⟩ := D; dsimp only at c0 c1 c2 c3 c4 c5 c6 c7 d0 d1 d2 d3 d4 d5 d6 d7; try simp only [smO6x24]; first | (go_simp; done) | (go_simp; with_reducible rfl))
      try simp only [smO6x24, Act.put, List.setIfInBounds_toArray, List.set_cons_zero, List.set_cons_succ]
      refine wpAnyH_take (i := 25) (oi := smO6x25) (v := ?_) rfl (by kernel_rfl) (by kernel_rfl) (by kernel_rfl) (fun _ _ _ h => h) (Or.inl ⟨by rfl, ?_⟩) (by assumption) ?_
      rotate_left
      · (intro W hSw; (try dsimp only at hSw); have C := CX.out _ hSw; have D := DX.out _ hSw; have cl := C.lt; have dl := D.lt; obtain ⟨c0, c1, c2, c3, c4, c5, c6, c7⟩ := C; obtain ⟨d0, d1, d2, d3, d4, d5, d6, d7⟩ := D; dsimp only at c0 c1 c2 c3 c4 c5 c6 c7 d0 d1 d2 d3 d4 d5 d6 d7; try simp only [smO6x25]; first | (go_simp; done) | (go_simp; with_reducible rfl))
      try simp only [smO6x25, Act.put, List.setIfInBounds_toArray, List.set_cons_zero, List.set_cons_succ]
      refine wpAnyH_take (i := 26) (oi := smO6x26) (v := ?_) rfl (by kernel_rfl) (by kernel_rfl) (by kernel_rfl) (fun _ _ _ h => h) (Or.inl ⟨by rfl, ?_⟩) (by assumption) ?_
      rotate_left
      · (intro W hSw; (try dsimp only at hSw); have C := CX.out _ hSw; have D := DX.out _ hSw; have cl := C.lt; have dl := D.lt; obtain ⟨c0, c1, c2, c3, c4, c5, c6, c7⟩ := C; obtain ⟨d0, d1, d2, d3, d4, d5, d6, d7⟩ := D; dsimp only at c0 c1 c2 c3 c4 c5 c6 c7 d0 d1 d2 d3 d4 d5 d6 d7; try simp only [smO6x26]; first | (go_simp; done) | (go_simp; with_reducible rfl))
      try simp only [smO6x26, Act.put, List.setIfInBounds_toArray, List.set_cons_zero, List.set_cons_succ]
      refine wpAnyH_take (i := 27) (oi := smO6x27) (v := ?_) rfl (by kernel_rfl) (by kernel_rfl) (by kernel_rfl) (fun _ _ _ h => h) (Or.inl ⟨by rfl, ?_⟩) (by assumption) ?_
      rotate_left
      · (intro W hSw; (try dsimp only at hSw); have C := CX.out _ hSw; have D := DX.out _ hSw; have cl := C.lt; have dl := D.lt; obtain ⟨c0, c1, c2, c3, c4, c5, c6, c7⟩ := C; obtain ⟨d0, d1, d2, d3, d4, d5, d6, d7⟩ := D; dsimp only at c0 c1 c2 c3 c4 c5 c6 c7 d0 d1 d2 d3 d4 d5 d6 d7; try simp only [smO6x27]; first | (go_simp; done) | (go_simp; with_reducible rfl))
      try simp only [smO6x27, Act.put, List.setIfInBounds_toArray, List.set_cons_zero, List.set_cons_succ]
      refine wpAnyH_take (i := 28) (oi := smO6x28) (v := ?_) rfl (by kernel_rfl) (by kernel_rfl) (by kernel_rfl) (fun _ _ _ h => h) (Or.inl ⟨by rfl, ?_⟩) (by assumption) ?_
      rotate_left
      · (intro W hSw; (try dsimp only at hSw); have C := CX.out _ hSw; have D := DX.out _ hSw; have cl := C.lt; have dl := D.lt; obtain ⟨c0, c1, c2, c3, c4, c5, c6, c7⟩ := C; obtain ⟨d0, d1, d2, d3, d4, d5, d6, d7⟩ := D; dsimp only at c0 c1 c2 c3 c4 c5 c6 c7 d0 d1 d2 d3 d4 d5 d6 d7; try simp only [smO6x28]; first | (go_simp; done) | (go_simp; with_reducible rfl))
      try simp only [smO6x28, Act.put, List.setIfInBounds_toArray, List.set_cons_zero, List.set_cons_succ]
      refine wpAnyH_take (i := 29) (oi := smO6x29) (v := ?_) rfl (by kernel_rfl) (by kernel_rfl) (by kernel_rfl) (fun _ _ _ h => h) (Or.inl ⟨by rfl, ?_⟩) (by assumption) ?_
      rotate_left
      · (intro W hSw; (try dsimp only at hSw); have C := CX.out _ hSw; have D := DX.out _ hSw; have cl := C.lt; have dl := D.lt; obtain ⟨c0, c1, c2, c3, c4, c5, c6, c7⟩ := C; obtain ⟨d0, d1, d2, d3, d4, d5, d6, d7⟩ := D; dsimp only at c0 c1 c2 c3 c4 c5 c6 c7 d0 d1 d2 d3 d4 d5 d6 d7; try simp only [smO6x29]; first | (go_simp; done) | (go_simp; with_reducible rfl))
      try simp only [smO6x29, Act.put, List.setIfInBounds_toArray, List.set_cons_zero, List.set_cons_succ]
      refine wpAnyH_take (i := 30) (oi := smO6x30) (v := ?_) rfl (by kernel_rfl) (by kernel_rfl) (by kernel_rfl) (fun _ _ _ h => h) (Or.inl ⟨by rfl, ?_⟩) (by assumption) ?_
      rotate_left
      · (intro W hSw; (try dsimp only at hSw); have C := CX.out _ hSw; have D := DX.out _ hSw; have cl := C.lt; have dl := D.lt; obtain ⟨c0, c1, c2, c3, c4, c5, c6, c7⟩ := C; obtain ⟨d0, d1, d2, d3, d4, d5, d6, d7⟩ := D; dsimp only at c0 c1 c2 c3 c4 c5 c6 c7 d0 d1 d2 d3 d4 d5 d6 d7; try simp only [smO6x30]; first | (go_simp; done) | (go_simp; with_reducible rfl))
      try simp only [smO6x30, Act.put, List.setIfInBounds_toArray, List.set_cons_zero, List.set_cons_succ]
      refine wpAnyH_take (i := 31) (oi := smO6x31) (v := ?_) rfl (by kernel_rfl) (by kernel_rfl) (by kernel_rfl) (fun _ _ _ h => h) (Or.inl ⟨by rfl, ?_⟩) (by assumption) ?_
      rotate_left
      · (intro W hSw; (try dsimp only at hSw); have C := CX.out _ hSw; have D := DX.out _ hSw; have cl := C.lt; have dl := D.lt; obtain ⟨c0, c1, c2, c3, c4, c5, c6, c7⟩ := C; obtain ⟨d0, d1, d2, d3, d4, d5, d6, d7⟩ := D; dsimp only at c0 c1 c2 c3 c4 c5 c6 c7 d0 d1 d2 d3 d4 d5 d6 d7; try simp only [smO6x31]; first | (go_simp; done) | (go_simp; with_reducible rfl))
      try simp only [smO6x31, Act.put, List.setIfInBounds_toArray, List.set_cons_zero, List.set_cons_succ]
      refine wpAnyH_take (i := 32) (oi := smO6x32) (v := ?_) rfl (by kernel_rfl) (by kernel_rfl) (by kernel_rfl) (fun _ _ _ h => h) (Or.inl ⟨by rfl, ?_⟩) (by assumption) ?_
      rotate_left
      · (intro W hSw; (try dsimp only at hSw); have C := CX.out _ hSw; have D := DX.out _ hSw; have cl := C.lt; have dl := D.lt; obtain ⟨c0, c1, c2, c3, c4, c5, c6, c7⟩ := C; obtain ⟨d0, d1, d2, d3, d4, d5, d6, d7⟩ := D; dsimp only at c0 c1 c2 c3 c4 c5 c6 c7 d0 d1 d2 d3 d4 d5 d6 d7; try simp only [smO6x32]; first | (go_simp; done) | (go_simp; with_reducible rfl))
      try simp only [smO6x32, Act.put, List.setIfInBounds_toArray, List.set_cons_zero, List.set_cons_succ]
      refine wpAnyH_take (i := 33) (oi := smO6x33) (v := ?_) rfl (by kernel_rfl) (by kernel_rfl) (by kernel_rfl) (fun _ _ _ h => h) (Or.inl ⟨by rfl, ?_⟩) (by assumption) ?_
      rotate_left
      · (intro W hSw; (try dsimp only at hSw); have C := CX.out _ hSw; have D := DX.out _ hSw; have cl := C.lt; have dl := D.lt; obtain ⟨c0, c1, c2, c3, c4, c5, c6, c7⟩ := C; obtain ⟨d0, d1, d2, d3, d4, d5, d6, d7⟩ := D; dsimp only at c0 c1 c2 c3 c4 c5 c6 c7 d0 d1 d2 d3 d4 d5 d6 d7; try simp only [smO6x33]; first | (go_simp; done) | (go_simp; with_reducible rfl))
      try simp only [smO6x33, Act.put, List.setIfInBounds_toArray, List.set_cons_zero, List.set_cons_succ]
      refine wpAnyH_take (i := 34) (oi := smO6x34) (v := ?_) rfl (by kernel_rfl) (by kernel_rfl) (by kernel_rfl) (fun _ _ _ h => h) (Or.inl ⟨by rfl, ?_⟩) (by assumption) ?_
      rotate_left
      · (intro W hSw; (try dsimp only at hSw); have C := CX.out _ hSw; have D := DX.out _ hSw; have cl := C.lt; have dl := D.lt; obtain ⟨c0, c1, c2, c3, c4, c5, c6, c7⟩ := C; obtain ⟨d0, d1, d2, d3, d4, d5, d6, d7⟩ := D; dsimp only at c0 c1 c2 c3 c4 c5 c6 c7 d0 d1 d2 d3 d4 d5 d6 d7; try simp only [smO6x34]; first | (go_simp; done) | (go_simp; with_reducible rfl))
      try simp only [smO6x34, Act.put, List.setIfInBounds_toArray, List.set_cons_zero, List.set_cons_succ]
      refine wpAnyH_take (i := 35) (oi := smO6x35) (v := ?_) rfl (by kernel_rfl) (by kernel_rfl) (by kernel_rfl) (fun _ _ _ h => h) (Or.inl ⟨by rfl, ?_⟩) (by assumption) ?_
      rotate_left
      · (intro W hSw; (try dsimp only at hSw); have C := CX.out _ hSw; have D := DX.out _ hSw; have cl := C.lt; have dl := D.lt; obtain ⟨c0, c1, c2, c3, c4, c5, c6, c7⟩ := C; obtain ⟨d0, d1, d2, d3, d4, d5, d6, d7⟩ := D; dsimp only at c0 c1 c2 c3 c4 c5 c6 c7 d0 d1 d2 d3 d4 d5 d6 d7; try simp only [smO6x35]; first | (go_simp; done) | (go_simp; with_reducible rfl))
      try simp only [smO6x35, Act.put, List.setIfInBounds_toArray, List.set_cons_zero, List.set_cons_succ]
      refine wpAnyH_take (i := 36) (oi := smO6x36) (v := ?_) rfl (by kernel_rfl) (by kernel_rfl) (by kernel_rfl) (fun _ _ _ h => h) (Or.inl ⟨by rfl, ?_⟩) (by assumption) ?_
      rotate_left
      · (intro W hSw; (try dsimp only at hSw); have C := CX.out _ hSw; have D := DX.out _ hSw; have cl := C.lt; have dl := D.lt; obtain ⟨c0, c1, c2, c3, c4, c5, c6, c7⟩ := C; obtain ⟨d0, d1, d2, d3, d4, d5, d6, d7⟩ := D; dsimp only at c0 c1 c2 c3 c4 c5 c6 c7 d0 d1 d2 d3 d4 d5 d6 d7; try simp only [smO6x36]; first | (go_simp; done) | (go_simp; with_reducible rfl))
      try simp only [smO6x36, Act.put, List.setIfInBounds_toArray, List.set_cons_zero, List.set_cons_succ]
      refine wpAnyH_take (i := 37) (oi := smO6x37) (v := ?_) rfl (by kernel_rfl) (by kernel_rfl) (by kernel_rfl) (fun _ _ _ h => h) (Or.inl ⟨by rfl, ?_⟩) (by assumption) ?_
      rotate_left
      · (intro W hSw; (try dsimp only at hSw); have C := CX.out _ hSw; have D := DX.out _ hSw; have cl := C.lt; have dl := D.lt; obtain ⟨c0, c1, c2, c3, c4, c5, c6, c7⟩ := C; obtain ⟨d0, d1, d2, d3, d4, d5, d6, d7⟩ := D; dsimp only at c0 c1 c2 c3 c4 c5 c6 c7 d0 d1 d2 d3 d4 d5 d6 d7; try simp only [smO6x37]; first | (go_simp; done) | (go_simp; with_reducible rfl))
      try simp only [smO6x37, Act.put, List.setIfInBounds_toArray, List.set_cons_zero, List.set_cons_succ]
      refine wpAnyH_take (i := 38) (oi := smO6x38) (v := ?_) rfl (by kernel_rfl) (by kernel_rfl) (by kernel_rfl) (fun _ _ _ h => h) (Or.inl ⟨by rfl, ?_⟩) (by assumption) ?_
      rotate_left
      · (intro W hSw; (try dsimp only at hSw); have C := CX.out _ hSw; have D := DX.out _ hSw; have cl := C.lt; have dl := D.lt; obtain ⟨c0, c1, c2, c3, c4, c5, c6, c7⟩ := C; obtain ⟨d0, d1, d2, d3, d4, d5, d6, d7⟩ := D; dsimp only at c0 c1 c2 c3 c4 c5 c6 c7 d0 d1 d2 d3 d4 d5 d6 d7; try simp only [smO6x38]; first | (go_simp; done) | (go_simp; with_reducible rfl))
      try simp only [smO6x38, Act.put, List.setIfInBounds_toArray, List.set_cons_zero, List.set_cons_succ]
      refine wpAnyH_take (i := 39) (oi := smO6x39) (v := ?_) rfl (by kernel_rfl) (by kernel_rfl) (by kernel_rfl) (fun _ _ _ h => h) (Or.inl ⟨by rfl, ?_⟩) (by assumption) ?_
      rotate_left
      · (intro W hSw; (try dsimp only at hSw); have C := CX.out _ hSw; have D := DX.out _ hSw; have cl := C.lt; have dl := D.lt; obtain ⟨c0, c1, c2, c3, c4, c5, c6, c7⟩ := C; obtain ⟨d0, d1, d2, d3, d4, d5, d6, d7⟩ := D; dsimp only at c0 c1 c2 c3 c4 c5 c6 c7 d0 d1 d2 d3 d4 d5 d6 d7; try simp only [smO6x39]; first | (go_simp; done) | (go_simp; with_reducible rfl))
      try simp only [smO6x39, Act.put, List.setIfInBounds_toArray, List.set_cons_zero, List.set_cons_succ]
      refine wpAnyH_take (i := 40) (oi := smO6x40) (v := ?_) rfl (by kernel_rfl) (by kernel_rfl) (by kernel_rfl) (fun _ _ _ h => h) (Or.inl ⟨by rfl, ?_⟩) (by assumption) ?_
      rotate_left
      · (intro W hSw; (try dsimp only at hSw); have C := CX.out _ hSw; have D := DX.out _ hSw; have cl := C.lt; have dl := D.lt; obtain ⟨c0, c1, c2, c3, c4, c5, c6, c7⟩ := C; obtain ⟨d0, d1, d2, d3, d4, d5, d6, d7⟩ := D; dsimp only at c0 c1 c2 c3 c4 c5 c6 c7 d0 d1 d2 d3 d4 d5 d6 d7; try simp only [smO6x40]; first | (go_simp; done) | (go_simp; with_reducible rfl))
      try simp only [smO6x40, Act.put, List.setIfInBounds_toArray, List.set_cons_zero, List.set_cons_succ]
      refine wpAnyH_take (i := 41) (oi := smO6x41) (v := ?_) rfl (by kernel_rfl) (by kernel_rfl) (by kernel_rfl) (fun _ _ _ h => h) (Or.inl ⟨by rfl, ?_⟩) (by assumption) ?_
      rotate_left
      · (intro W hSw; (try dsimp only at hSw); have C := CX.out _ hSw; have D := DX.out _ hSw; have cl := C.lt; have dl := D.lt; obtain ⟨c0, c1, c2, c3, c4, c5, c6, c7⟩ := C; obtain ⟨d0, d1, d2, d3, d4, d5, d6, d7⟩ := D; dsimp only at c0 c1 c2 c3 c4 c5 c6 c7 d0 d1 d2 d3 d4 d5 d6 d7; try simp only [smO6x41]; first | (go_simp; done) | (go_simp; with_reducible rfl))
      try simp only [smO6x41, Act.put, List.setIfInBounds_toArray, List.set_cons_zero, List.set_cons_succ]
      refine wpAnyH_take (i := 42) (oi := smO6x42) (v := ?_) rfl (by kernel_rfl) (by kernel_rfl) (by kernel_rfl) (fun _ _ _ h => h) (Or.inl ⟨by rfl, ?_⟩) (by assumption) ?_
      rotate_left
      · (intro W hSw; (try dsimp only at hSw); have C := CX.out _ hSw; have D := DX.out _ hSw; have cl := C.lt; have dl := D.lt; obtain ⟨c0, c1, c2, c3, c4, c5, c6, c7⟩ := C; obtain ⟨d0, d1, d2, d3, d4, d5, d6, d7⟩ := D; dsimp only at c0 c1 c2 c3 c4 c5 c6 c7 d0 d1 d2 d3 d4 d5 d6 d7; try simp only [smO6x42]; first | (go_simp; done) | (go_simp; with_reducible rfl))
      try simp only [smO6x42, Act.put, List.setIfInBounds_toArray, List.set_cons_zero, List.set_cons_succ]
      refine wpAnyH_take (i := 43) (oi := smO6x43) (v := ?_) rfl (by kernel_rfl) (by kernel_rfl) (by kernel_rfl) (fun _ _ _ h => h) (Or.inl ⟨by rfl, ?_⟩) (by assumption) ?_
      rotate_left
      · (intro W hSw; (try dsimp only at hSw); have C := CX.out _ hSw; have D := DX.out _ hSw; have cl := C.lt; have dl := D.lt; obtain ⟨c0, c1, c2, c3, c4, c5, c6, c7⟩ := C; obtain ⟨d0, d1, d2, d3, d4, d5, d6, d7⟩ := D; dsimp only at c0 c1 c2 c3 c4 c5 c6 c7 d0 d1 d2 d3 d4 d5 d6 d7; try simp only [smO6x43]; first | (go_simp; done) | (go_simp; with_reducible rfl))
      try simp only [smO6x43, Act.put, List.setIfInBounds_toArray, List.set_cons_zero, List.set_cons_succ]
      refine wpAnyH_take (i := 44) (oi := smO6x44) (v := ?_) rfl (by kernel_rfl) (by kernel_rfl) (by kernel_rfl) (fun _ _ _ h => h) (Or.inl ⟨by rfl, ?_⟩) (by assumption) ?_
      rotate_left
      · (intro W hSw; (try dsimp only at hSw); have C := CX.out _ hSw; have D := DX.out _ hSw; have cl := C.lt; have dl := D.lt; obtain ⟨c0, c1, c2, c3, c4, c5, c6, c7⟩ := C; obtain ⟨d0, d1, d2, d3, d4, d5, d6, d7⟩ := D; dsimp only at c0 c1 c2 c3 c4 c5 c6 c7 d0 d1 d2 d3 d4 d5 d6 d7; try simp only [smO6x44]; first | (go_simp; done) | (go_simp; with_reducible rfl))
      try simp only [smO6x44, Act.put, List.setIfInBounds_toArray, List.set_cons_zero, List.set_cons_succ]
      refine wpAnyH_take (i := 45) (oi := smO6x45) (v := ?_) rfl (by kernel_rfl) (by kernel_rfl) (by kernel_rfl) (fun _ _ _ h => h) (Or.inl ⟨by rfl, ?_⟩) (by assumption) ?_
      rotate_left
      · (intro W hSw; (try dsimp only at hSw); have C := CX.out _ hSw; have D := DX.out _ hSw; have cl := C.lt; have dl := D.lt; obtain ⟨c0, c1, c2, c3, c4, c5, c6, c7⟩ := C; obtain ⟨d0, d1, d2, d3, d4, d5, d6, d7⟩ := D; dsimp only at c0 c1 c2 c3 c4 c5 c6 c7 d0 d1 d2 d3 d4 d5 d6 d7; try simp only [smO6x45]; first | (go_simp; done) | (go_simp; with_reducible rfl))
      try simp only [smO6x45, Act.put, List.setIfInBounds_toArray, List.set_cons_zero, List.set_cons_succ]
      refine wpAnyH_take (i := 46) (oi := smO6x46) (v := ?_) rfl (by kernel_rfl) (by kernel_rfl) (by kernel_rfl) (fun _ _ _ h => h) (Or.inl ⟨by rfl, ?_⟩) (by assumption) ?_
      rotate_left
      · (intro W hSw; (try dsimp only at hSw); have C := CX.out _ hSw; have D := DX.out _ hSw; have cl := C.lt; have dl := D.lt; obtain ⟨c0, c1, c2, c3, c4, c5, c6, c7⟩ := C; obtain ⟨d0, d1, d2, d3, d4, d5, d6, d7⟩ := D; dsimp only at c0 c1 c2 c3 c4 c5 c6 c7 d0 d1 d2 d3 d4 d5 d6 d7; try simp only [smO6x46]; first | (go_simp; done) | (go_simp; with_reducible rfl))
      try simp only [smO6x46, Act.put, List.setIfInBounds_toArray, List.set_cons_zero, List.set_cons_succ]
      refine wpAnyH_take (i := 47) (oi := smO6x47) (v := ?_) rfl (by kernel_rfl) (by kernel_rfl) (by kernel_rfl) (fun _ _ _ h => h) (Or.inl ⟨by rfl, ?_⟩) (by assumption) ?_
      rotate_left
      · (intro W hSw; (try dsimp only at hSw); have C := CX.out _ hSw; have D := DX.out _ hSw; have cl := C.lt; have dl := D.lt; obtain ⟨c0, c1, c2, c3, c4, c5, c6, c7⟩ := C; obtain ⟨d0, d1, d2, d3, d4, d5, d6, d7⟩ := D; dsimp only at c0 c1 c2 c3 c4 c5 c6 c7 d0 d1 d2 d3 d4 d5 d6 d7; try simp only [smO6x47]; first | (go_simp; done) | (go_simp; with_reducible rfl))
      try simp only [smO6x47, Act.put, List.setIfInBounds_toArray, List.set_cons_zero, List.set_cons_succ]
      refine wpAnyH_ready (rs := [48]) (by kernel_rfl) (by simp) ?_
      refine AllReadyH.cons (o := smO6x48) rfl (fun K hK => ?_) AllReadyH.nil
      try simp only [smO6x48]
      go_simp
      go_wp2_with fail
      have hH2 : Below wo.heap.size wo _ := hHeld
      refine (SM _).mono ?_
      rintro e w3 ⟨rfl, b3⟩
      have hb3 : Below wo.heap.size wo w3 := below_trans hH2 b3
      clear hH2
      refine hK.out _ _ ?_ (fun hHeld => ?_)
      · ((try dsimp only); exact hb3)
      clear hK K
      try simp only [Act.put, List.setIfInBounds_toArray, List.set_cons_zero, List.set_cons_succ]
      refine wpAnyH_take (i := 49) (oi := smO6x49) (v := ?_) rfl (by kernel_rfl) (by kernel_rfl) (by kernel_rfl) (fun _ _ _ h => h) (Or.inl ⟨by rfl, ?_⟩) (by assumption) ?_
      rotate_left
      · (intro W hSw; (try dsimp only at hSw); have C := CX.out _ hSw; have D := DX.out _ hSw; have cl := C.lt; have dl := D.lt; obtain ⟨c0, c1, c2, c3, c4, c5, c6, c7⟩ := C; obtain ⟨d0, d1, d2, d3, d4, d5, d6, d7⟩ := D; dsimp only at c0 c1 c2 c3 c4 c5 c6 c7 d0 d1 d2 d3 d4 d5 d6 d7; try simp only [smO6x49]; first | (go_simp; done) | (go_simp; with_reducible rfl))
      try simp only [smO6x49, Act.put, List.setIfInBounds_toArray, List.set_cons_zero, List.set_cons_succ]
      refine wpAnyH_take (i := 50) (oi := smO6x50) (v := ?_) rfl (by kernel_rfl) (by kernel_rfl) (by kernel_rfl) (fun _ _ _ h => h) (Or.inl ⟨by rfl, ?_⟩) (by assumption) ?_
      rotate_left
      · (intro W hSw; (try dsimp only at hSw); have C := CX.out _ hSw; have D := DX.out _ hSw; have cl := C.lt; have dl := D.lt; obtain ⟨c0, c1, c2, c3, c4, c5, c6, c7⟩ := C; obtain ⟨d0, d1, d2, d3, d4, d5, d6, d7⟩ := D; dsimp only at c0 c1 c2 c3 c4 c5 c6 c7 d0 d1 d2 d3 d4 d5 d6 d7; try simp only [smO6x50]; first | (go_simp; done) | (go_simp; with_reducible rfl))
      try simp only [smO6x50, Act.put, List.setIfInBounds_toArray, List.set_cons_zero, List.set_cons_succ]
      refine wpAnyH_take (i := 51) (oi := smO6x51) (v := ?_) rfl (by kernel_rfl) (by kernel_rfl) (by kernel_rfl) (fun _ _ _ h => h) (Or.inl ⟨by rfl, ?_⟩) (by assumption) ?_
      rotate_left
      · (intro W hSw; (try dsimp only at hSw); have C := CX.out _ hSw; have D := DX.out _ hSw; have cl := C.lt; have dl := D.lt; obtain ⟨c0, c1, c2, c3, c4, c5, c6, c7⟩ := C; obtain ⟨d0, d1, d2, d3, d4, d5, d6, d7⟩ := D; dsimp only at c0 c1 c2 c3 c4 c5 c6 c7 d0 d1 d2 d3 d4 d5 d6 d7; try simp only [smO6x51]; first | (go_simp; done) | (go_simp; with_reducible rfl))
      try simp only [smO6x51, Act.put, List.setIfInBounds_toArray, List.set_cons_zero, List.set_cons_succ]
      refine wpAnyH_take (i := 52) (oi := smO6x52) (v := ?_) rfl (by kernel_rfl) (by kernel_rfl) (by kernel_rfl) (fun _ _ _ h => h) (Or.inl ⟨by rfl, ?_⟩) (by assumption) ?_
      rotate_left
      · (intro W hSw; (try dsimp only at hSw); have C := CX.out _ hSw; have D := DX.out _ hSw; have cl := C.lt; have dl := D.lt; obtain ⟨c0, c1, c2, c3, c4, c5, c6, c7⟩ := C; obtain ⟨d0, d1, d2, d3, d4, d5, d6, d7⟩ := D; dsimp only at c0 c1 c2 c3 c4 c5 c6 c7 d0 d1 d2 d3 d4 d5 d6 d7; try simp only [smO6x52]; first | (go_simp; done) | (go_simp; with_reducible rfl))
      try simp only [smO6x52, Act.put, List.setIfInBounds_toArray, List.set_cons_zero, List.set_cons_succ]
      refine wpAnyH_take (i := 53) (oi := smO6x53) (v := ?_) rfl (by kernel_rfl) (by kernel_rfl) (by kernel_rfl) (fun _ _ _ h => h) (Or.inl ⟨by rfl, ?_⟩) (by assumption) ?_
      rotate_left
      · (intro W hSw; (try dsimp only at hSw); have C := CX.out _ hSw; have D := DX.out _ hSw; have cl := C.lt; have dl := D.lt; obtain ⟨c0, c1, c2, c3, c4, c5, c6, c7⟩ := C; obtain ⟨d0, d1, d2, d3, d4, d5, d6, d7⟩ := D; dsimp only at c0 c1 c2 c3 c4 c5 c6 c7 d0 d1 d2 d3 d4 d5 d6 d7; try simp only [smO6x53]; first | (go_simp; done) | (go_simp; with_reducible rfl))
      try simp only [smO6x53, Act.put, List.setIfInBounds_toArray, List.set_cons_zero, List.set_cons_succ]
      refine wpAnyH_take (i := 54) (oi := smO6x54) (v := ?_) rfl (by kernel_rfl) (by kernel_rfl) (by kernel_rfl) (fun _ _ _ h => h) (Or.inl ⟨by rfl, ?_⟩) (by assumption) ?_
      rotate_left
      · (intro W hSw; (try dsimp only at hSw); have C := CX.out _ hSw; have D := DX.out _ hSw; have cl := C.lt; have dl := D.lt; obtain ⟨c0, c1, c2, c3, c4, c5, c6, c7⟩ := C; obtain ⟨d0, d1, d2, d3, d4, d5, d6, d7⟩ := D; dsimp only at c0 c1 c2 c3 c4 c5 c6 c7 d0 d1 d2 d3 d4 d5 d6 d7; try simp only [smO6x54]; first | (go_simp; done) | (go_simp; with_reducible rfl))
      try simp only [smO6x54, Act.put, List.setIfInBounds_toArray, List.set_cons_zero, List.set_cons_succ]
      refine wpAnyH_take (i := 55) (oi := smO6x55) (v := ?_) rfl (by kernel_rfl) (by kernel_rfl) (by kernel_rfl) (fun _ _ _ h => h) (Or.inl ⟨by rfl, ?_⟩) (by assumption) ?_
      rotate_left
      · (intro W hSw; (try dsimp only at hSw); have C := CX.out _ hSw; have D := DX.out _ hSw; have cl := C.lt; have dl := D.lt; obtain ⟨c0, c1, c2, c3, c4, c5, c6, c7⟩ := C; obtain ⟨d0, d1, d2, d3, d4, d5, d6, d7⟩ := D; dsimp only at c0 c1 c2 c3 c4 c5 c6 c7 d0 d1 d2 d3 d4 d5 d6 d7; try simp only [smO6x55]; first | (go_simp; done) | (go_simp; with_reducible rfl))
      try simp only [smO6x55, Act.put, List.setIfInBounds_toArray, List.set_cons_zero, List.set_cons_succ]
      refine wpAnyH_take (i := 56) (oi := smO6x56) (v := ?_) rfl (by kernel_rfl) (by kernel_rfl) (by kernel_rfl) (fun _ _ _ h => h) (Or.inl ⟨by rfl, ?_⟩) (by assumption) ?_
      rotate_left
      · (intro W hSw; (try dsimp only at hSw); have C := CX.out _ hSw; have D := DX.out _ hSw; have cl := C.lt; have dl := D.lt; obtain ⟨c0, c1, c2, c3, c4, c5, c6, c7⟩ := C; obtain ⟨d0, d1, d2, d3, d4, d5, d6, d7⟩ := D; dsimp only at c0 c1 c2 c3 c4 c5 c6 c7 d0 d1 d2 d3 d4 d5 d6 d7; try simp only [smO6x56]; first | (go_simp; done) | (go_simp; with_reducible rfl))
      try simp only [smO6x56, Act.put, List.setIfInBounds_toArray, List.set_cons_zero, List.set_cons_succ]
      refine wpAnyH_take (i := 57) (oi := smO6x57) (v := ?_) rfl (by kernel_rfl) (by kernel_rfl) (by kernel_rfl) (fun _ _ _ h => h) (Or.inl ⟨by rfl, ?_⟩) (by assumption) ?_
      rotate_left
      · (intro W hSw; (try dsimp only at hSw); have C := CX.out _ hSw; have D := DX.out _ hSw; have cl := C.lt; have dl := D.lt; obtain ⟨c0, c1, c2, c3, c4, c5, c6, c7⟩ := C; obtain ⟨d0, d1, d2, d3, d4, d5, d6, d7⟩ := D; dsimp only at c0 c1 c2 c3 c4 c5 c6 c7 d0 d1 d2 d3 d4 d5 d6 d7; try simp only [smO6x57]; first | (go_simp; done) | (go_simp; with_reducible rfl))
      try simp only [smO6x57, Act.put, List.setIfInBounds_toArray, List.set_cons_zero, List.set_cons_succ]
      refine wpAnyH_take (i := 58) (oi := smO6x58) (v := ?_) rfl (by kernel_rfl) (by kernel_rfl) (by kernel_rfl) (fun _ _ _ h => h) (Or.inl ⟨by rfl, ?_⟩) (by assumption) ?_
      rotate_left
      · (intro W hSw; (try dsimp only at hSw); have C := CX.out _ hSw; have D := DX.out _ hSw; have cl := C.lt; have dl := D.lt; obtain ⟨c0, c1, c2, c3, c4, c5, c6, c7⟩ := C; obtain ⟨d0, d1, d2, d3, d4, d5, d6, d7⟩ := D; dsimp only at c0 c1 c2 c3 c4 c5 c6 c7 d0 d1 d2 d3 d4 d5 d6 d7; try simp only [smO6x58]; first | (go_simp; done) | (go_simp; with_reducible rfl))
      try simp only [smO6x58, Act.put, List.setIfInBounds_toArray, List.set_cons_zero, List.set_cons_succ]
      refine wpAnyH_take (i := 59) (oi := smO6x59) (v := ?_) rfl (by kernel_rfl) (by kernel_rfl) (by kernel_rfl) (fun _ _ _ h => h) (Or.inl ⟨by rfl, ?_⟩) (by assumption) ?_
      rotate_left
      · (intro W hSw; (try dsimp only at hSw); have C := CX.out _ hSw; have D := DX.out _ hSw; have cl := C.lt; have dl := D.lt; obtain ⟨c0, c1, c2, c3, c4, c5, c6, c7⟩ := C; obtain ⟨d0, d1, d2, d3, d4, d5, d6, d7⟩ := D; dsimp only at c0 c1 c2 c3 c4 c5 c6 c7 d0 d1 d2 d3 d4 d5 d6 d7; try simp only [smO6x59]; first | (go_simp; done) | (go_simp; with_reducible rfl))
      try simp only [smO6x59, Act.put, List.setIfInBounds_toArray, List.set_cons_zero, List.set_cons_succ]
      refine wpAnyH_take (i := 60) (oi := smO6x60) (v := ?_) rfl (by kernel_rfl) (by kernel_rfl) (by kernel_rfl) (fun _ _ _ h => h) (Or.inl ⟨by rfl, ?_⟩) (by assumption) ?_
      rotate_left
      · (intro W hSw; (try dsimp only at hSw); have C := CX.out _ hSw; have D := DX.out _ hSw; have cl := C.lt; have dl := D.lt; obtain ⟨c0, c1, c2, c3, c4, c5, c6, c7⟩ := C; obtain ⟨d0, d1, d2, d3, d4, d5, d6, d7⟩ := D; dsimp only at c0 c1 c2 c3 c4 c5 c6 c7 d0 d1 d2 d3 d4 d5 d6 d7; try simp only [smO6x60]; first | (go_simp; done) | (go_simp; with_reducible rfl))
      try simp only [smO6x60, Act.put, List.setIfInBounds_toArray, List.set_cons_zero, List.set_cons_succ]
      refine wpAnyH_take (i := 61) (oi := smO6x61) (v := ?_) rfl (by kernel_rfl) (by kernel_rfl) (by kernel_rfl) (fun _ _ _ h => h) (Or.inl ⟨by rfl, ?_⟩) (by assumption) ?_
      rotate_left
      · (intro W hSw; (try dsimp only at hSw); have C := CX.out _ hSw; have D := DX.out _ hSw; have cl := C.lt; have dl := D.lt; obtain ⟨c0, c1, c2, c3, c4, c5, c6, c7⟩ := C; obtain ⟨d0, d1, d2, d3, d4, d5, d6, d7⟩ := D; dsimp only at c0 c1 c2 c3 c4 c5 c6 c7 d0 d1 d2 d3 d4 d5 d6 d7; try simp only [smO6x61]; first | (go_simp; done) | (go_simp; with_reducible rfl))
      try simp only [smO6x61, Act.put, List.setIfInBounds_toArray, List.set_cons_zero, List.set_cons_succ]
      refine wpAnyH_take (i := 62) (oi := smO6x62) (v := ?_) rfl (by kernel_rfl) (by kernel_rfl) (by kernel_rfl) (fun _ _ _ h => h) (Or.inl ⟨by rfl, ?_⟩) (by assumption) ?_
      rotate_left
      · (intro W hSw; (try dsimp only at hSw); have C := CX.out _ hSw; have D := DX.out _ hSw; have cl := C.lt; have dl := D.lt; obtain ⟨c0, c1, c2, c3, c4, c5, c6, c7⟩ := C; obtain ⟨d0, d1, d2, d3, d4, d5, d6, d7⟩ := D; dsimp only at c0 c1 c2 c3 c4 c5 c6 c7 d0 d1 d2 d3 d4 d5 d6 d7; try simp only [smO6x62]; first | (go_simp; done) | (go_simp; with_reducible rfl))
      try simp only [smO6x62, Act.put, List.setIfInBounds_toArray, List.set_cons_zero, List.set_cons_succ]
      refine wpAnyH_take (i := 63) (oi := smO6x63) (v := ?_) rfl (by kernel_rfl) (by kernel_rfl) (by kernel_rfl) (fun _ _ _ h => h) (Or.inl ⟨by rfl, ?_⟩) (by assumption) ?_
      rotate_left
      · (intro W hSw; (try dsimp only at hSw); have C := CX.out _ hSw; have D := DX.out _ hSw; have cl := C.lt; have dl := D.lt; obtain ⟨c0, c1, c2, c3, c4, c5, c6, c7⟩ := C; obtain ⟨d0, d1, d2, d3, d4, d5, d6, d7⟩ := D; dsimp only at c0 c1 c2 c3 c4 c5 c6 c7 d0 d1 d2 d3 d4 d5 d6 d7; try simp only [smO6x63]; first | (go_simp; done) | (go_simp; with_reducible rfl))
      try simp only [smO6x63, Act.put, List.setIfInBounds_toArray, List.set_cons_zero, List.set_cons_succ]
      refine wpAnyH_done (by kernel_rfl) ?_ _
      go_wp2
      exact ⟨⟨k + 1, by rw [cst1], by omega, below_trans hb hb3⟩, by simp [intOf]; omega⟩
    · have hlt' : ¬ (k : Int) < (n : Int) := by omega
      go_wp2
      go_ret
      exact ⟨rfl, hb⟩
end Go.Proofs.YtclhmmgdhagloaaGreatDoor
