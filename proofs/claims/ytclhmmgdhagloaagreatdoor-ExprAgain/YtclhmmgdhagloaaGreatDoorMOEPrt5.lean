/-
  The contract of textOf of package expr: a column and a call.
  The contract of textOf of package expr: a call of nothing, out of no texts at all; all arms.
  The contract of expr.Print: the walk over the nodes with a stack of texts.
-/
import Derived.Test.YtclhmmgdhagloaaGreatDoorMNEPrt2
namespace Go.Proofs.YtclhmmgdhagloaaGreatDoor
open Go.RowKit Go.Shelf
attribute [local go_sem] cell?_more frozen?_more setCell_more more_lt more_more more_drew more_drewN setCell_drewN alloc_drewN

set_option maxRecDepth 20000 in
set_option maxHeartbeats 4000000 in
theorem textOf_col (pv : Va → List UInt8) (x : Nd) (ao : Option Addr) (n c : Nat) (of : List (List UInt8)) (w : World) (hx : x.o = 2) (ht : x.t.length ≤ 10000000000000) (hn : x.n.length ≤ 10000000000000) :
    Calls Tryz.prog 39 #[ndv x, .slice ao n c] w fun e w' => e = .returned (.string ⟨(txtN pv x of).toArray⟩) ∧ Below w.heap.size w w' := by
  have C := fun W => columnText_any x W (by omega) (by omega)
  obtain ⟨xo, xt, xn, xv, xa⟩ := x
  simp only at hx hn ht
  subst hx
  have et : txtN pv ⟨2, xt, xn, xv, xa⟩ of = colT ⟨2, xt, xn, xv, xa⟩ := rfl
  rw [et]
  clear et
  generalize colT ⟨2, xt, xn, xv, xa⟩ = T at *
  go_enter Tryz.func39, Tryz.ntmps39
  go_wp2_with (go_at_call 63; refine (C _).mono ?_; rintro e w1 ⟨rfl, b1⟩)
  go_ret
  exact ⟨rfl, by first | exact ((Below.refl _ w).alloc (Nat.le_refl _) _).trans (b1.mono (by simp)) | skip⟩

set_option maxRecDepth 20000 in
set_option maxHeartbeats 4000000 in
theorem textOf_val (pv : Va → List UInt8) (x : Nd) (ao : Option Addr) (n c : Nat) (of : List (List UInt8)) (w : World) (hx : x.o = 1)
    (P : ∀ W, Below w.heap.size w W → Calls Tryz.prog 62 #[vv x.v] W fun e w' => e = .returned (.string ⟨(pv x.v).toArray⟩) ∧ Below W.heap.size W w') :
    Calls Tryz.prog 39 #[ndv x, .slice ao n c] w fun e w' => e = .returned (.string ⟨(txtN pv x of).toArray⟩) ∧ Below w.heap.size w w' := by
  obtain ⟨xo, xt, xn, ⟨vk, vn, vm, vb⟩, xa⟩ := x
  simp only at hx P
  subst hx
  have et : txtN pv ⟨1, xt, xn, ⟨vk, vn, vm, vb⟩, xa⟩ of = pv ⟨vk, vn, vm, vb⟩ := rfl
  rw [et]
  clear et
  generalize pv ⟨vk, vn, vm, vb⟩ = T at *
  have P' : ∀ W, Below w.heap.size w W → Calls Tryz.prog 62 #[va vk vn vm ⟨vb.toArray⟩] W fun e w' => e = .returned (.string ⟨T.toArray⟩) ∧ Below W.heap.size W w' := P
  clear P
  go_enter Tryz.func39, Tryz.ntmps39
  go_wp2_with (go_at_call 62; refine (P' _ (by first | exact (Below.refl _ w).alloc (Nat.le_refl _) _ | exact ((Below.refl _ w).alloc (Nat.le_refl _) _).drew)).mono ?_; rintro e w1 ⟨rfl, b1⟩)
  go_ret
  exact ⟨rfl, by first | exact ((Below.refl _ w).alloc (Nat.le_refl _) _).trans (b1.mono (by simp)) | skip⟩

theorem join_at (g off c : Nat) (of : List (List UInt8)) (w : World) (hs : Sw w g off of) (hg : g < w.heap.size) (hN : of.length ≤ 1000) (hc : of.length ≤ c) (hlen : (Lib.join of [44, 32]).length ≤ 100000000000000) :
    ∀ W, Below w.heap.size w W → Calls Tryz.prog 65 #[.slice (some ⟨g, off, none⟩) of.length c, .string ⟨#[44, 32]⟩] W fun e w' => e = .returned (.string ⟨(Lib.join of [44, 32]).toArray⟩) ∧ Below W.heap.size W w' := by
  intro W hB
  have e : (of.map (fun x : List UInt8 => (⟨x.toArray⟩ : ByteArray))).map (·.data.toList) = of := by rw [List.map_map]; simp [Function.comp_def]
  have J := join_lib g off c (of.map fun x => ⟨x.toArray⟩) ⟨#[44, 32]⟩ W (by
    intro j x hx
    rw [List.getElem?_map] at hx
    cases hq : of[j]? with
    | none => rw [hq] at hx; cases hx
    | some y =>
      rw [hq] at hx
      cases hx
      obtain ⟨h1, h2⟩ := List.getElem?_eq_some_iff.1 hq
      have := hs j h1
      rw [h2] at this
      exact (hB.cell (p := ⟨g, off + j, none⟩) hg).trans this) (Nat.lt_of_lt_of_le hg hB.size) (by rw [List.length_map]; omega) (by rw [List.length_map]; omega) (by
    rw [e]
    show (Lib.join of [44, 32]).length ≤ _
    omega)
  rw [e, List.length_map] at J
  exact J

set_option maxRecDepth 20000 in
set_option maxHeartbeats 4000000 in
theorem textOf_call (pv : Va → List UInt8) (x : Nd) (ao : Option Addr) (n c : Nat) (of : List (List UInt8)) (w : World) (hx : x.o = 19) (hn : x.n.length ≤ 10000000000000) (hlen : (Lib.join of [44, 32]).length ≤ 100000000000000)
    (J : ∀ W, Below w.heap.size w W → Calls Tryz.prog 65 #[.slice ao n c, .string ⟨#[44, 32]⟩] W fun e w' => e = .returned (.string ⟨(Lib.join of [44, 32]).toArray⟩) ∧ Below W.heap.size W w') :
    Calls Tryz.prog 39 #[ndv x, .slice ao n c] w fun e w' => e = .returned (.string ⟨(txtN pv x of).toArray⟩) ∧ Below w.heap.size w w' := by
  obtain ⟨xo, xt, xn, xv, xa⟩ := x
  simp only at hx hn
  subst hx
  have et : txtN pv ⟨19, xt, xn, xv, xa⟩ of = xn ++ [40] ++ Lib.join of [44, 32] ++ [41] := rfl
  rw [et]
  clear et
  generalize Lib.join of [44, 32] = T at *
  have e1 : (ByteArray.mk xn.toArray) ++ (ByteArray.mk #[40]) = ⟨(xn ++ [40]).toArray⟩ := ba_app xn [40]
  have e2 : (ByteArray.mk (xn ++ [40]).toArray) ++ (ByteArray.mk T.toArray) = ⟨(xn ++ [40] ++ T).toArray⟩ := ba_app (xn ++ [40]) T
  have e3 : (ByteArray.mk (xn ++ [40] ++ T).toArray) ++ (ByteArray.mk #[41]) = ⟨(xn ++ [40] ++ T ++ [41]).toArray⟩ := ba_app (xn ++ [40] ++ T) [41]
  have s1 : (ByteArray.mk xn.toArray).size = xn.length := rfl
  have s2 : (ByteArray.mk (xn ++ [40]).toArray).size = xn.length + 1 := by show (xn ++ [40]).length = _; simp
  have s3 : (ByteArray.mk (xn ++ [40] ++ T).toArray).size = xn.length + 1 + T.length := by show (xn ++ [40] ++ T).length = _; simp; omega
  have s4 : (ByteArray.mk T.toArray).size = T.length := rfl
  have s5 : (ByteArray.mk #[40]).size = 1 := rfl
  have s6 : (ByteArray.mk #[41]).size = 1 := rfl
  have k1 : ¬ 9223372036854775807 < xn.length + 1 := by omega
  have k2 : ¬ 9223372036854775807 < xn.length + 1 + T.length := by omega
  have k3 : ¬ 9223372036854775807 < xn.length + 1 + T.length + 1 := by omega
  generalize xn ++ [40] ++ T ++ [41] = F at *
  generalize ByteArray.mk (xn ++ [40] ++ T).toArray = B3 at *
  generalize ByteArray.mk (xn ++ [40]).toArray = B2 at *
  generalize ByteArray.mk T.toArray = B1 at *
  go_enter Tryz.func39, Tryz.ntmps39
  go_wp2_with fail
  have CC : Hid (∀ W, Below (w.alloc (.cells (ncs ⟨19, xt, xn, xv, xa⟩) 44)).heap.size (w.alloc (.cells (ncs ⟨19, xt, xn, xv, xa⟩) 44)) W → W.cell? ⟨w.heap.size, 2, none⟩ = some (.string ⟨xn.toArray⟩)) := fun W h => (Cbox.later (Cbox.new w (ncs ⟨19, xt, xn, xv, xa⟩) 44) h).at 2
  refine wp_region_held_drew (S := (fun W => Below (w.alloc (.cells (ncs ⟨19, xt, xn, xv, xa⟩) 44)).heap.size (w.alloc (.cells (ncs ⟨19, xt, xn, xv, xa⟩) 44)) W)) (by kernel_rfl) ?_ (fun hHeld => ?_)
  · exact (Below.refl _ _).drew
  refine wpAnyH_take (i := 0) (oi := { dst := some 39, op := Op.fieldAddr 44 (Operand.tmp 2) 2, type := 0, pos := "print.go:52", after := #[], guard := none }) (v := ?_) rfl (by kernel_rfl) (by kernel_rfl) (by kernel_rfl) (fun _ _ _ h => h) (Or.inl ⟨by rfl, ?_⟩) (by assumption) ?_
  rotate_left
  · (intro W hSw; (try dsimp only at hSw); have q0 := CC.out W hSw; first | (go_simp; done) | (go_simp; with_reducible rfl) | (go_simp; first | rw [if_neg k1] | rw [if_neg k2] | rw [if_neg k3]))
  try simp only [Act.put, List.setIfInBounds_toArray, List.set_cons_zero, List.set_cons_succ]
  refine wpAnyH_take (i := 1) (oi := { dst := some 40, op := Op.load 9 (Operand.tmp 39), type := 9, pos := "print.go:52", after := #[{ on := 0, ground := Ground.data }], guard := none }) (v := ?_) rfl (by kernel_rfl) (by kernel_rfl) (by kernel_rfl) (fun _ _ _ h => h) (Or.inl ⟨by rfl, ?_⟩) (by assumption) ?_
  rotate_left
  · (intro W hSw; (try dsimp only at hSw); have q0 := CC.out W hSw; first | (go_simp; done) | (go_simp; with_reducible rfl) | (go_simp; first | rw [if_neg k1] | rw [if_neg k2] | rw [if_neg k3]))
  try simp only [Act.put, List.setIfInBounds_toArray, List.set_cons_zero, List.set_cons_succ]
  refine wpAnyH_take (i := 2) (oi := { dst := some 41, op := Op.binOp BinOp.add 9 (Operand.tmp 40) (Operand.const (Value.string { data := #[40] })) 9, type := 9, pos := "print.go:52", after := #[{ on := 1, ground := Ground.data }], guard := none }) (v := ?_) rfl (by kernel_rfl) (by kernel_rfl) (by kernel_rfl) (fun _ _ _ h => h) (Or.inl ⟨by rfl, ?_⟩) (by assumption) ?_
  rotate_left
  · (intro W hSw; (try dsimp only at hSw); have q0 := CC.out W hSw; first | (go_simp; done) | (go_simp; with_reducible rfl) | (go_simp; first | rw [if_neg k1] | rw [if_neg k2] | rw [if_neg k3]))
  try simp only [Act.put, List.setIfInBounds_toArray, List.set_cons_zero, List.set_cons_succ]
  refine wpAnyH_take (i := 3) (oi := { dst := some 42, op := Op.move (Operand.tmp 1), type := 45, pos := "print.go:52", after := #[], guard := none }) (v := ?_) rfl (by kernel_rfl) (by kernel_rfl) (by kernel_rfl) (fun _ _ _ h => h) (Or.inl ⟨by rfl, ?_⟩) (by assumption) ?_
  rotate_left
  · (intro W hSw; (try dsimp only at hSw); have q0 := CC.out W hSw; first | (go_simp; done) | (go_simp; with_reducible rfl) | (go_simp; first | rw [if_neg k1] | rw [if_neg k2] | rw [if_neg k3]))
  try simp only [Act.put, List.setIfInBounds_toArray, List.set_cons_zero, List.set_cons_succ]
  refine wpAnyH_ready (rs := [4]) (by kernel_rfl) (by simp) ?_
  refine AllReadyH.cons (o := { dst := some 43, op := Op.call { callee := Callee.value (Operand.func 65), args := #[Operand.tmp 42, Operand.const (Value.string { data := #[44, 32] })], argTypes := #[45, 9] }, type := 9, pos := "print.go:52", after := #[{ on := 3, ground := Ground.data }], guard := none }) rfl (fun K hK => ?_) AllReadyH.nil
  go_simp
  go_wp2_with fail
  refine (J _ (((Below.refl _ w).alloc (Nat.le_refl _) _).trans (hHeld.mono (by simp)))).mono ?_
  rintro e w1 ⟨rfl, b1⟩
  try dsimp only
  refine hK.out _ _ ?_ (fun hHeld => ?_)
  · ((try dsimp only); exact hHeld.trans (b1.mono hHeld.size))
  clear hK K
  try simp only [Act.put, List.setIfInBounds_toArray, List.set_cons_zero, List.set_cons_succ]
  refine wpAnyH_take (i := 5) (oi := { dst := some 44, op := Op.binOp BinOp.add 9 (Operand.tmp 41) (Operand.tmp 43) 9, type := 9, pos := "print.go:52", after := #[{ on := 2, ground := Ground.data }, { on := 4, ground := Ground.data }], guard := none }) (v := ?_) rfl (by kernel_rfl) (by kernel_rfl) (by kernel_rfl) (fun _ _ _ h => h) (Or.inl ⟨by rfl, ?_⟩) (by assumption) ?_
  rotate_left
  · (intro W hSw; (try dsimp only at hSw); have q0 := CC.out W hSw; first | (go_simp; done) | (go_simp; with_reducible rfl) | (go_simp; first | rw [if_neg k1] | rw [if_neg k2] | rw [if_neg k3]))
  try simp only [Act.put, List.setIfInBounds_toArray, List.set_cons_zero, List.set_cons_succ]
  refine wpAnyH_take (i := 6) (oi := { dst := some 45, op := Op.binOp BinOp.add 9 (Operand.tmp 44) (Operand.const (Value.string { data := #[41] })) 9, type := 9, pos := "print.go:52", after := #[{ on := 5, ground := Ground.data }], guard := none }) (v := ?_) rfl (by kernel_rfl) (by kernel_rfl) (by kernel_rfl) (fun _ _ _ h => h) (Or.inl ⟨by rfl, ?_⟩) (by assumption) ?_
  rotate_left
  · (intro W hSw; (try dsimp only at hSw); have q0 := CC.out W hSw; first | (go_simp; done) | (go_simp; with_reducible rfl) | (go_simp; first | rw [if_neg k1] | rw [if_neg k2] | rw [if_neg k3]))
  try simp only [Act.put, List.setIfInBounds_toArray, List.set_cons_zero, List.set_cons_succ]
  refine wpAnyH_take (i := 7) (oi := { dst := some 4, op := Op.assign (Operand.tmp 45), type := 9, pos := "print.go:52", after := #[{ on := 6, ground := Ground.data }, { on := 4, ground := Ground.chain }, { on := 0, ground := Ground.phase }, { on := 1, ground := Ground.phase }, { on := 2, ground := Ground.phase }, { on := 3, ground := Ground.phase }, { on := 4, ground := Ground.phase }, { on := 5, ground := Ground.phase }, { on := 6, ground := Ground.phase }], guard := none }) (v := ?_) rfl (by kernel_rfl) (by kernel_rfl) (by kernel_rfl) (fun _ _ _ h => h) (Or.inl ⟨by rfl, ?_⟩) (by assumption) ?_
  rotate_left
  · (intro W hSw; (try dsimp only at hSw); have q0 := CC.out W hSw; first | (go_simp; done) | (go_simp; with_reducible rfl) | (go_simp; first | rw [if_neg k1] | rw [if_neg k2] | rw [if_neg k3]))
  try simp only [Act.put, List.setIfInBounds_toArray, List.set_cons_zero, List.set_cons_succ]
  refine wpAnyH_done (by kernel_rfl) ?_ _
  go_wp2
  go_ret
  exact ⟨rfl, ((Below.refl _ w).alloc (Nat.le_refl _) _).trans (hHeld.mono (by simp))⟩
end Go.Proofs.YtclhmmgdhagloaaGreatDoor

namespace Go.Proofs.YtclhmmgdhagloaaGreatDoor
open Go.RowKit Go.Shelf
attribute [local go_sem] cell?_more frozen?_more setCell_more more_lt more_more more_drew more_drewN setCell_drewN alloc_drewN

set_option maxHeartbeats 4000000 in
theorem join_nil (c : Nat) (sep : ByteArray) (w : World) : Calls Tryz.prog 65 #[.slice none 0 c, .string sep] w fun e w' => e = .returned (.string ⟨#[]⟩) ∧ Below w.heap.size w w' := by
  go_enter Tryz.func65, Tryz.ntmps65
  go_wp2
  go_ret
  exact ⟨rfl, Below.refl _ _⟩

/-- Texts lie behind a slice's address, which may be none where there are none. -/
def Sws (w : World) (ao : Option Addr) (c : Nat) (of : List (List UInt8)) : Prop :=
  (ao = none ∧ of = []) ∨ ∃ g off, ao = some ⟨g, off, none⟩ ∧ g < w.heap.size ∧ of.length ≤ c ∧ Sw w g off of

theorem textOf_any (pv : Va → List UInt8) (x : Nd) (ao : Option Addr) (c : Nat) (of : List (List UInt8)) (w : World) (hm : mayN x = true) (hl : (of.length : Int) = opsN x) (hs : Sws w ao c of) (hS : Sg w)
    (hb : ∀ t ∈ of, t.length ≤ 10000000000000) (ht : x.t.length ≤ 10000000000000) (hn : x.n.length ≤ 10000000000000)
    (P : x.o = 1 → ∀ W, Below w.heap.size w W → Calls Tryz.prog 62 #[vv x.v] W fun e w' => e = .returned (.string ⟨(pv x.v).toArray⟩) ∧ Below W.heap.size W w') :
    Calls Tryz.prog 39 #[ndv x, .slice ao of.length c] w fun e w' => e = .returned (.string ⟨(txtN pv x of).toArray⟩) ∧ Below w.heap.size w w' := by
  by_cases h1 : x.o = 1
  · exact textOf_val pv x ao _ c of w h1 (P h1)
  by_cases h2 : x.o = 2
  · exact textOf_col pv x ao _ c of w h2 ht hn
  have hf : fitN x = true := by unfold mayN at hm; rw [Bool.and_eq_true] at hm; exact hm.2
  unfold fitN at hf
  rw [if_neg h1, if_neg h2] at hf
  unfold opsN at hl
  by_cases h3 : x.o = 19
  · rw [if_pos h3] at hf hl
    simp only [Bool.and_eq_true, decide_eq_true_eq] at hf
    have hJ : (Lib.join of [44, 32]).length ≤ 100000000000000 := by
      have h4 : of.length ≤ 4 := by omega
      match of, h4, hb with
      | [], _, _ => simp [Lib.join, List.intercalate, List.intersperse]
      | [a], _, hb => have := hb a (by simp); simp [Lib.join, List.intercalate, List.intersperse]; omega
      | [a, b], _, hb => have := hb a (by simp); have := hb b (by simp); simp [Lib.join, List.intercalate, List.intersperse]; omega
      | [a, b, d], _, hb => have := hb a (by simp); have := hb b (by simp); have := hb d (by simp); simp [Lib.join, List.intercalate, List.intersperse]; omega
      | [a, b, d, e], _, hb => have := hb a (by simp); have := hb b (by simp); have := hb d (by simp); have := hb e (by simp); simp [Lib.join, List.intercalate, List.intersperse]; omega
    refine textOf_call pv x ao _ c of w h3 hn hJ ?_
    rcases hs with ⟨rfl, rfl⟩ | ⟨g, off, rfl, hg, hc, hs⟩
    · exact fun W _ => join_nil c _ W
    · exact join_at g off c of w hs hg (by omega) hc hJ
  rw [if_neg h3] at hf hl
  simp only [Bool.and_eq_true, decide_eq_true_eq] at hf
  by_cases h6 : 6 ≤ x.o
  · rw [if_pos h6] at hl
    obtain ⟨a, b, rfl⟩ : ∃ a b, of = [a, b] := by
      match of, hl with
      | [a, b], _ => exact ⟨a, b, rfl⟩
      | [], hl => simp at hl
      | [_], hl => simp at hl
      | _ :: _ :: _ :: _, hl => simp at hl; omega
    rcases hs with ⟨_, h⟩ | ⟨g, off, rfl, hg, hc, hs⟩
    · cases h
    · exact textOf_two pv x x.o.toNat g off c a b w (by omega) (by omega) (by omega) hs (hb a (by simp)) (hb b (by simp)) hS
  · rw [if_neg h6, if_pos hf.1] at hl
    obtain ⟨a, rfl⟩ : ∃ a, of = [a] := by
      match of, hl with
      | [a], _ => exact ⟨a, rfl⟩
      | [], hl => simp at hl
      | _ :: _ :: _, hl => simp at hl; omega
    rcases hs with ⟨_, h⟩ | ⟨g, off, rfl, hg, hc, hs⟩
    · cases h
    · exact textOf_one pv x g off c a w (by omega) hs (hb a (by simp))
end Go.Proofs.YtclhmmgdhagloaaGreatDoor

namespace Go.Proofs.YtclhmmgdhagloaaGreatDoor
open Go.RowKit Go.Shelf
attribute [local go_sem] cell?_more frozen?_more setCell_more more_lt more_more more_drew more_drewN setCell_drewN alloc_drewN

/-- One step of the stack of texts. -/
def stepT (pv : Va → List UInt8) (st : List (List UInt8)) (x : Nd) : List (List UInt8) := st.take (st.length - (opsN x).toNat) ++ [txtN pv x (st.drop (st.length - (opsN x).toNat))]
def runT (pv : Va → List UInt8) : List Nd → List (List UInt8) → List (List UInt8)
  | [], st => st
  | x :: l, st => runT pv l (stepT pv st x)
/-- What Print answers. -/
def prtN (pv : Va → List UInt8) (l : List Nd) : List UInt8 := if 0 < depN mayN l then (runT pv l []).headD [] else []

def sv (ts : List (List UInt8)) : List Value := ts.map fun t => .string ⟨t.toArray⟩
theorem sv_len (ts : List (List UInt8)) : (sv ts).length = ts.length := by simp [sv]
/-- A stack of texts of one's own. -/
abbrev Ts (w : World) (base : Nat) (v : Value) (ts : List (List UInt8)) : Prop := w.ownsRow base 9 1 v ts.length (sv ts)
theorem Ts.shape {w : World} {base : Nat} {v : Value} {ts : List (List UInt8)} (h : Ts w base v ts) :
    ∃ ao cap, v = .slice ao ts.length cap ∧ ts.length ≤ cap ∧ (ao = none → ts = [] ∧ cap = 0) ∧ (∀ f, f ≤ ts.length → Ts w base (.slice ao f cap) (ts.take f)) ∧ (∀ a, ao = some a → ∃ g, a = ⟨g, 0, none⟩ ∧ base ≤ g ∧ g < w.heap.size ∧ ∀ i (h : i < ts.length), w.cell? ⟨g, i, none⟩ = some (.string ⟨ts[i].toArray⟩)) := by
  obtain ⟨h1, h2⟩ := h
  rcases h2 with ⟨rfl, hn⟩ | ⟨g, cap, cur, rfl, hb, hg, hnc, hcm, hcs, htake⟩
  · have : ts = [] := List.length_eq_zero_iff.1 hn
    subst this
    exact ⟨none, 0, rfl, Nat.le_refl _, fun _ => ⟨rfl, rfl⟩, fun f hf => by simp at hf; subst hf; exact World.ownsRow_nil _ _ _ _, fun a ha => by cases ha⟩
  · refine ⟨some ⟨g, 0, none⟩, cap, rfl, hnc, (fun h => by cases h), fun f hf => ?_, fun a ha => ?_⟩
    · have e : (ts.take f).length = f := by rw [List.length_take]; omega
      show w.ownsRow base _ 1 _ (ts.take f).length _
      rw [e]
      refine ⟨by rw [sv_len, e, Nat.mul_one], .inr ⟨g, cap, cur, rfl, hb, hg, by omega, hcm, hcs, ?_⟩⟩
      rw [Nat.mul_one] at htake ⊢
      have : cur.toList.take f = (cur.toList.take ts.length).take f := by rw [List.take_take, Nat.min_eq_left hf]
      rw [this, htake]
      simp [sv, List.map_take]
    · cases ha
      have hlt : g < w.heap.size := by
        rcases Nat.lt_or_ge g w.heap.size with h | h
        · exact h
        · rw [Array.getElem?_eq_none h] at hg; cases hg
      refine ⟨g, rfl, hb, hlt, fun i hi => ?_⟩
      have hc := cell_of_row w g i cur _ (0, 0) hg
      rw [hc]
      have h3 : cur[i]? = (cur.toList.take (ts.length * 1))[i]? := by
        rw [List.getElem?_take, if_pos (by omega)]; simp
      rw [h3, htake]
      simp [sv, hi]
theorem Ts.push' {w : World} {base n : Nat} {d : List UInt8} {v : Value} {ts : List (List UInt8)} (hl : ts.length = n) (h : w.ownsRow base 9 1 v (n + 1) (sv ts ++ [.string ⟨d.toArray⟩])) : Ts w base v (ts ++ [d]) := by
  subst hl
  show w.ownsRow _ _ _ _ (ts ++ [d]).length (sv (ts ++ [d]))
  have e1 : (ts ++ [d]).length = ts.length + 1 := by simp
  have e2 : sv (ts ++ [d]) = sv ts ++ [.string ⟨d.toArray⟩] := by simp [sv]
  rw [e1, e2]
  exact h
theorem Ts.later {w w' : World} {base : Nat} {v : Value} {ts : List (List UInt8)} (h : Ts w base v ts) (hb : Below w.heap.size w w') : Ts w' base v ts :=
  World.ownsRow.kept (row := none) h ⟨hb.os, hb.tape, hb.output, hb.size, fun k hk _ => hb.block k hk⟩ (by
    cases hv : v.ownBlock with
    | none => exact .inl rfl
    | some k => exact .inr (by simp))
theorem infoStr : (Tryz.prog.info? 9).map (fun i => (i.zero, i.size, i.bytes)) = some (some (.string ⟨#[]⟩), 1, 16) := by kernel_rfl

theorem one_str (t : List UInt8) : ∀ u ∈ [Value.string ⟨t.toArray⟩], u.oneCell' = true := by
  intro u hu
  simp at hu
  subst hu
  rfl

def sumT (ts : List (List UInt8)) : Nat := (ts.map List.length).sum
theorem sumT_app (a b : List (List UInt8)) : sumT (a ++ b) = sumT a + sumT b := by simp [sumT]
theorem sumT_mem {t : List UInt8} {ts : List (List UInt8)} (h : t ∈ ts) : t.length ≤ sumT ts := by
  induction ts with
  | nil => cases h
  | cons a ts ih =>
    have e : sumT (a :: ts) = a.length + sumT ts := rfl
    rcases List.mem_cons.1 h with rfl | h
    · omega
    · have := ih h; omega
theorem join_len (ts : List (List UInt8)) (s : List UInt8) : (Lib.join ts s).length ≤ sumT ts + ts.length * s.length := by
  unfold Lib.join
  induction ts with
  | nil => simp [List.intercalate]
  | cons a ts ih =>
    have e : sumT (a :: ts) = a.length + sumT ts := rfl
    cases ts with
    | nil => simp [List.intercalate, e] <;> omega
    | cons b ts =>
      have : (List.intercalate s (a :: b :: ts)) = a ++ s ++ List.intercalate s (b :: ts) := by simp [List.intercalate, List.intersperse]
      rw [this]
      simp only [List.length_append, List.length_cons] at ih ⊢
      rw [e, Nat.succ_mul]
      omega
theorem txtN_len (pv : Va → List UInt8) (x : Nd) (of : List (List UInt8)) (B : Nat) (hm : mayN x = true) (hl : (of.length : Int) = opsN x) (ht : x.t.length ≤ B) (hn : x.n.length ≤ B) (hp : (pv x.v).length ≤ B) : (txtN pv x of).length ≤ sumT of + (2 * B + 20) := by
  have h4 := (mayN_ops x hm).2
  have g0 : (of.getD 0 []).length ≤ sumT of := by
    cases of with
    | nil => simp
    | cons a r => exact sumT_mem (by simp)
  have g01 : (of.getD 0 []).length + (of.getD 1 []).length ≤ sumT of := by
    match of with
    | [] => simp
    | [a] => simp [sumT]
    | a :: b :: r => simp [sumT] <;> omega
  unfold txtN
  split
  · omega
  split
  · unfold colT; split <;> (simp; try omega)
  split
  · have := join_len [[45], of.getD 0 []] [32]
    simp only [parT, List.length_append, List.length_cons, List.length_nil, sumT, List.map_cons, List.map_nil, List.sum_cons, List.sum_nil] at this g0 ⊢
    omega
  split
  · have := join_len [wNot, of.getD 0 []] [32]
    have e : wNot.length = 3 := rfl
    simp only [parT, List.length_append, List.length_cons, List.length_nil, sumT, List.map_cons, List.map_nil, List.sum_cons, List.sum_nil] at this g0 ⊢
    omega
  split
  · have := join_len [of.getD 0 [], wIs, wNull] [32]
    have e : wIs.length = 2 := rfl
    have e : wNull.length = 4 := rfl
    simp only [parT, List.length_append, List.length_cons, List.length_nil, sumT, List.map_cons, List.map_nil, List.sum_cons, List.sum_nil] at this g0 ⊢
    omega
  split
  · have := join_len of [44, 32]
    simp only [List.length_append, List.length_cons, List.length_nil] at this ⊢
    omega
  · have := join_len [of.getD 0 [], sgn x.o.toNat, of.getD 1 []] [32]
    have e : (sgn x.o.toNat).length ≤ 3 := by
      by_cases h : x.o.toNat < 19
      · have : ∀ j, j < 19 → (sgn j).length ≤ 3 := by decide
        exact this _ h
      · have hf : fitN x = true := by unfold mayN at hm; rw [Bool.and_eq_true] at hm; exact hm.2
        unfold fitN at hf
        rw [if_neg (by omega), if_neg (by omega), if_neg (by omega)] at hf
        simp only [Bool.and_eq_true, decide_eq_true_eq] at hf
        omega
    simp only [parT, List.length_append, List.length_cons, List.length_nil, sumT, List.map_cons, List.map_nil, List.sum_cons, List.sum_nil] at this g01 ⊢
    omega

/-- Where an expression is right, each node finds what it is done with. -/
theorem runD_some {x : Nd} {l : List Nd} {st r : List Nat} (h : runD mayN (x :: l) st = some r) : mayN x = true ∧ opsN x ≤ (st.length : Int) ∧ ∃ st', st'.length = st.length - (opsN x).toNat + 1 ∧ runD mayN l st' = some r := by
  unfold runD at h
  cases hs : stepD mayN st x with
  | none => rw [hs] at h; cases h
  | some st' =>
    rw [hs] at h
    unfold stepD at hs
    split at hs
    case isFalse => cases hs
    case isTrue hc =>
      refine ⟨hc.1, hc.2, st', ?_, h⟩
      cases hs
      rw [List.length_append, List.length_take]
      simp
theorem depN_some {l : List Nd} (h : 0 < depN mayN l) : l.length ≤ 256 ∧ ∃ d, runD mayN l [] = some [d] := by
  unfold depN at h
  split at h
  case isFalse => omega
  case isTrue hl =>
    refine ⟨hl, ?_⟩
    unfold depO at h
    split at h
    · exact ⟨_, by assumption⟩
    · omega
end Go.Proofs.YtclhmmgdhagloaaGreatDoor
