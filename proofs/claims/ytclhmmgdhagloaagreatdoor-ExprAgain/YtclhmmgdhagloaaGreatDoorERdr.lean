/-
  The reader of expressions: its cells, what changes in memory, and the smallest of its methods.
-/
import Derived.Test.YtclhmmgdhagloaaGreatDoorEFit
import Derived.Deep.RegionHeld2
namespace Go.Proofs.YtclhmmgdhagloaaGreatDoor
open Go.RowKit Go.Shelf
attribute [local go_sem] cell?_more frozen?_more setCell_more more_lt more_more more_drew more_drewN setCell_drewN alloc_drewN

/-- No token. -/
abbrev tz : Ti := ⟨0, [], vz, 0⟩
/-- The token behind those that are passed. -/
def nxt (ts : List Ti) (k : Nat) : Ti := match ts[k]? with | some x => if rtok x then x else tz | none => tz
/-- A reader's cells. -/
abbrev rcs (ao : Option Addr) (n cap : Nat) (k : Int) (x : Ti) (nv : Value) (o : Int) : Array Value := #[.slice ao n cap, .int .i64 k, .int .i64 x.k, .string ⟨x.t.toArray⟩, .int .i64 x.v.k, .int .i64 x.v.n, .int .i64 x.v.m, .string ⟨x.v.b.toArray⟩, .int .i64 x.a, nv, .int .i64 o]

/-- All that was there is as it was, but for two blocks. -/
structure Fr (w w' : World) (p : Nat) (row : Option Nat) : Prop where
  os : w'.os = w.os
  tape : w'.tape = w.tape
  output : w'.output = w.output
  size : w.heap.size ≤ w'.heap.size
  block : ∀ k, k < w.heap.size → k ≠ p → row ≠ some k → w'.heap[k]? = w.heap[k]?
theorem Fr.refl (w : World) (p : Nat) (row : Option Nat) : Fr w w p row := ⟨rfl, rfl, rfl, Nat.le_refl _, fun _ _ _ _ => rfl⟩
theorem Fr.of_below {w w' : World} (h : Below w.heap.size w w') (p : Nat) (row : Option Nat) : Fr w w' p row := ⟨h.os, h.tape, h.output, h.size, fun k hk _ _ => h.block k hk⟩
/-- Steps one behind the other: the row's block stays, or is a new one. -/
theorem Fr.trans {w w1 w2 : World} {p : Nat} {r r1 : Option Nat} (h : Fr w w1 p r) (h1 : Fr w1 w2 p r1) (hr : ∀ k, r1 = some k → r = some k ∨ w.heap.size ≤ k) : Fr w w2 p r := by
  refine ⟨h1.os.trans h.os, h1.tape.trans h.tape, h1.output.trans h.output, Nat.le_trans h.size h1.size, fun k hk hp hn => ?_⟩
  rw [h1.block k (Nat.lt_of_lt_of_le hk h.size) hp (fun e => ?_)]
  · exact h.block k hk hp hn
  · rcases hr k e with h' | h'
    · exact hn h'
    · omega
theorem Fr.below {w w' : World} {p : Nat} {r : Option Nat} {B : Nat} {w0 : World} (h : Fr w w' p r) (hb : Below B w0 w) (hw : B ≤ w.heap.size) (hp : B ≤ p) (hr : ∀ k, r = some k → B ≤ k) : Below B w0 w' := by
  refine ⟨h.os.trans hb.os, h.tape.trans hb.tape, h.output.trans hb.output, Nat.le_trans hb.size h.size, fun k hk => ?_⟩
  rw [h.block k (by omega) (by omega) (fun e => by have := hr k e; omega)]
  exact hb.block k hk
theorem Fr.set (w : World) (p j : Nat) (v : Value) (row : Option Nat) : Fr w (w.setCell ⟨p, j, none⟩ v) p row :=
  ⟨rfl, rfl, rfl, by simp, fun k _ hp _ => heap_setCell_other w ⟨p, j, none⟩ k v hp⟩
theorem Cbox.set {w : World} {p : Nat} {cs : Array Value} {ty : TypeId} (h : Cbox w p cs ty) (j : Nat) (v : Value) : Cbox (w.setCell ⟨p, j, none⟩ v) p (cs.setIfInBounds j v) ty := heap_setCell_same w p j cs ty v h
/-- The next token is stored. -/
def st7 (w : World) (p : Nat) (x : Ti) : World :=
  ((((((w.setCell ⟨p, 2, none⟩ (.int .i64 x.k)).setCell ⟨p, 3, none⟩ (.string ⟨x.t.toArray⟩)).setCell ⟨p, 4, none⟩ (.int .i64 x.v.k)).setCell ⟨p, 5, none⟩ (.int .i64 x.v.n)).setCell ⟨p, 6, none⟩ (.int .i64 x.v.m)).setCell ⟨p, 7, none⟩ (.string ⟨x.v.b.toArray⟩)).setCell ⟨p, 8, none⟩ (.int .i64 x.a)
abbrev Rb (w : World) (p : Nat) (ao : Option Addr) (n cap : Nat) (k : Int) (x : Ti) (nv : Value) (o : Int) : Prop := Cbox w p (rcs ao n cap k x nv o) 114
theorem rb_st7 {w : World} {p : Nat} {ao : Option Addr} {n cap : Nat} {k : Int} {y : Ti} {nv : Value} {o : Int} (h : Rb w p ao n cap k y nv o) (x : Ti) : Rb (st7 w p x) p ao n cap k x nv o := by
  have := ((((((h.set 2 (.int .i64 x.k)).set 3 (.string ⟨x.t.toArray⟩)).set 4 (.int .i64 x.v.k)).set 5 (.int .i64 x.v.n)).set 6 (.int .i64 x.v.m)).set 7 (.string ⟨x.v.b.toArray⟩)).set 8 (.int .i64 x.a)
  simp only [List.setIfInBounds_toArray, List.set_cons_zero, List.set_cons_succ] at this
  exact this
theorem st7_fr (w : World) (p : Nat) (x : Ti) (row : Option Nat) : Fr w (st7 w p x) p row :=
  ((((((Fr.set w p 2 _ row).trans (Fr.set _ p 3 _ row) fun _ h => .inl h).trans (Fr.set _ p 4 _ row) fun _ h => .inl h).trans (Fr.set _ p 5 _ row) fun _ h => .inl h).trans (Fr.set _ p 6 _ row) fun _ h => .inl h).trans (Fr.set _ p 7 _ row) fun _ h => .inl h).trans (Fr.set _ p 8 _ row) fun _ h => .inl h

/-- The signs of the ops of two. -/
def sgn (i : Nat) : List UInt8 := match i with
  | 6 => [42] | 7 => [47] | 8 => [37] | 9 => [43] | 10 => [45] | 11 => [61] | 12 => [60, 62] | 13 => [60] | 14 => [60, 61] | 15 => [62] | 16 => [62, 61] | 17 => [97, 110, 100] | 18 => [111, 114] | _ => []
/-- The program's table of signs. -/
def Sg (w : World) : Prop := ∀ i, i < 19 → w.cell? ⟨0, i, none⟩ = some (.string ⟨(sgn i).toArray⟩)
theorem Sg.later {w w' : World} (h : Sg w) (hb : Below w.heap.size w w') : Sg w' := fun i hi => (hb.cell (p := ⟨0, i, none⟩) (World.block_lt_of_cell? w _ (h i hi))).trans (h i hi)

/-- What stays through all of a reading: the tokens and the tables lie below. -/
structure Env (w0 : World) (ao : Option Addr) (ts : List Ti) : Prop where
  tw : Tw w0 ao ts
  tabs : Tabs w0
  ptab : Ptab w0
  few : ts.length ≤ 4096
  sg : Sg w0

set_option maxRecDepth 20000 in
set_option maxHeartbeats 4000000 in
theorem look_any (w0 : World) (p : Nat) (ao : Option Addr) (ts : List Ti) (cap k : Nat) (o : Int) (y : Ti) (nv : Value) (w : World) (E : Env w0 ao ts) (hB : Below w0.heap.size w0 w) (hp : w0.heap.size ≤ p) (h : Rb w p ao ts.length cap (k : Int) y nv o) :
    Calls Tryz.prog 73 #[.pointer (some ⟨p, 0, none⟩)] w fun e w' => e = .returned (.tuple #[]) ∧ Rb w' p ao ts.length cap (k : Int) (nxt ts k) nv o ∧ Fr w w' p none := by
  have hl := h.lt
  have c0 := h.at 0
  have c1 := h.at 1
  have c2 := h.at 2
  have c3 := h.at 3
  have c4 := h.at 4
  have c5 := h.at 5
  have c6 := h.at 6
  have c7 := h.at 7
  have c8 := h.at 8
  have f2 := h.free 2
  have f3 := h.free 3
  have f4 := h.free 4
  have f5 := h.free 5
  have f6 := h.free 6
  have f7 := h.free 7
  have f8 := h.free 8
  have h1 := rb_st7 h tz
  have g1 := st7_fr w p tz none
  have B1 : Below w0.heap.size w0 (st7 w p tz) := g1.below hB hB.size hp (fun k e => by cases e)
  have hfew := E.few
  obtain ⟨X, hX⟩ : ∃ X, X = nxt ts k := ⟨_, rfl⟩
  rw [← hX]
  have HX : Hid (X = nxt ts k) := hX
  clear hX
  have R : Hid (∀ (x : Ti) W, Below w0.heap.size w0 W → Calls Tryz.prog 135 #[tiv x] W fun e w' => e = .returned (.bool (rtok x)) ∧ Below W.heap.size W w') := fun x W h => right_any5 x W (E.tabs.later h) (E.ptab.later h)
  have TW : Hid (Tw w0 ao ts) := E.tw
  obtain ⟨n, hn⟩ : ∃ n, ts.length = n := ⟨_, rfl⟩
  have HN : Hid (ts.length = n) := hn
  rw [hn] at h h1 hfew c0 ⊢
  clear hn E
  go_enter Tryz.func73, Tryz.ntmps73
  go_wp2_with fail
  clear c0 c1 c2 c3 c4 c5 c6 c7 c8 f2 f3 f4 f5 f6 f7 f8
  change Code.wp _ _ _ _ (st7 w p tz)
  generalize st7 w p tz = w1 at *
  by_cases hk : k < n
  case neg =>
    have hk' : ¬ (k : Int) < (n : Int) := by omega
    have HF : Hid (X = tz) := by
      show X = tz
      rw [HX.out]; unfold nxt
      rw [List.getElem?_eq_none (by rw [HN.out]; omega)]
    refine wp_region_held_drew (S := (fun W => Below w1.heap.size w1 W)) (by kernel_rfl) ?_ (fun hHeld => ?_)
    · ((try dsimp only); exact (Below.refl _ _).drew)
    refine wpAnyH_take (i := 0) (oi := { dst := some 6, op := Op.move (Operand.tmp 0), type := 167, pos := "read.go:57", after := #[], guard := none }) (v := ?_) rfl (by kernel_rfl) (by kernel_rfl) (by kernel_rfl) (fun _ _ _ h => h) (Or.inl ⟨by rfl, ?_⟩) (by assumption) ?_
    rotate_left
    · (intro W hSw; (try dsimp only at hSw); have C := Cbox.later h1 hSw; have e0 := C.at 0; have e1 := C.at 1; clear C; first | (go_simp; done) | (go_simp; with_reducible rfl))
    try simp only [Act.put, List.setIfInBounds_toArray, List.set_cons_zero, List.set_cons_succ]
    refine wpAnyH_take (i := 1) (oi := { dst := some 7, op := Op.nilCheck (Operand.tmp 6), type := 0, pos := "read.go:57", after := #[{ on := 0, ground := Ground.data }], guard := none }) (v := ?_) rfl (by kernel_rfl) (by kernel_rfl) (by kernel_rfl) (fun _ _ _ h => h) (Or.inl ⟨by rfl, ?_⟩) (by assumption) ?_
    rotate_left
    · (intro W hSw; (try dsimp only at hSw); have C := Cbox.later h1 hSw; have e0 := C.at 0; have e1 := C.at 1; clear C; first | (go_simp; done) | (go_simp; with_reducible rfl))
    try simp only [Act.put, List.setIfInBounds_toArray, List.set_cons_zero, List.set_cons_succ]
    refine wpAnyH_take (i := 2) (oi := { dst := some 8, op := Op.fieldAddr 112 (Operand.tmp 7) 1, type := 0, pos := "read.go:57", after := #[{ on := 1, ground := Ground.data }], guard := none }) (v := ?_) rfl (by kernel_rfl) (by kernel_rfl) (by kernel_rfl) (fun _ _ _ h => h) (Or.inl ⟨by rfl, ?_⟩) (by assumption) ?_
    rotate_left
    · (intro W hSw; (try dsimp only at hSw); have C := Cbox.later h1 hSw; have e0 := C.at 0; have e1 := C.at 1; clear C; first | (go_simp; done) | (go_simp; with_reducible rfl))
    try simp only [Act.put, List.setIfInBounds_toArray, List.set_cons_zero, List.set_cons_succ]
    refine wpAnyH_take (i := 3) (oi := { dst := some 9, op := Op.load 3 (Operand.tmp 8), type := 3, pos := "read.go:57", after := #[{ on := 2, ground := Ground.data }], guard := none }) (v := ?_) rfl (by kernel_rfl) (by kernel_rfl) (by kernel_rfl) (fun _ _ _ h => h) (Or.inl ⟨by rfl, ?_⟩) (by assumption) ?_
    rotate_left
    · (intro W hSw; (try dsimp only at hSw); have C := Cbox.later h1 hSw; have e0 := C.at 0; have e1 := C.at 1; clear C; first | (go_simp; done) | (go_simp; with_reducible rfl))
    try simp only [Act.put, List.setIfInBounds_toArray, List.set_cons_zero, List.set_cons_succ]
    refine wpAnyH_take (i := 4) (oi := { dst := some 10, op := Op.move (Operand.tmp 0), type := 167, pos := "read.go:57", after := #[], guard := none }) (v := ?_) rfl (by kernel_rfl) (by kernel_rfl) (by kernel_rfl) (fun _ _ _ h => h) (Or.inl ⟨by rfl, ?_⟩) (by assumption) ?_
    rotate_left
    · (intro W hSw; (try dsimp only at hSw); have C := Cbox.later h1 hSw; have e0 := C.at 0; have e1 := C.at 1; clear C; first | (go_simp; done) | (go_simp; with_reducible rfl))
    try simp only [Act.put, List.setIfInBounds_toArray, List.set_cons_zero, List.set_cons_succ]
    refine wpAnyH_take (i := 5) (oi := { dst := some 11, op := Op.nilCheck (Operand.tmp 10), type := 0, pos := "read.go:57", after := #[{ on := 4, ground := Ground.data }], guard := none }) (v := ?_) rfl (by kernel_rfl) (by kernel_rfl) (by kernel_rfl) (fun _ _ _ h => h) (Or.inl ⟨by rfl, ?_⟩) (by assumption) ?_
    rotate_left
    · (intro W hSw; (try dsimp only at hSw); have C := Cbox.later h1 hSw; have e0 := C.at 0; have e1 := C.at 1; clear C; first | (go_simp; done) | (go_simp; with_reducible rfl))
    try simp only [Act.put, List.setIfInBounds_toArray, List.set_cons_zero, List.set_cons_succ]
    refine wpAnyH_take (i := 6) (oi := { dst := some 12, op := Op.fieldAddr 112 (Operand.tmp 11) 0, type := 0, pos := "read.go:57", after := #[{ on := 5, ground := Ground.data }], guard := none }) (v := ?_) rfl (by kernel_rfl) (by kernel_rfl) (by kernel_rfl) (fun _ _ _ h => h) (Or.inl ⟨by rfl, ?_⟩) (by assumption) ?_
    rotate_left
    · (intro W hSw; (try dsimp only at hSw); have C := Cbox.later h1 hSw; have e0 := C.at 0; have e1 := C.at 1; clear C; first | (go_simp; done) | (go_simp; with_reducible rfl))
    try simp only [Act.put, List.setIfInBounds_toArray, List.set_cons_zero, List.set_cons_succ]
    refine wpAnyH_take (i := 7) (oi := { dst := some 13, op := Op.load 76 (Operand.tmp 12), type := 76, pos := "read.go:57", after := #[{ on := 6, ground := Ground.data }], guard := none }) (v := ?_) rfl (by kernel_rfl) (by kernel_rfl) (by kernel_rfl) (fun _ _ _ h => h) (Or.inl ⟨by rfl, ?_⟩) (by assumption) ?_
    rotate_left
    · (intro W hSw; (try dsimp only at hSw); have C := Cbox.later h1 hSw; have e0 := C.at 0; have e1 := C.at 1; clear C; first | (go_simp; done) | (go_simp; with_reducible rfl))
    try simp only [Act.put, List.setIfInBounds_toArray, List.set_cons_zero, List.set_cons_succ]
    refine wpAnyH_take (i := 8) (oi := { dst := some 14, op := Op.call { callee := Callee.builtin Builtin.len, args := #[Operand.tmp 13], argTypes := #[76] }, type := 3, pos := "read.go:57", after := #[{ on := 7, ground := Ground.data }], guard := none }) (v := ?_) rfl (by kernel_rfl) (by kernel_rfl) (by kernel_rfl) (fun _ _ _ h => h) (Or.inl ⟨by rfl, ?_⟩) (by assumption) ?_
    rotate_left
    · (intro W hSw; (try dsimp only at hSw); have C := Cbox.later h1 hSw; have e0 := C.at 0; have e1 := C.at 1; clear C; first | (go_simp; done) | (go_simp; with_reducible rfl))
    try simp only [Act.put, List.setIfInBounds_toArray, List.set_cons_zero, List.set_cons_succ]
    refine wpAnyH_take (i := 9) (oi := { dst := some 15, op := Op.binOp BinOp.lss 3 (Operand.tmp 9) (Operand.tmp 14) 3, type := 4, pos := "read.go:57", after := #[{ on := 3, ground := Ground.data }, { on := 8, ground := Ground.data }], guard := none }) (v := ?_) rfl (by kernel_rfl) (by kernel_rfl) (by kernel_rfl) (fun _ _ _ h => h) (Or.inl ⟨by rfl, ?_⟩) (by assumption) ?_
    rotate_left
    · (intro W hSw; (try dsimp only at hSw); have C := Cbox.later h1 hSw; have e0 := C.at 0; have e1 := C.at 1; clear C; first | (go_simp; done) | (go_simp; with_reducible rfl))
    try simp only [Act.put, List.setIfInBounds_toArray, List.set_cons_zero, List.set_cons_succ]
    refine wpAnyH_take (i := 10) (oi := { dst := some 16, op := Op.move (Operand.tmp 15), type := 4, pos := "read.go:57", after := #[{ on := 9, ground := Ground.data }], guard := none }) (v := ?_) rfl (by kernel_rfl) (by kernel_rfl) (by kernel_rfl) (fun _ _ _ h => h) (Or.inl ⟨by rfl, ?_⟩) (by assumption) ?_
    rotate_left
    · (intro W hSw; (try dsimp only at hSw); have C := Cbox.later h1 hSw; have e0 := C.at 0; have e1 := C.at 1; clear C; first | (go_simp; done) | (go_simp; with_reducible rfl))
    try simp only [Act.put, List.setIfInBounds_toArray, List.set_cons_zero, List.set_cons_succ]
    refine wpAnyH_take (i := 11) (oi := { dst := some 17, op := Op.move (Operand.tmp 0), type := 167, pos := "read.go:57", after := #[{ on := 10, ground := Ground.guard }], guard := some (10, true) }) (v := undef) rfl (by kernel_rfl) (by kernel_rfl) (by kernel_rfl) (fun _ _ _ h => h) (Or.inr ⟨by rfl, rfl⟩) (by assumption) ?_
    try simp only [Act.put, List.setIfInBounds_toArray, List.set_cons_zero, List.set_cons_succ]
    refine wpAnyH_take (i := 12) (oi := { dst := some 18, op := Op.nilCheck (Operand.tmp 17), type := 0, pos := "read.go:57", after := #[{ on := 11, ground := Ground.data }, { on := 10, ground := Ground.guard }], guard := some (10, true) }) (v := undef) rfl (by kernel_rfl) (by kernel_rfl) (by kernel_rfl) (fun _ _ _ h => h) (Or.inr ⟨by rfl, rfl⟩) (by assumption) ?_
    try simp only [Act.put, List.setIfInBounds_toArray, List.set_cons_zero, List.set_cons_succ]
    refine wpAnyH_take (i := 13) (oi := { dst := some 19, op := Op.fieldAddr 112 (Operand.tmp 18) 0, type := 0, pos := "read.go:57", after := #[{ on := 12, ground := Ground.data }, { on := 10, ground := Ground.guard }], guard := some (10, true) }) (v := undef) rfl (by kernel_rfl) (by kernel_rfl) (by kernel_rfl) (fun _ _ _ h => h) (Or.inr ⟨by rfl, rfl⟩) (by assumption) ?_
    try simp only [Act.put, List.setIfInBounds_toArray, List.set_cons_zero, List.set_cons_succ]
    refine wpAnyH_take (i := 14) (oi := { dst := some 20, op := Op.load 76 (Operand.tmp 19), type := 76, pos := "read.go:57", after := #[{ on := 13, ground := Ground.data }, { on := 10, ground := Ground.guard }], guard := some (10, true) }) (v := undef) rfl (by kernel_rfl) (by kernel_rfl) (by kernel_rfl) (fun _ _ _ h => h) (Or.inr ⟨by rfl, rfl⟩) (by assumption) ?_
    try simp only [Act.put, List.setIfInBounds_toArray, List.set_cons_zero, List.set_cons_succ]
    refine wpAnyH_take (i := 15) (oi := { dst := some 21, op := Op.move (Operand.tmp 0), type := 167, pos := "read.go:57", after := #[{ on := 10, ground := Ground.guard }], guard := some (10, true) }) (v := undef) rfl (by kernel_rfl) (by kernel_rfl) (by kernel_rfl) (fun _ _ _ h => h) (Or.inr ⟨by rfl, rfl⟩) (by assumption) ?_
    try simp only [Act.put, List.setIfInBounds_toArray, List.set_cons_zero, List.set_cons_succ]
    refine wpAnyH_take (i := 16) (oi := { dst := some 22, op := Op.nilCheck (Operand.tmp 21), type := 0, pos := "read.go:57", after := #[{ on := 15, ground := Ground.data }, { on := 10, ground := Ground.guard }], guard := some (10, true) }) (v := undef) rfl (by kernel_rfl) (by kernel_rfl) (by kernel_rfl) (fun _ _ _ h => h) (Or.inr ⟨by rfl, rfl⟩) (by assumption) ?_
    try simp only [Act.put, List.setIfInBounds_toArray, List.set_cons_zero, List.set_cons_succ]
    refine wpAnyH_take (i := 17) (oi := { dst := some 23, op := Op.fieldAddr 112 (Operand.tmp 22) 1, type := 0, pos := "read.go:57", after := #[{ on := 16, ground := Ground.data }, { on := 10, ground := Ground.guard }], guard := some (10, true) }) (v := undef) rfl (by kernel_rfl) (by kernel_rfl) (by kernel_rfl) (fun _ _ _ h => h) (Or.inr ⟨by rfl, rfl⟩) (by assumption) ?_
    try simp only [Act.put, List.setIfInBounds_toArray, List.set_cons_zero, List.set_cons_succ]
    refine wpAnyH_take (i := 18) (oi := { dst := some 24, op := Op.load 3 (Operand.tmp 23), type := 3, pos := "read.go:57", after := #[{ on := 17, ground := Ground.data }, { on := 10, ground := Ground.guard }], guard := some (10, true) }) (v := undef) rfl (by kernel_rfl) (by kernel_rfl) (by kernel_rfl) (fun _ _ _ h => h) (Or.inr ⟨by rfl, rfl⟩) (by assumption) ?_
    try simp only [Act.put, List.setIfInBounds_toArray, List.set_cons_zero, List.set_cons_succ]
    refine wpAnyH_take (i := 19) (oi := { dst := some 25, op := Op.indexAddr 76 (Operand.tmp 20) (Operand.tmp 24), type := 0, pos := "read.go:57", after := #[{ on := 14, ground := Ground.data }, { on := 18, ground := Ground.data }, { on := 10, ground := Ground.guard }], guard := some (10, true) }) (v := undef) rfl (by kernel_rfl) (by kernel_rfl) (by kernel_rfl) (fun _ _ _ h => h) (Or.inr ⟨by rfl, rfl⟩) (by assumption) ?_
    try simp only [Act.put, List.setIfInBounds_toArray, List.set_cons_zero, List.set_cons_succ]
    refine wpAnyH_take (i := 20) (oi := { dst := some 26, op := Op.load 108 (Operand.tmp 25), type := 108, pos := "read.go:57", after := #[{ on := 19, ground := Ground.data }, { on := 10, ground := Ground.guard }], guard := some (10, true) }) (v := undef) rfl (by kernel_rfl) (by kernel_rfl) (by kernel_rfl) (fun _ _ _ h => h) (Or.inr ⟨by rfl, rfl⟩) (by assumption) ?_
    try simp only [Act.put, List.setIfInBounds_toArray, List.set_cons_zero, List.set_cons_succ]
    refine wpAnyH_take (i := 21) (oi := { dst := some 27, op := Op.call { callee := Callee.value (Operand.func 135), args := #[Operand.tmp 26], argTypes := #[108] }, type := 4, pos := "read.go:57", after := #[{ on := 20, ground := Ground.data }, { on := 10, ground := Ground.chain }, { on := 10, ground := Ground.guard }], guard := some (10, true) }) (v := undef) rfl (by kernel_rfl) (by kernel_rfl) (by kernel_rfl) (fun _ _ _ h => h) (Or.inr ⟨by rfl, rfl⟩) (by assumption) ?_
    try simp only [Act.put, List.setIfInBounds_toArray, List.set_cons_zero, List.set_cons_succ]
    refine wpAnyH_take (i := 22) (oi := { dst := some 28, op := Op.pick (Operand.tmp 16) (Operand.tmp 27) (Operand.const (Value.bool false)), type := 4, pos := "read.go:57", after := #[{ on := 10, ground := Ground.data }, { on := 21, ground := Ground.data }], guard := none }) (v := ?_) rfl (by kernel_rfl) (by kernel_rfl) (by kernel_rfl) (fun _ _ _ h => h) (Or.inl ⟨by rfl, ?_⟩) (by assumption) ?_
    rotate_left
    · (intro W hSw; (try dsimp only at hSw); have C := Cbox.later h1 hSw; have e0 := C.at 0; have e1 := C.at 1; clear C; first | (go_simp; done) | (go_simp; with_reducible rfl))
    try simp only [Act.put, List.setIfInBounds_toArray, List.set_cons_zero, List.set_cons_succ]
    refine wpAnyH_done (by kernel_rfl) ?_ _
    go_wp2
    go_end0
    refine ⟨rfl, ?_, ?_⟩
    · rw [HF.out]; exact Cbox.later h1 hHeld
    · exact g1.trans (Fr.of_below hHeld p none) fun _ h => .inl h
  · have hk' : (k : Int) < (n : Int) := by omega
    have hk0 : (0 : Int) ≤ (k : Int) := by omega
    have hkl : k < ts.length := by rw [HN.out]; exact hk
    obtain ⟨b, off, rfl, hc⟩ := TW.out (by omega)
    have TT : Hid (T7 w1 b (off + k * 7) ts[k]) := (hc k hkl).later B1
    have hgb := (hc k hkl).lt
    have hXe : X = if rtok ts[k] then ts[k] else tz := by
      rw [HX.out]; unfold nxt
      rw [List.getElem?_eq_getElem hkl]
    generalize ts[k] = x at TT hXe
    obtain ⟨xk, xt, xv, xa⟩ := x
    have Rx := fun W h => R.out ⟨xk, xt, xv, xa⟩ W h
    obtain ⟨r, hr⟩ : ∃ r, r = rtok ⟨xk, xt, xv, xa⟩ := ⟨_, rfl⟩
    rw [← hr] at Rx hXe
    have HXE : Hid (X = if r = true then ⟨xk, xt, xv, xa⟩ else tz) := hXe
    clear hr hXe hc R TW HX h
    refine wp_region_held_drew (S := (fun W => Below w1.heap.size w1 W)) (by kernel_rfl) ?_ (fun hHeld => ?_)
    · ((try dsimp only); exact (Below.refl _ _).drew)
    refine wpAnyH_take (i := 0) (oi := { dst := some 6, op := Op.move (Operand.tmp 0), type := 167, pos := "read.go:57", after := #[], guard := none }) (v := ?_) rfl (by kernel_rfl) (by kernel_rfl) (by kernel_rfl) (fun _ _ _ h => h) (Or.inl ⟨by rfl, ?_⟩) (by assumption) ?_
    rotate_left
    · (intro W hSw; (try dsimp only at hSw); have C := Cbox.later h1 hSw; have e0 := C.at 0; have e1 := C.at 1; clear C; obtain ⟨p0, p1, p2, p3, p4, p5, p6⟩ := T7.later TT.out hSw; first | (go_simp; done) | (go_simp; with_reducible rfl))
    try simp only [Act.put, List.setIfInBounds_toArray, List.set_cons_zero, List.set_cons_succ]
    refine wpAnyH_take (i := 1) (oi := { dst := some 7, op := Op.nilCheck (Operand.tmp 6), type := 0, pos := "read.go:57", after := #[{ on := 0, ground := Ground.data }], guard := none }) (v := ?_) rfl (by kernel_rfl) (by kernel_rfl) (by kernel_rfl) (fun _ _ _ h => h) (Or.inl ⟨by rfl, ?_⟩) (by assumption) ?_
    rotate_left
    · (intro W hSw; (try dsimp only at hSw); have C := Cbox.later h1 hSw; have e0 := C.at 0; have e1 := C.at 1; clear C; obtain ⟨p0, p1, p2, p3, p4, p5, p6⟩ := T7.later TT.out hSw; first | (go_simp; done) | (go_simp; with_reducible rfl))
    try simp only [Act.put, List.setIfInBounds_toArray, List.set_cons_zero, List.set_cons_succ]
    refine wpAnyH_take (i := 2) (oi := { dst := some 8, op := Op.fieldAddr 112 (Operand.tmp 7) 1, type := 0, pos := "read.go:57", after := #[{ on := 1, ground := Ground.data }], guard := none }) (v := ?_) rfl (by kernel_rfl) (by kernel_rfl) (by kernel_rfl) (fun _ _ _ h => h) (Or.inl ⟨by rfl, ?_⟩) (by assumption) ?_
    rotate_left
    · (intro W hSw; (try dsimp only at hSw); have C := Cbox.later h1 hSw; have e0 := C.at 0; have e1 := C.at 1; clear C; obtain ⟨p0, p1, p2, p3, p4, p5, p6⟩ := T7.later TT.out hSw; first | (go_simp; done) | (go_simp; with_reducible rfl))
    try simp only [Act.put, List.setIfInBounds_toArray, List.set_cons_zero, List.set_cons_succ]
    refine wpAnyH_take (i := 3) (oi := { dst := some 9, op := Op.load 3 (Operand.tmp 8), type := 3, pos := "read.go:57", after := #[{ on := 2, ground := Ground.data }], guard := none }) (v := ?_) rfl (by kernel_rfl) (by kernel_rfl) (by kernel_rfl) (fun _ _ _ h => h) (Or.inl ⟨by rfl, ?_⟩) (by assumption) ?_
    rotate_left
    · (intro W hSw; (try dsimp only at hSw); have C := Cbox.later h1 hSw; have e0 := C.at 0; have e1 := C.at 1; clear C; obtain ⟨p0, p1, p2, p3, p4, p5, p6⟩ := T7.later TT.out hSw; first | (go_simp; done) | (go_simp; with_reducible rfl))
    try simp only [Act.put, List.setIfInBounds_toArray, List.set_cons_zero, List.set_cons_succ]
    refine wpAnyH_take (i := 4) (oi := { dst := some 10, op := Op.move (Operand.tmp 0), type := 167, pos := "read.go:57", after := #[], guard := none }) (v := ?_) rfl (by kernel_rfl) (by kernel_rfl) (by kernel_rfl) (fun _ _ _ h => h) (Or.inl ⟨by rfl, ?_⟩) (by assumption) ?_
    rotate_left
    · (intro W hSw; (try dsimp only at hSw); have C := Cbox.later h1 hSw; have e0 := C.at 0; have e1 := C.at 1; clear C; obtain ⟨p0, p1, p2, p3, p4, p5, p6⟩ := T7.later TT.out hSw; first | (go_simp; done) | (go_simp; with_reducible rfl))
    try simp only [Act.put, List.setIfInBounds_toArray, List.set_cons_zero, List.set_cons_succ]
    refine wpAnyH_take (i := 5) (oi := { dst := some 11, op := Op.nilCheck (Operand.tmp 10), type := 0, pos := "read.go:57", after := #[{ on := 4, ground := Ground.data }], guard := none }) (v := ?_) rfl (by kernel_rfl) (by kernel_rfl) (by kernel_rfl) (fun _ _ _ h => h) (Or.inl ⟨by rfl, ?_⟩) (by assumption) ?_
    rotate_left
    · (intro W hSw; (try dsimp only at hSw); have C := Cbox.later h1 hSw; have e0 := C.at 0; have e1 := C.at 1; clear C; obtain ⟨p0, p1, p2, p3, p4, p5, p6⟩ := T7.later TT.out hSw; first | (go_simp; done) | (go_simp; with_reducible rfl))
    try simp only [Act.put, List.setIfInBounds_toArray, List.set_cons_zero, List.set_cons_succ]
    refine wpAnyH_take (i := 6) (oi := { dst := some 12, op := Op.fieldAddr 112 (Operand.tmp 11) 0, type := 0, pos := "read.go:57", after := #[{ on := 5, ground := Ground.data }], guard := none }) (v := ?_) rfl (by kernel_rfl) (by kernel_rfl) (by kernel_rfl) (fun _ _ _ h => h) (Or.inl ⟨by rfl, ?_⟩) (by assumption) ?_
    rotate_left
    · (intro W hSw; (try dsimp only at hSw); have C := Cbox.later h1 hSw; have e0 := C.at 0; have e1 := C.at 1; clear C; obtain ⟨p0, p1, p2, p3, p4, p5, p6⟩ := T7.later TT.out hSw; first | (go_simp; done) | (go_simp; with_reducible rfl))
    try simp only [Act.put, List.setIfInBounds_toArray, List.set_cons_zero, List.set_cons_succ]
    refine wpAnyH_take (i := 7) (oi := { dst := some 13, op := Op.load 76 (Operand.tmp 12), type := 76, pos := "read.go:57", after := #[{ on := 6, ground := Ground.data }], guard := none }) (v := ?_) rfl (by kernel_rfl) (by kernel_rfl) (by kernel_rfl) (fun _ _ _ h => h) (Or.inl ⟨by rfl, ?_⟩) (by assumption) ?_
    rotate_left
    · (intro W hSw; (try dsimp only at hSw); have C := Cbox.later h1 hSw; have e0 := C.at 0; have e1 := C.at 1; clear C; obtain ⟨p0, p1, p2, p3, p4, p5, p6⟩ := T7.later TT.out hSw; first | (go_simp; done) | (go_simp; with_reducible rfl))
    try simp only [Act.put, List.setIfInBounds_toArray, List.set_cons_zero, List.set_cons_succ]
    refine wpAnyH_take (i := 8) (oi := { dst := some 14, op := Op.call { callee := Callee.builtin Builtin.len, args := #[Operand.tmp 13], argTypes := #[76] }, type := 3, pos := "read.go:57", after := #[{ on := 7, ground := Ground.data }], guard := none }) (v := ?_) rfl (by kernel_rfl) (by kernel_rfl) (by kernel_rfl) (fun _ _ _ h => h) (Or.inl ⟨by rfl, ?_⟩) (by assumption) ?_
    rotate_left
    · (intro W hSw; (try dsimp only at hSw); have C := Cbox.later h1 hSw; have e0 := C.at 0; have e1 := C.at 1; clear C; obtain ⟨p0, p1, p2, p3, p4, p5, p6⟩ := T7.later TT.out hSw; first | (go_simp; done) | (go_simp; with_reducible rfl))
    try simp only [Act.put, List.setIfInBounds_toArray, List.set_cons_zero, List.set_cons_succ]
    refine wpAnyH_take (i := 9) (oi := { dst := some 15, op := Op.binOp BinOp.lss 3 (Operand.tmp 9) (Operand.tmp 14) 3, type := 4, pos := "read.go:57", after := #[{ on := 3, ground := Ground.data }, { on := 8, ground := Ground.data }], guard := none }) (v := ?_) rfl (by kernel_rfl) (by kernel_rfl) (by kernel_rfl) (fun _ _ _ h => h) (Or.inl ⟨by rfl, ?_⟩) (by assumption) ?_
    rotate_left
    · (intro W hSw; (try dsimp only at hSw); have C := Cbox.later h1 hSw; have e0 := C.at 0; have e1 := C.at 1; clear C; obtain ⟨p0, p1, p2, p3, p4, p5, p6⟩ := T7.later TT.out hSw; first | (go_simp; done) | (go_simp; with_reducible rfl))
    try simp only [Act.put, List.setIfInBounds_toArray, List.set_cons_zero, List.set_cons_succ]
    refine wpAnyH_take (i := 10) (oi := { dst := some 16, op := Op.move (Operand.tmp 15), type := 4, pos := "read.go:57", after := #[{ on := 9, ground := Ground.data }], guard := none }) (v := ?_) rfl (by kernel_rfl) (by kernel_rfl) (by kernel_rfl) (fun _ _ _ h => h) (Or.inl ⟨by rfl, ?_⟩) (by assumption) ?_
    rotate_left
    · (intro W hSw; (try dsimp only at hSw); have C := Cbox.later h1 hSw; have e0 := C.at 0; have e1 := C.at 1; clear C; obtain ⟨p0, p1, p2, p3, p4, p5, p6⟩ := T7.later TT.out hSw; first | (go_simp; done) | (go_simp; with_reducible rfl))
    try simp only [Act.put, List.setIfInBounds_toArray, List.set_cons_zero, List.set_cons_succ]
    refine wpAnyH_take (i := 11) (oi := { dst := some 17, op := Op.move (Operand.tmp 0), type := 167, pos := "read.go:57", after := #[{ on := 10, ground := Ground.guard }], guard := some (10, true) }) (v := ?_) rfl (by kernel_rfl) (by kernel_rfl) (by kernel_rfl) (fun _ _ _ h => h) (Or.inl ⟨by rfl, ?_⟩) (by assumption) ?_
    rotate_left
    · (intro W hSw; (try dsimp only at hSw); have C := Cbox.later h1 hSw; have e0 := C.at 0; have e1 := C.at 1; clear C; obtain ⟨p0, p1, p2, p3, p4, p5, p6⟩ := T7.later TT.out hSw; first | (go_simp; done) | (go_simp; with_reducible rfl))
    try simp only [Act.put, List.setIfInBounds_toArray, List.set_cons_zero, List.set_cons_succ]
    refine wpAnyH_take (i := 12) (oi := { dst := some 18, op := Op.nilCheck (Operand.tmp 17), type := 0, pos := "read.go:57", after := #[{ on := 11, ground := Ground.data }, { on := 10, ground := Ground.guard }], guard := some (10, true) }) (v := ?_) rfl (by kernel_rfl) (by kernel_rfl) (by kernel_rfl) (fun _ _ _ h => h) (Or.inl ⟨by rfl, ?_⟩) (by assumption) ?_
    rotate_left
    · (intro W hSw; (try dsimp only at hSw); have C := Cbox.later h1 hSw; have e0 := C.at 0; have e1 := C.at 1; clear C; obtain ⟨p0, p1, p2, p3, p4, p5, p6⟩ := T7.later TT.out hSw; first | (go_simp; done) | (go_simp; with_reducible rfl))
    try simp only [Act.put, List.setIfInBounds_toArray, List.set_cons_zero, List.set_cons_succ]
    refine wpAnyH_take (i := 13) (oi := { dst := some 19, op := Op.fieldAddr 112 (Operand.tmp 18) 0, type := 0, pos := "read.go:57", after := #[{ on := 12, ground := Ground.data }, { on := 10, ground := Ground.guard }], guard := some (10, true) }) (v := ?_) rfl (by kernel_rfl) (by kernel_rfl) (by kernel_rfl) (fun _ _ _ h => h) (Or.inl ⟨by rfl, ?_⟩) (by assumption) ?_
    rotate_left
    · (intro W hSw; (try dsimp only at hSw); have C := Cbox.later h1 hSw; have e0 := C.at 0; have e1 := C.at 1; clear C; obtain ⟨p0, p1, p2, p3, p4, p5, p6⟩ := T7.later TT.out hSw; first | (go_simp; done) | (go_simp; with_reducible rfl))
    try simp only [Act.put, List.setIfInBounds_toArray, List.set_cons_zero, List.set_cons_succ]
    refine wpAnyH_take (i := 14) (oi := { dst := some 20, op := Op.load 76 (Operand.tmp 19), type := 76, pos := "read.go:57", after := #[{ on := 13, ground := Ground.data }, { on := 10, ground := Ground.guard }], guard := some (10, true) }) (v := ?_) rfl (by kernel_rfl) (by kernel_rfl) (by kernel_rfl) (fun _ _ _ h => h) (Or.inl ⟨by rfl, ?_⟩) (by assumption) ?_
    rotate_left
    · (intro W hSw; (try dsimp only at hSw); have C := Cbox.later h1 hSw; have e0 := C.at 0; have e1 := C.at 1; clear C; obtain ⟨p0, p1, p2, p3, p4, p5, p6⟩ := T7.later TT.out hSw; first | (go_simp; done) | (go_simp; with_reducible rfl))
    try simp only [Act.put, List.setIfInBounds_toArray, List.set_cons_zero, List.set_cons_succ]
    refine wpAnyH_take (i := 15) (oi := { dst := some 21, op := Op.move (Operand.tmp 0), type := 167, pos := "read.go:57", after := #[{ on := 10, ground := Ground.guard }], guard := some (10, true) }) (v := ?_) rfl (by kernel_rfl) (by kernel_rfl) (by kernel_rfl) (fun _ _ _ h => h) (Or.inl ⟨by rfl, ?_⟩) (by assumption) ?_
    rotate_left
    · (intro W hSw; (try dsimp only at hSw); have C := Cbox.later h1 hSw; have e0 := C.at 0; have e1 := C.at 1; clear C; obtain ⟨p0, p1, p2, p3, p4, p5, p6⟩ := T7.later TT.out hSw; first | (go_simp; done) | (go_simp; with_reducible rfl))
    try simp only [Act.put, List.setIfInBounds_toArray, List.set_cons_zero, List.set_cons_succ]
    refine wpAnyH_take (i := 16) (oi := { dst := some 22, op := Op.nilCheck (Operand.tmp 21), type := 0, pos := "read.go:57", after := #[{ on := 15, ground := Ground.data }, { on := 10, ground := Ground.guard }], guard := some (10, true) }) (v := ?_) rfl (by kernel_rfl) (by kernel_rfl) (by kernel_rfl) (fun _ _ _ h => h) (Or.inl ⟨by rfl, ?_⟩) (by assumption) ?_
    rotate_left
    · (intro W hSw; (try dsimp only at hSw); have C := Cbox.later h1 hSw; have e0 := C.at 0; have e1 := C.at 1; clear C; obtain ⟨p0, p1, p2, p3, p4, p5, p6⟩ := T7.later TT.out hSw; first | (go_simp; done) | (go_simp; with_reducible rfl))
    try simp only [Act.put, List.setIfInBounds_toArray, List.set_cons_zero, List.set_cons_succ]
    refine wpAnyH_take (i := 17) (oi := { dst := some 23, op := Op.fieldAddr 112 (Operand.tmp 22) 1, type := 0, pos := "read.go:57", after := #[{ on := 16, ground := Ground.data }, { on := 10, ground := Ground.guard }], guard := some (10, true) }) (v := ?_) rfl (by kernel_rfl) (by kernel_rfl) (by kernel_rfl) (fun _ _ _ h => h) (Or.inl ⟨by rfl, ?_⟩) (by assumption) ?_
    rotate_left
    · (intro W hSw; (try dsimp only at hSw); have C := Cbox.later h1 hSw; have e0 := C.at 0; have e1 := C.at 1; clear C; obtain ⟨p0, p1, p2, p3, p4, p5, p6⟩ := T7.later TT.out hSw; first | (go_simp; done) | (go_simp; with_reducible rfl))
    try simp only [Act.put, List.setIfInBounds_toArray, List.set_cons_zero, List.set_cons_succ]
    refine wpAnyH_take (i := 18) (oi := { dst := some 24, op := Op.load 3 (Operand.tmp 23), type := 3, pos := "read.go:57", after := #[{ on := 17, ground := Ground.data }, { on := 10, ground := Ground.guard }], guard := some (10, true) }) (v := ?_) rfl (by kernel_rfl) (by kernel_rfl) (by kernel_rfl) (fun _ _ _ h => h) (Or.inl ⟨by rfl, ?_⟩) (by assumption) ?_
    rotate_left
    · (intro W hSw; (try dsimp only at hSw); have C := Cbox.later h1 hSw; have e0 := C.at 0; have e1 := C.at 1; clear C; obtain ⟨p0, p1, p2, p3, p4, p5, p6⟩ := T7.later TT.out hSw; first | (go_simp; done) | (go_simp; with_reducible rfl))
    try simp only [Act.put, List.setIfInBounds_toArray, List.set_cons_zero, List.set_cons_succ]
    refine wpAnyH_take (i := 19) (oi := { dst := some 25, op := Op.indexAddr 76 (Operand.tmp 20) (Operand.tmp 24), type := 0, pos := "read.go:57", after := #[{ on := 14, ground := Ground.data }, { on := 18, ground := Ground.data }, { on := 10, ground := Ground.guard }], guard := some (10, true) }) (v := ?_) rfl (by kernel_rfl) (by kernel_rfl) (by kernel_rfl) (fun _ _ _ h => h) (Or.inl ⟨by rfl, ?_⟩) (by assumption) ?_
    rotate_left
    · (intro W hSw; (try dsimp only at hSw); have C := Cbox.later h1 hSw; have e0 := C.at 0; have e1 := C.at 1; clear C; obtain ⟨p0, p1, p2, p3, p4, p5, p6⟩ := T7.later TT.out hSw; first | (go_simp; done) | (go_simp; with_reducible rfl))
    try simp only [Act.put, List.setIfInBounds_toArray, List.set_cons_zero, List.set_cons_succ]
    refine wpAnyH_take (i := 20) (oi := { dst := some 26, op := Op.load 108 (Operand.tmp 25), type := 108, pos := "read.go:57", after := #[{ on := 19, ground := Ground.data }, { on := 10, ground := Ground.guard }], guard := some (10, true) }) (v := ?_) rfl (by kernel_rfl) (by kernel_rfl) (by kernel_rfl) (fun _ _ _ h => h) (Or.inl ⟨by rfl, ?_⟩) (by assumption) ?_
    rotate_left
    · (intro W hSw; (try dsimp only at hSw); have C := Cbox.later h1 hSw; have e0 := C.at 0; have e1 := C.at 1; clear C; obtain ⟨p0, p1, p2, p3, p4, p5, p6⟩ := T7.later TT.out hSw; first | (go_simp; done) | (go_simp; with_reducible rfl))
    try simp only [Act.put, List.setIfInBounds_toArray, List.set_cons_zero, List.set_cons_succ]
    refine wpAnyH_ready (rs := [21]) (by kernel_rfl) (by simp) ?_
    refine AllReadyH.cons (o := { dst := some 27, op := Op.call { callee := Callee.value (Operand.func 135), args := #[Operand.tmp 26], argTypes := #[108] }, type := 4, pos := "read.go:57", after := #[{ on := 20, ground := Ground.data }, { on := 10, ground := Ground.chain }, { on := 10, ground := Ground.guard }], guard := some (10, true) }) rfl (fun K hK => ?_) AllReadyH.nil
    go_simp
    go_wp2_with (go_at_call 135; refine (Rx _ (below_trans B1 hHeld)).mono ?_; rintro e w2 ⟨rfl, b2⟩)
    refine hK.out _ _ ?_ (fun hHeld => ?_)
    · ((try dsimp only); exact below_trans hHeld b2)
    clear hK K
    try simp only [Act.put, List.setIfInBounds_toArray, List.set_cons_zero, List.set_cons_succ]
    refine wpAnyH_take (i := 22) (oi := { dst := some 28, op := Op.pick (Operand.tmp 16) (Operand.tmp 27) (Operand.const (Value.bool false)), type := 4, pos := "read.go:57", after := #[{ on := 10, ground := Ground.data }, { on := 21, ground := Ground.data }], guard := none }) (v := ?_) rfl (by kernel_rfl) (by kernel_rfl) (by kernel_rfl) (fun _ _ _ h => h) (Or.inl ⟨by rfl, ?_⟩) (by assumption) ?_
    rotate_left
    · (intro W hSw; (try dsimp only at hSw); have C := Cbox.later h1 hSw; have e0 := C.at 0; have e1 := C.at 1; clear C; obtain ⟨p0, p1, p2, p3, p4, p5, p6⟩ := T7.later TT.out hSw; first | (go_simp; done) | (go_simp; with_reducible rfl))
    try simp only [Act.put, List.setIfInBounds_toArray, List.set_cons_zero, List.set_cons_succ]
    refine wpAnyH_done (by kernel_rfl) ?_ _
    clear Rx
    have h2 := Cbox.later h1 hHeld
    have g2 : Fr w w2 p none := g1.trans (Fr.of_below hHeld p none) fun _ h => .inl h
    obtain ⟨p0, p1, p2, p3, p4, p5, p6⟩ := T7.later TT.out hHeld
    have hgb2 : b < w2.heap.size := by have := B1.size; have := hHeld.size; omega
    cases r with
    | false =>
      go_wp2
      go_end0
      refine ⟨rfl, ?_, g2⟩
      rw [HXE.out, if_neg (by simp)]; exact h2
    | true =>
      have c0 := h2.at 0
      have c1 := h2.at 1
      have c2 := h2.at 2
      have c3 := h2.at 3
      have c4 := h2.at 4
      have c5 := h2.at 5
      have c6 := h2.at 6
      have c7 := h2.at 7
      have c8 := h2.at 8
      have f2 := h2.free 2
      have f3 := h2.free 3
      have f4 := h2.free 4
      have f5 := h2.free 5
      have f6 := h2.free 6
      have f7 := h2.free 7
      have f8 := h2.free 8
      have hl2 := h2.lt
      have h3 := rb_st7 h2 ⟨xk, xt, xv, xa⟩
      have g3 := st7_fr w2 p ⟨xk, xt, xv, xa⟩ none
      have hbp : ¬ b = p := by omega
      have hpb : ¬ p = b := by omega
      have HXF : Hid (X = ⟨xk, xt, xv, xa⟩) := by
        show X = _
        rw [HXE.out, if_pos rfl]
      clear HXE
      go_wp2
      refine wp_region_held_drew (S := (fun W => W.cell? ⟨p, 0, none⟩ = some (.slice (some ⟨b, off, none⟩) n cap) ∧ W.cell? ⟨p, 1, none⟩ = some (.int .i64 (k : Int)) ∧ W.cell? ⟨b, off + k * 7, none⟩ = some (.int .i64 xk) ∧ W.cell? ⟨b, off + k * 7 + 1, none⟩ = some (.string ⟨xt.toArray⟩) ∧ W.cell? ⟨b, off + k * 7 + 2, none⟩ = some (.int .i64 xv.k) ∧ W.cell? ⟨b, off + k * 7 + 3, none⟩ = some (.int .i64 xv.n) ∧ W.cell? ⟨b, off + k * 7 + 4, none⟩ = some (.int .i64 xv.m) ∧ W.cell? ⟨b, off + k * 7 + 5, none⟩ = some (.string ⟨xv.b.toArray⟩) ∧ W.cell? ⟨b, off + k * 7 + 6, none⟩ = some (.int .i64 xa))) (by kernel_rfl) ?_ (fun hHeld => ?_)
      · ((try dsimp only); (simp (maxDischargeDepth := 12) [go_sem, c0, c1, p0, p1, p2, p3, p4, p5, p6]))
      refine wpAnyH_take (i := 0) (oi := { dst := some 29, op := Op.move (Operand.tmp 0), type := 167, pos := "read.go:58", after := #[], guard := none }) (v := ?_) rfl (by kernel_rfl) (by kernel_rfl) (by kernel_rfl) (fun _ _ _ h => h) (Or.inl ⟨by rfl, ?_⟩) (by assumption) ?_
      rotate_left
      · (intro W hSw; (try dsimp only at hSw); first | (go_simp; done) | (go_simp; with_reducible rfl))
      try simp only [Act.put, List.setIfInBounds_toArray, List.set_cons_zero, List.set_cons_succ]
      refine wpAnyH_take (i := 1) (oi := { dst := some 30, op := Op.move (Operand.tmp 0), type := 167, pos := "read.go:58", after := #[], guard := none }) (v := ?_) rfl (by kernel_rfl) (by kernel_rfl) (by kernel_rfl) (fun _ _ _ h => h) (Or.inl ⟨by rfl, ?_⟩) (by assumption) ?_
      rotate_left
      · (intro W hSw; (try dsimp only at hSw); first | (go_simp; done) | (go_simp; with_reducible rfl))
      try simp only [Act.put, List.setIfInBounds_toArray, List.set_cons_zero, List.set_cons_succ]
      refine wpAnyH_take (i := 2) (oi := { dst := some 31, op := Op.nilCheck (Operand.tmp 30), type := 0, pos := "read.go:58", after := #[{ on := 1, ground := Ground.data }], guard := none }) (v := ?_) rfl (by kernel_rfl) (by kernel_rfl) (by kernel_rfl) (fun _ _ _ h => h) (Or.inl ⟨by rfl, ?_⟩) (by assumption) ?_
      rotate_left
      · (intro W hSw; (try dsimp only at hSw); first | (go_simp; done) | (go_simp; with_reducible rfl))
      try simp only [Act.put, List.setIfInBounds_toArray, List.set_cons_zero, List.set_cons_succ]
      refine wpAnyH_take (i := 3) (oi := { dst := some 32, op := Op.fieldAddr 112 (Operand.tmp 31) 0, type := 0, pos := "read.go:58", after := #[{ on := 2, ground := Ground.data }], guard := none }) (v := ?_) rfl (by kernel_rfl) (by kernel_rfl) (by kernel_rfl) (fun _ _ _ h => h) (Or.inl ⟨by rfl, ?_⟩) (by assumption) ?_
      rotate_left
      · (intro W hSw; (try dsimp only at hSw); first | (go_simp; done) | (go_simp; with_reducible rfl))
      try simp only [Act.put, List.setIfInBounds_toArray, List.set_cons_zero, List.set_cons_succ]
      refine wpAnyH_take (i := 4) (oi := { dst := some 33, op := Op.load 76 (Operand.tmp 32), type := 76, pos := "read.go:58", after := #[{ on := 3, ground := Ground.data }], guard := none }) (v := ?_) rfl (by kernel_rfl) (by kernel_rfl) (by kernel_rfl) (fun _ _ _ h => h) (Or.inl ⟨by rfl, ?_⟩) (by assumption) ?_
      rotate_left
      · (intro W hSw; (try dsimp only at hSw); first | (go_simp; done) | (go_simp; with_reducible rfl))
      try simp only [Act.put, List.setIfInBounds_toArray, List.set_cons_zero, List.set_cons_succ]
      refine wpAnyH_take (i := 5) (oi := { dst := some 34, op := Op.move (Operand.tmp 0), type := 167, pos := "read.go:58", after := #[], guard := none }) (v := ?_) rfl (by kernel_rfl) (by kernel_rfl) (by kernel_rfl) (fun _ _ _ h => h) (Or.inl ⟨by rfl, ?_⟩) (by assumption) ?_
      rotate_left
      · (intro W hSw; (try dsimp only at hSw); first | (go_simp; done) | (go_simp; with_reducible rfl))
      try simp only [Act.put, List.setIfInBounds_toArray, List.set_cons_zero, List.set_cons_succ]
      refine wpAnyH_take (i := 6) (oi := { dst := some 35, op := Op.nilCheck (Operand.tmp 34), type := 0, pos := "read.go:58", after := #[{ on := 5, ground := Ground.data }], guard := none }) (v := ?_) rfl (by kernel_rfl) (by kernel_rfl) (by kernel_rfl) (fun _ _ _ h => h) (Or.inl ⟨by rfl, ?_⟩) (by assumption) ?_
      rotate_left
      · (intro W hSw; (try dsimp only at hSw); first | (go_simp; done) | (go_simp; with_reducible rfl))
      try simp only [Act.put, List.setIfInBounds_toArray, List.set_cons_zero, List.set_cons_succ]
      refine wpAnyH_take (i := 7) (oi := { dst := some 36, op := Op.fieldAddr 112 (Operand.tmp 35) 1, type := 0, pos := "read.go:58", after := #[{ on := 6, ground := Ground.data }], guard := none }) (v := ?_) rfl (by kernel_rfl) (by kernel_rfl) (by kernel_rfl) (fun _ _ _ h => h) (Or.inl ⟨by rfl, ?_⟩) (by assumption) ?_
      rotate_left
      · (intro W hSw; (try dsimp only at hSw); first | (go_simp; done) | (go_simp; with_reducible rfl))
      try simp only [Act.put, List.setIfInBounds_toArray, List.set_cons_zero, List.set_cons_succ]
      refine wpAnyH_take (i := 8) (oi := { dst := some 37, op := Op.load 3 (Operand.tmp 36), type := 3, pos := "read.go:58", after := #[{ on := 7, ground := Ground.data }], guard := none }) (v := ?_) rfl (by kernel_rfl) (by kernel_rfl) (by kernel_rfl) (fun _ _ _ h => h) (Or.inl ⟨by rfl, ?_⟩) (by assumption) ?_
      rotate_left
      · (intro W hSw; (try dsimp only at hSw); first | (go_simp; done) | (go_simp; with_reducible rfl))
      try simp only [Act.put, List.setIfInBounds_toArray, List.set_cons_zero, List.set_cons_succ]
      refine wpAnyH_take (i := 9) (oi := { dst := some 38, op := Op.indexAddr 76 (Operand.tmp 33) (Operand.tmp 37), type := 0, pos := "read.go:58", after := #[{ on := 4, ground := Ground.data }, { on := 8, ground := Ground.data }], guard := none }) (v := ?_) rfl (by kernel_rfl) (by kernel_rfl) (by kernel_rfl) (fun _ _ _ h => h) (Or.inl ⟨by rfl, ?_⟩) (by assumption) ?_
      rotate_left
      · (intro W hSw; (try dsimp only at hSw); first | (go_simp; done) | (go_simp; with_reducible rfl))
      try simp only [Act.put, List.setIfInBounds_toArray, List.set_cons_zero, List.set_cons_succ]
      refine wpAnyH_take (i := 10) (oi := { dst := some 39, op := Op.load 108 (Operand.tmp 38), type := 108, pos := "read.go:58", after := #[{ on := 9, ground := Ground.data }], guard := none }) (v := ?_) rfl (by kernel_rfl) (by kernel_rfl) (by kernel_rfl) (fun _ _ _ h => h) (Or.inl ⟨by rfl, ?_⟩) (by assumption) ?_
      rotate_left
      · (intro W hSw; (try dsimp only at hSw); first | (go_simp; done) | (go_simp; with_reducible rfl))
      try simp only [Act.put, List.setIfInBounds_toArray, List.set_cons_zero, List.set_cons_succ]
      refine wpAnyH_take (i := 11) (oi := { dst := some 40, op := Op.nilCheck (Operand.tmp 29), type := 0, pos := "read.go:58", after := #[{ on := 0, ground := Ground.data }, { on := 0, ground := Ground.phase }, { on := 1, ground := Ground.phase }, { on := 2, ground := Ground.phase }, { on := 3, ground := Ground.phase }, { on := 4, ground := Ground.phase }, { on := 5, ground := Ground.phase }, { on := 6, ground := Ground.phase }, { on := 7, ground := Ground.phase }, { on := 8, ground := Ground.phase }, { on := 9, ground := Ground.phase }, { on := 10, ground := Ground.phase }], guard := none }) (v := ?_) rfl (by kernel_rfl) (by kernel_rfl) (by kernel_rfl) (fun _ _ _ h => h) (Or.inl ⟨by rfl, ?_⟩) (by assumption) ?_
      rotate_left
      · (intro W hSw; (try dsimp only at hSw); first | (go_simp; done) | (go_simp; with_reducible rfl))
      try simp only [Act.put, List.setIfInBounds_toArray, List.set_cons_zero, List.set_cons_succ]
      refine wpAnyH_take (i := 12) (oi := { dst := some 41, op := Op.fieldAddr 112 (Operand.tmp 40) 2, type := 0, pos := "read.go:58", after := #[{ on := 11, ground := Ground.data }, { on := 0, ground := Ground.phase }, { on := 1, ground := Ground.phase }, { on := 2, ground := Ground.phase }, { on := 3, ground := Ground.phase }, { on := 4, ground := Ground.phase }, { on := 5, ground := Ground.phase }, { on := 6, ground := Ground.phase }, { on := 7, ground := Ground.phase }, { on := 8, ground := Ground.phase }, { on := 9, ground := Ground.phase }, { on := 10, ground := Ground.phase }], guard := none }) (v := ?_) rfl (by kernel_rfl) (by kernel_rfl) (by kernel_rfl) (fun _ _ _ h => h) (Or.inl ⟨by rfl, ?_⟩) (by assumption) ?_
      rotate_left
      · (intro W hSw; (try dsimp only at hSw); first | (go_simp; done) | (go_simp; with_reducible rfl))
      try simp only [Act.put, List.setIfInBounds_toArray, List.set_cons_zero, List.set_cons_succ]
      refine wpAnyH_ready (rs := [13]) (by kernel_rfl) (by simp) ?_
      refine AllReadyH.cons (o := { dst := none, op := Op.store 108 (Operand.tmp 41) (Operand.tmp 39), type := 0, pos := "read.go:58", after := #[{ on := 12, ground := Ground.data }, { on := 10, ground := Ground.data }, { on := 0, ground := Ground.phase }, { on := 1, ground := Ground.phase }, { on := 2, ground := Ground.phase }, { on := 3, ground := Ground.phase }, { on := 4, ground := Ground.phase }, { on := 5, ground := Ground.phase }, { on := 6, ground := Ground.phase }, { on := 7, ground := Ground.phase }, { on := 8, ground := Ground.phase }, { on := 9, ground := Ground.phase }, { on := 10, ground := Ground.phase }], guard := none }) rfl (fun K hK => ?_) AllReadyH.nil
      go_simp
      refine hK.out _ _ ?_ (fun hHeld => ?_)
      · ((try dsimp only); (simp (maxDischargeDepth := 12) [go_sem, c0, c1, p0, p1, p2, p3, p4, p5, p6]))
      clear hK K
      try simp only [Act.put, List.setIfInBounds_toArray, List.set_cons_zero, List.set_cons_succ]
      refine wpAnyH_done (by kernel_rfl) ?_ _
      go_wp2
      change bodyPost _ _ _ _ _ (World.drew (st7 w2 p ⟨xk, xt, xv, xa⟩))
      generalize st7 w2 p ⟨xk, xt, xv, xa⟩ = w3 at h3 g3 ⊢
      have HX3 := HXF.out
      subst HX3
      go_end0
      exact ⟨rfl, h3, (g2.trans g3 fun _ h => .inl h).trans (Fr.of_below ((Below.refl _ w3).drew) p none) fun _ h => .inl h⟩
end Go.Proofs.YtclhmmgdhagloaaGreatDoor
