/-
  strconv.Itoa and strconv.Atoi at every number and text; gauss.Right, gauss.pair, gauss.Print and gauss.Parse at whatever comes in.
-/
import Derived.Test.YtibbenhplmmmiaaGreatDoorPtS
import Derived.Lib.SmallJoins
import Derived.Shelf.Strings.SlTrimAscii
import Derived.Shelf.Strconv.ErrVarAll
import Derived.Shelf.Strconv.Itoa3
import Derived.Ground.NamesProg
import Derived.Shelf.Lay
import Derived.Deep.RegionHeld
import Derived.Deep.RegionHeld2
import Derived.Deep.Cut
namespace Go.Proofs.YtibbenhplmmmiaaGreatDoor.Pt
open Go.RowKit Go.Shelf
attribute [local go_sem] cell?_more frozen?_more setCell_more more_lt more_more more_drew more_drewN setCell_drewN alloc_drewN

shelf_lay Lays.n160 Nm 160 at Tryz as Tryz.laysTrimP
shelf_lay LaysC.n172 Nm 172 at Tryz as Tryz.laysAtoiP
shelf_lay LaysM.n171 Nm 171 at Tryz as Tryz.laysItoaP
def Hid (p : Prop) : Prop := p
theorem Hid.out {p : Prop} (h : Hid p) : p := h
theorem below_trans {a b c : World} (h : Below a.heap.size a b) (k : Below b.heap.size b c) : Below a.heap.size a c := h.trans (k.mono h.size)
/-- A variable of the library lies where it lies. -/
theorem var_later {w w' : World} {s : String} {v : Array Value} (h : w.var? Tryz.prog s = some v) (hb : Below w.heap.size w w') : w'.var? Tryz.prog s = some v := by
  unfold World.var? at *
  cases hg : Tryz.prog.globalNamed s with
  | none => rw [hg] at h; cases h
  | some g =>
    rw [hg] at h
    simp only [Option.bind_some] at h ⊢
    have hlt : g < w.heap.size := by
      rcases Nat.lt_or_ge g w.heap.size with h' | h'
      · exact h'
      · rw [Array.getElem?_eq_none h'] at h; cases h
    rw [hb.block g hlt]
    exact h
/-- The library's table of powers of ten. -/
def Ptab (w : World) : Prop := Lib.TabIs Tryz.prog w "internal/strconv.uint64pow10" .u64 Lib.pow10Tab
theorem Ptab.later {w w' : World} (h : Ptab w) (hb : Below w.heap.size w w') : Ptab w' := by
  unfold Ptab Lib.TabIs at *
  exact var_later h hb
/-- Cells lie in a block of their own. -/
def Cbox (w : World) (p : Nat) (cs : Array Value) (ty : TypeId) : Prop := w.heap[p]? = some (.cells cs ty (0, 0))
theorem Cbox.lt {w : World} {p : Nat} {cs : Array Value} {ty : TypeId} (h : Cbox w p cs ty) : p < w.heap.size := by
  by_cases hp : p < w.heap.size
  · exact hp
  · unfold Cbox at h
    rw [Array.getElem?_eq_none (by omega)] at h
    cases h
theorem Cbox.later {w w' : World} {p : Nat} {cs : Array Value} {ty : TypeId} (h : Cbox w p cs ty) (hb : Below w.heap.size w w') : Cbox w' p cs ty := by
  unfold Cbox
  rw [hb.block p h.lt]
  exact h
theorem Cbox.at {w : World} {p : Nat} {cs : Array Value} {ty : TypeId} (h : Cbox w p cs ty) (j : Nat) : w.cell? ⟨p, j, none⟩ = cs[j]? := by
  unfold Cbox at h
  simp [World.cell?, h]
theorem Cbox.free {w : World} {p : Nat} {cs : Array Value} {ty : TypeId} (h : Cbox w p cs ty) (j : Nat) : w.frozen? ⟨p, j, none⟩ = false := by
  unfold Cbox at h
  simp [World.frozen?, h]
theorem Cbox.new (w : World) (cs : Array Value) (ty : TypeId) : Cbox (w.alloc (.cells cs ty)) w.heap.size cs ty := by
  unfold Cbox
  show (w.heap.push _)[w.heap.size]? = _
  simp
theorem trim_any (l : List UInt8) (w : World) (hl : l.length ≤ 9223372036854775807) : Calls Tryz.prog 141 #[.string ⟨l.toArray⟩, .string ⟨#[60, 62]⟩] w fun e w' => e = .returned (.string ⟨(Lib.trimS l [60, 62]).toArray⟩) ∧ Below w.heap.size w w' :=
  Any.strings_Trim_laid Tryz.laysTrimP (by kernel_rfl) ⟨l.toArray⟩ ⟨#[60, 62]⟩ w hl (by decide) (ascii_of_all (by decide))
theorem grow_more (l : List Obj) : ∀ (w : World), Sort.grow w l.toArray = more w l := by
  induction l with
  | nil => intro w; simp [Sort.grow, more]
  | cons o l ih =>
    intro w
    rw [more, ← ih]
    unfold Sort.grow World.alloc
    simp
theorem itoa_any (n : Int) (w : World) (h0 : -9223372036854775808 ≤ n) (h1 : n ≤ 9223372036854775807) (hP : Ptab w) : Calls Tryz.prog 35 #[.int .i64 n] w fun e w' => e = .returned (.string ⟨(itx n).toArray⟩) ∧ Grew w w' := by
  refine (Any.strconv_Itoa Tryz.laysItoaP n h0 h1 w hP).mono ?_
  rintro e w' ⟨rfl, k, os, rfl⟩
  refine ⟨rfl, os.toList, k, ?_⟩
  have h := grow_more os.toList (w.drewN k)
  rw [Array.toArray_toList] at h
  rw [h, more_drewN]
theorem gfits_any (n : Int) (w : World) : Calls Tryz.prog 150 #[.int .i64 n] w fun e w' => e = .returned (.bool (ok1 n)) ∧ w = w' := by
  unfold ok1
  by_cases h1 : -1048576 ≤ n
  · by_cases h2 : n ≤ 1048576
    · have h3 : decide (-1048576 ≤ n ∧ n ≤ 1048576) = true := by simp [h1, h2]
      rw [h3]
      go_enter Tryz.func150, Tryz.ntmps150
      go_wp2
      all_goals go_ret
      all_goals exact ⟨rfl, rfl⟩
    · have h3 : decide (-1048576 ≤ n ∧ n ≤ 1048576) = false := by simp [h2]
      rw [h3]
      go_enter Tryz.func150, Tryz.ntmps150
      go_wp2
      all_goals go_ret
      all_goals exact ⟨rfl, rfl⟩
  · have h3 : decide (-1048576 ≤ n ∧ n ≤ 1048576) = false := by simp [h1]
    rw [h3]
    go_enter Tryz.func150, Tryz.ntmps150
    go_wp2
    all_goals go_ret
    all_goals exact ⟨rfl, rfl⟩

theorem gright_any (x y : Int) (w : World) : Calls Tryz.prog 88 #[.agg #[.int .i64 x, .int .i64 y]] w fun e w' => e = .returned (.bool (ok1 x && ok1 y)) ∧ Grew w w' := by
  cases hx : ok1 x
  · have X : ∀ W, Calls Tryz.prog 150 #[.int .i64 x] W fun e w' => e = .returned (.bool false) ∧ W = w' := fun W => by have := gfits_any x W; rwa [hx] at this
    clear hx
    go_enter Tryz.func88, Tryz.ntmps88
    go_wp2_with (go_at_call 150; refine (X _).mono ?_; rintro e w' ⟨rfl, rfl⟩)
    all_goals go_ret
    all_goals exact ⟨rfl, (by repeat (first | exact Grew.refl _ | apply Grew.drew | apply Grew.drewN | apply Grew.alloc | apply Grew.more))⟩
  · have X : ∀ W, Calls Tryz.prog 150 #[.int .i64 x] W fun e w' => e = .returned (.bool true) ∧ W = w' := fun W => by have := gfits_any x W; rwa [hx] at this
    have Y := fun W => gfits_any y W
    generalize ok1 y = b at *
    clear hx
    go_enter Tryz.func88, Tryz.ntmps88
    go_wp2_with (first
      | (go_at_call_of 150 (Value.int IntKind.i64 x); refine (X _).mono ?_; rintro e w' ⟨rfl, rfl⟩)
      | (go_at_call 150; refine (Y _).mono ?_; rintro e w' ⟨rfl, rfl⟩))
    all_goals go_ret
    all_goals exact ⟨rfl, (by repeat (first | exact Grew.refl _ | apply Grew.drew | apply Grew.drewN | apply Grew.alloc | apply Grew.more))⟩

/-- The library's error of the syntax lies where it lies. -/
def Esy (w : World) (tp : TypeId) (p : Value) : Prop := w.var? Tryz.prog "strconv.ErrSyntax" = some #[.iface tp p]
theorem Esy.later {w w' : World} {tp : TypeId} {p : Value} (h : Esy w tp p) (hb : Below w.heap.size w w') : Esy w' tp p := var_later h hb
/-- The library's error of the range lies where it lies. -/
def Era (w : World) (tp : TypeId) (p : Value) : Prop := w.var? Tryz.prog "strconv.ErrRange" = some #[.iface tp p]
theorem Era.later {w w' : World} {tp : TypeId} {p : Value} (h : Era w tp p) (hb : Below w.heap.size w w') : Era w' tp p := var_later h hb
/-- Both of the library's errors lie where they lie. -/
def Ers (w : World) : Prop := (∃ tp p, Esy w tp p) ∧ ∃ tp p, Era w tp p
theorem Ers.later {w w' : World} (h : Ers w) (hb : Below w.heap.size w w') : Ers w' := by
  obtain ⟨⟨a, b, h1⟩, c, d, h2⟩ := h
  exact ⟨⟨a, b, h1.later hb⟩, c, d, h2.later hb⟩
theorem atoiOk_any (l : List UInt8) (w : World) (hl : l.length ≤ 281474976710656) (h : atB l = true) : Calls Tryz.prog 207 #[.string ⟨l.toArray⟩] w fun e w' => e = .returned (.tuple #[.int .i64 (atN l), .nilIface]) ∧ Below w.heap.size w w' := by
  cases ha : Lib.atoiAll l with
  | ok v =>
    have e : atN l = v := by unfold atN; rw [ha]
    rw [e]
    refine (Any.strconv_Atoi_ok Tryz.laysAtoiP ⟨l.toArray⟩ (by show l.length ≤ _; omega) v ha w).mono ?_
    rintro e w' ⟨rfl, h1⟩
    refine ⟨rfl, ?_⟩
    rcases h1 with rfl | ⟨t, rfl⟩
    · exact Below.refl _ _
    · exact Joins.below_bytesWorld _ w _ t (Nat.le_refl _)
  | «syntax» => unfold atB at h; rw [ha] at h; cases h
  | range => unfold atB at h; rw [ha] at h; cases h
theorem atoiNo_any (l : List UInt8) (w : World) (hl : l.length ≤ 281474976710656) (hE : Ers w) (h : atB l = false) : Calls Tryz.prog 207 #[.string ⟨l.toArray⟩] w fun e w' => (∃ t N, e = .returned (.tuple #[.int .i64 (atN l), .iface t (.pointer (some ⟨N, 0, none⟩))])) ∧ Below w.heap.size w w' := by
  obtain ⟨⟨a, b, h1⟩, c, d, h2⟩ := hE
  cases ha : Lib.atoiAll l with
  | ok v => unfold atB at h; rw [ha] at h; cases h
  | «syntax» =>
    have e : atN l = 0 := by unfold atN; rw [ha]
    rw [e]
    refine (Any.strconv_Atoi_syntax_var Tryz.laysAtoiP ⟨l.toArray⟩ hl ha a b w h1).mono ?_
    rintro e w' ⟨N, h3, _, _, h4⟩
    exact ⟨⟨_, N, h3⟩, h4⟩
  | range =>
    have e : atN l = Lib.atoiSat l := by unfold atN; rw [ha]
    rw [e]
    refine (Any.strconv_Atoi_range_var Tryz.laysAtoiP ⟨l.toArray⟩ hl ha c d w h2).mono ?_
    rintro e w' ⟨N, h3, _, _, h4⟩
    exact ⟨⟨_, N, h3⟩, h4⟩

set_option maxRecDepth 20000 in
set_option maxHeartbeats 2000000 in
theorem pair_a (X Y : ByteArray) (n m : Int) (w : World)
    (AX : ∀ W, Below w.heap.size w W → Calls Tryz.prog 207 #[.string X] W fun e w' => (∃ t N, e = .returned (.tuple #[.int .i64 n, .iface t (.pointer (some ⟨N, 0, none⟩))])) ∧ Below W.heap.size W w')
    (AY : ∀ W, Below w.heap.size w W → Calls Tryz.prog 207 #[.string Y] W fun e w' => (∃ t N, e = .returned (.tuple #[.int .i64 m, .iface t (.pointer (some ⟨N, 0, none⟩))])) ∧ Below W.heap.size W w') :
    Calls Tryz.prog 142 #[.string X, .string Y] w fun e w' => e = .returned (.tuple #[.agg #[.int .i64 n, .int .i64 m], .bool false]) ∧ Below w.heap.size w w' := by
  have B0 : Below w.heap.size w (w.alloc (.cells #[.int .i64 0, .int .i64 0] 77)) := (Below.refl _ w).alloc (Nat.le_refl _) _
  have BR := Cbox.new w #[.int .i64 0, .int .i64 0] 77
  go_enter Tryz.func142, Tryz.ntmps142
  go_upto_region 1 with fail
  generalize w.alloc (.cells #[.int .i64 0, .int .i64 0] 77) = w0 at *
  go_wp2_with fail
  refine (AX _ B0).mono ?_
  rintro e w1 ⟨⟨tX, NX, rfl⟩, b1⟩
  have B1 := below_trans B0 b1
  go_wp2_with fail
  refine (AY _ B1).mono ?_
  rintro e w2 ⟨⟨tY, NY, rfl⟩, b2⟩
  have B2 := below_trans B1 b2
  have BR2 := (BR.later b1).later b2
  have A3 : Below w2.heap.size w2 (w2.alloc (.cells #[.int .i64 n, .int .i64 m] 77)) := (Below.refl _ _).alloc (Nat.le_refl _) _
  have BP0 := Cbox.new w2 #[.int .i64 n, .int .i64 m] 77
  have BR3 := BR2.later A3
  have B3 := below_trans B2 A3
  go_upto_region 4 with fail
  generalize w2.alloc (.cells #[.int .i64 n, .int .i64 m] 77) = w3 at *
  have BP : Hid (Cbox w3 w2.heap.size #[.int .i64 n, .int .i64 m] 77) := BP0
  have z0 := BP.out.at 0
  have z1 := BP.out.at 1
  have hlw := BR2.lt
  have hne1 : ¬ w.heap.size = w2.heap.size := by omega
  have hne2 : ¬ w2.heap.size = w.heap.size := by omega
  have BRh : Hid (Cbox w3 w.heap.size #[.int .i64 0, .int .i64 0] 77) := BR3
  have r0 := BR3.at 0
  have r1 := BR3.at 1
  have rl := BR3.lt
  have f0 := BR3.free 0
  have f1 := BR3.free 1
  have hbw : w.heap.size ≤ w3.heap.size := B3.size
  clear BP0 BR2 BR BR3 A3 AX AY
  refine wp_region_held_drew (S := (fun W => W.cell? ⟨w2.heap.size, 0, none⟩ = some (.int .i64 n) ∧ W.cell? ⟨w2.heap.size, 1, none⟩ = some (.int .i64 m))) (by kernel_rfl) ?_ (fun hHeld => ?_)
  · ((try dsimp only); exact ⟨z0, z1⟩)
  refine wpAnyH_take (i := 0) (oi := { dst := some 24, op := Op.load 77 (Operand.tmp 10), type := 77, pos := "text.go:34", after := #[], guard := none }) (v := ?_) rfl (by kernel_rfl) (by kernel_rfl) (by kernel_rfl) (fun _ _ _ h => h) (Or.inl ⟨by rfl, ?_⟩) (by assumption) ?_
  rotate_left
  · (intro W hSw; (try dsimp only at hSw); obtain ⟨y0, y1⟩ := hSw; first | (go_simp; done) | (go_simp; with_reducible rfl))
  try simp only [Act.put, List.setIfInBounds_toArray, List.set_cons_zero, List.set_cons_succ]
  refine wpAnyH_take (i := 1) (oi := { dst := some 25, op := Op.move (Operand.tmp 7), type := 214, pos := "text.go:34", after := #[], guard := none }) (v := ?_) rfl (by kernel_rfl) (by kernel_rfl) (by kernel_rfl) (fun _ _ _ h => h) (Or.inl ⟨by rfl, ?_⟩) (by assumption) ?_
  rotate_left
  · (intro W hSw; (try dsimp only at hSw); obtain ⟨y0, y1⟩ := hSw; first | (go_simp; done) | (go_simp; with_reducible rfl))
  try simp only [Act.put, List.setIfInBounds_toArray, List.set_cons_zero, List.set_cons_succ]
  refine wpAnyH_take (i := 2) (oi := { dst := some 26, op := Op.binOp BinOp.eql 214 (Operand.tmp 25) (Operand.const Value.nilIface) 214, type := 4, pos := "text.go:34", after := #[{ on := 1, ground := Ground.data }], guard := none }) (v := ?_) rfl (by kernel_rfl) (by kernel_rfl) (by kernel_rfl) (fun _ _ _ h => h) (Or.inl ⟨by rfl, ?_⟩) (by assumption) ?_
  rotate_left
  · (intro W hSw; (try dsimp only at hSw); obtain ⟨y0, y1⟩ := hSw; first | (go_simp; done) | (go_simp; with_reducible rfl))
  try simp only [Act.put, List.setIfInBounds_toArray, List.set_cons_zero, List.set_cons_succ]
  refine wpAnyH_take (i := 3) (oi := { dst := some 27, op := Op.move (Operand.tmp 26), type := 4, pos := "text.go:34", after := #[{ on := 2, ground := Ground.data }], guard := none }) (v := ?_) rfl (by kernel_rfl) (by kernel_rfl) (by kernel_rfl) (fun _ _ _ h => h) (Or.inl ⟨by rfl, ?_⟩) (by assumption) ?_
  rotate_left
  · (intro W hSw; (try dsimp only at hSw); obtain ⟨y0, y1⟩ := hSw; first | (go_simp; done) | (go_simp; with_reducible rfl))
  try simp only [Act.put, List.setIfInBounds_toArray, List.set_cons_zero, List.set_cons_succ]
  refine wpAnyH_take (i := 4) (oi := { dst := some 28, op := Op.move (Operand.tmp 9), type := 214, pos := "text.go:34", after := #[{ on := 3, ground := Ground.guard }], guard := some (3, true) }) (v := undef) rfl (by kernel_rfl) (by kernel_rfl) (by kernel_rfl) (fun _ _ _ h => h) (Or.inr ⟨by rfl, rfl⟩) (by assumption) ?_
  try simp only [Act.put, List.setIfInBounds_toArray, List.set_cons_zero, List.set_cons_succ]
  refine wpAnyH_take (i := 5) (oi := { dst := some 29, op := Op.binOp BinOp.eql 214 (Operand.tmp 28) (Operand.const Value.nilIface) 214, type := 4, pos := "text.go:34", after := #[{ on := 4, ground := Ground.data }, { on := 3, ground := Ground.guard }], guard := some (3, true) }) (v := undef) rfl (by kernel_rfl) (by kernel_rfl) (by kernel_rfl) (fun _ _ _ h => h) (Or.inr ⟨by rfl, rfl⟩) (by assumption) ?_
  try simp only [Act.put, List.setIfInBounds_toArray, List.set_cons_zero, List.set_cons_succ]
  refine wpAnyH_take (i := 6) (oi := { dst := some 30, op := Op.pick (Operand.tmp 27) (Operand.tmp 29) (Operand.const (Value.bool false)), type := 4, pos := "text.go:34", after := #[{ on := 3, ground := Ground.data }, { on := 5, ground := Ground.data }], guard := none }) (v := ?_) rfl (by kernel_rfl) (by kernel_rfl) (by kernel_rfl) (fun _ _ _ h => h) (Or.inl ⟨by rfl, ?_⟩) (by assumption) ?_
  rotate_left
  · (intro W hSw; (try dsimp only at hSw); obtain ⟨y0, y1⟩ := hSw; first | (go_simp; done) | (go_simp; with_reducible rfl))
  try simp only [Act.put, List.setIfInBounds_toArray, List.set_cons_zero, List.set_cons_succ]
  refine wpAnyH_take (i := 7) (oi := { dst := some 31, op := Op.move (Operand.tmp 30), type := 4, pos := "text.go:34", after := #[{ on := 6, ground := Ground.data }, { on := 3, ground := Ground.chain }], guard := none }) (v := ?_) rfl (by kernel_rfl) (by kernel_rfl) (by kernel_rfl) (fun _ _ _ h => h) (Or.inl ⟨by rfl, ?_⟩) (by assumption) ?_
  rotate_left
  · (intro W hSw; (try dsimp only at hSw); obtain ⟨y0, y1⟩ := hSw; first | (go_simp; done) | (go_simp; with_reducible rfl))
  try simp only [Act.put, List.setIfInBounds_toArray, List.set_cons_zero, List.set_cons_succ]
  refine wpAnyH_take (i := 8) (oi := { dst := some 32, op := Op.load 77 (Operand.tmp 10), type := 77, pos := "text.go:34", after := #[{ on := 7, ground := Ground.guard }], guard := some (7, true) }) (v := undef) rfl (by kernel_rfl) (by kernel_rfl) (by kernel_rfl) (fun _ _ _ h => h) (Or.inr ⟨by rfl, rfl⟩) (by assumption) ?_
  try simp only [Act.put, List.setIfInBounds_toArray, List.set_cons_zero, List.set_cons_succ]
  refine wpAnyH_take (i := 9) (oi := { dst := some 33, op := Op.call { callee := Callee.value (Operand.func 88), args := #[Operand.tmp 32], argTypes := #[77] }, type := 4, pos := "text.go:34", after := #[{ on := 8, ground := Ground.data }, { on := 7, ground := Ground.chain }, { on := 7, ground := Ground.guard }], guard := some (7, true) }) (v := undef) rfl (by kernel_rfl) (by kernel_rfl) (by kernel_rfl) (fun _ _ _ h => h) (Or.inr ⟨by rfl, rfl⟩) (by assumption) ?_
  try simp only [Act.put, List.setIfInBounds_toArray, List.set_cons_zero, List.set_cons_succ]
  refine wpAnyH_take (i := 10) (oi := { dst := some 34, op := Op.pick (Operand.tmp 31) (Operand.tmp 33) (Operand.const (Value.bool false)), type := 4, pos := "text.go:34", after := #[{ on := 7, ground := Ground.data }, { on := 9, ground := Ground.data }, { on := 11, ground := Ground.gcOnly Departure.lateStores }], guard := none }) (v := ?_) rfl (by kernel_rfl) (by kernel_rfl) (by kernel_rfl) (fun _ _ _ h => h) (Or.inl ⟨by rfl, ?_⟩) (by assumption) ?_
  rotate_left
  · (intro W hSw; (try dsimp only at hSw); obtain ⟨y0, y1⟩ := hSw; first | (go_simp; done) | (go_simp; with_reducible rfl))
  try simp only [Act.put, List.setIfInBounds_toArray, List.set_cons_zero, List.set_cons_succ]
  refine wpAnyH_ready (rs := [11]) (by kernel_rfl) (by simp) ?_
  refine AllReadyH.cons (o := { dst := none, op := Op.store 77 (Operand.tmp 4) (Operand.tmp 24), type := 0, pos := "text.go:34", after := #[{ on := 0, ground := Ground.data }, { on := 9, ground := Ground.chain }, { on := 0, ground := Ground.phase }, { on := 1, ground := Ground.textOnly Departure.lateStores }, { on := 2, ground := Ground.textOnly Departure.lateStores }, { on := 3, ground := Ground.textOnly Departure.lateStores }, { on := 4, ground := Ground.textOnly Departure.lateStores }, { on := 5, ground := Ground.textOnly Departure.lateStores }, { on := 6, ground := Ground.textOnly Departure.lateStores }, { on := 7, ground := Ground.textOnly Departure.lateStores }, { on := 8, ground := Ground.textOnly Departure.lateStores }, { on := 9, ground := Ground.textOnly Departure.lateStoresUnsure }, { on := 10, ground := Ground.textOnly Departure.lateStores }], guard := none }) rfl (fun K hK => ?_) AllReadyH.nil
  go_simp
  refine hK.out _ _ ?_ (fun hHeld => ?_)
  · ((try dsimp only); (simp (maxDischargeDepth := 12) [go_sem, z0, z1]))
  clear hK K
  try simp only [Act.put, List.setIfInBounds_toArray, List.set_cons_zero, List.set_cons_succ]
  refine wpAnyH_take (i := 12) (oi := { dst := some 5, op := Op.assign (Operand.tmp 34), type := 4, pos := "text.go:34", after := #[{ on := 10, ground := Ground.data }, { on := 11, ground := Ground.chain }, { on := 0, ground := Ground.phase }, { on := 1, ground := Ground.phase }, { on := 2, ground := Ground.phase }, { on := 3, ground := Ground.phase }, { on := 4, ground := Ground.phase }, { on := 5, ground := Ground.phase }, { on := 6, ground := Ground.phase }, { on := 7, ground := Ground.phase }, { on := 8, ground := Ground.phase }, { on := 9, ground := Ground.phase }, { on := 10, ground := Ground.phase }, { on := 11, ground := Ground.phase }], guard := none }) (v := ?_) rfl (by kernel_rfl) (by kernel_rfl) (by kernel_rfl) (fun _ _ _ h => h) (Or.inl ⟨by rfl, ?_⟩) (by assumption) ?_
  rotate_left
  · (intro W hSw; (try dsimp only at hSw); obtain ⟨y0, y1⟩ := hSw; first | (go_simp; done) | (go_simp; with_reducible rfl))
  try simp only [Act.put, List.setIfInBounds_toArray, List.set_cons_zero, List.set_cons_succ]
  refine wpAnyH_done (by kernel_rfl) ?_ _
  go_wp2
  refine bodyPost_ret_by (v := .tuple #[.agg #[.int .i64 n, .int .i64 m], .bool false]) ?_ rfl ⟨rfl, ?_⟩
  · simp [results, Tryz.results142, go_sem, r0, r1]
  · exact (B3.drew.setCell (p := ⟨w.heap.size, 0, none⟩) (Nat.le_refl _) _).setCell (p := ⟨w.heap.size, 1, none⟩) (Nat.le_refl _) _

set_option maxRecDepth 20000 in
set_option maxHeartbeats 2000000 in
theorem pair_d (X Y : ByteArray) (n m : Int) (w : World)
    (AX : ∀ W, Below w.heap.size w W → Calls Tryz.prog 207 #[.string X] W fun e w' => (∃ t N, e = .returned (.tuple #[.int .i64 n, .iface t (.pointer (some ⟨N, 0, none⟩))])) ∧ Below W.heap.size W w')
    (AY : ∀ W, Below w.heap.size w W → Calls Tryz.prog 207 #[.string Y] W fun e w' => e = .returned (.tuple #[.int .i64 m, .nilIface]) ∧ Below W.heap.size W w') :
    Calls Tryz.prog 142 #[.string X, .string Y] w fun e w' => e = .returned (.tuple #[.agg #[.int .i64 n, .int .i64 m], .bool false]) ∧ Below w.heap.size w w' := by
  have B0 : Below w.heap.size w (w.alloc (.cells #[.int .i64 0, .int .i64 0] 77)) := (Below.refl _ w).alloc (Nat.le_refl _) _
  have BR := Cbox.new w #[.int .i64 0, .int .i64 0] 77
  go_enter Tryz.func142, Tryz.ntmps142
  go_upto_region 1 with fail
  generalize w.alloc (.cells #[.int .i64 0, .int .i64 0] 77) = w0 at *
  go_wp2_with fail
  refine (AX _ B0).mono ?_
  rintro e w1 ⟨⟨tX, NX, rfl⟩, b1⟩
  have B1 := below_trans B0 b1
  go_wp2_with fail
  refine (AY _ B1).mono ?_
  rintro e w2 ⟨rfl, b2⟩
  have B2 := below_trans B1 b2
  have BR2 := (BR.later b1).later b2
  have A3 : Below w2.heap.size w2 (w2.alloc (.cells #[.int .i64 n, .int .i64 m] 77)) := (Below.refl _ _).alloc (Nat.le_refl _) _
  have BP0 := Cbox.new w2 #[.int .i64 n, .int .i64 m] 77
  have BR3 := BR2.later A3
  have B3 := below_trans B2 A3
  go_upto_region 4 with fail
  generalize w2.alloc (.cells #[.int .i64 n, .int .i64 m] 77) = w3 at *
  have BP : Hid (Cbox w3 w2.heap.size #[.int .i64 n, .int .i64 m] 77) := BP0
  have z0 := BP.out.at 0
  have z1 := BP.out.at 1
  have hlw := BR2.lt
  have hne1 : ¬ w.heap.size = w2.heap.size := by omega
  have hne2 : ¬ w2.heap.size = w.heap.size := by omega
  have BRh : Hid (Cbox w3 w.heap.size #[.int .i64 0, .int .i64 0] 77) := BR3
  have r0 := BR3.at 0
  have r1 := BR3.at 1
  have rl := BR3.lt
  have f0 := BR3.free 0
  have f1 := BR3.free 1
  have hbw : w.heap.size ≤ w3.heap.size := B3.size
  clear BP0 BR2 BR BR3 A3 AX AY
  refine wp_region_held_drew (S := (fun W => W.cell? ⟨w2.heap.size, 0, none⟩ = some (.int .i64 n) ∧ W.cell? ⟨w2.heap.size, 1, none⟩ = some (.int .i64 m))) (by kernel_rfl) ?_ (fun hHeld => ?_)
  · ((try dsimp only); exact ⟨z0, z1⟩)
  refine wpAnyH_take (i := 0) (oi := { dst := some 24, op := Op.load 77 (Operand.tmp 10), type := 77, pos := "text.go:34", after := #[], guard := none }) (v := ?_) rfl (by kernel_rfl) (by kernel_rfl) (by kernel_rfl) (fun _ _ _ h => h) (Or.inl ⟨by rfl, ?_⟩) (by assumption) ?_
  rotate_left
  · (intro W hSw; (try dsimp only at hSw); obtain ⟨y0, y1⟩ := hSw; first | (go_simp; done) | (go_simp; with_reducible rfl))
  try simp only [Act.put, List.setIfInBounds_toArray, List.set_cons_zero, List.set_cons_succ]
  refine wpAnyH_take (i := 1) (oi := { dst := some 25, op := Op.move (Operand.tmp 7), type := 214, pos := "text.go:34", after := #[], guard := none }) (v := ?_) rfl (by kernel_rfl) (by kernel_rfl) (by kernel_rfl) (fun _ _ _ h => h) (Or.inl ⟨by rfl, ?_⟩) (by assumption) ?_
  rotate_left
  · (intro W hSw; (try dsimp only at hSw); obtain ⟨y0, y1⟩ := hSw; first | (go_simp; done) | (go_simp; with_reducible rfl))
  try simp only [Act.put, List.setIfInBounds_toArray, List.set_cons_zero, List.set_cons_succ]
  refine wpAnyH_take (i := 2) (oi := { dst := some 26, op := Op.binOp BinOp.eql 214 (Operand.tmp 25) (Operand.const Value.nilIface) 214, type := 4, pos := "text.go:34", after := #[{ on := 1, ground := Ground.data }], guard := none }) (v := ?_) rfl (by kernel_rfl) (by kernel_rfl) (by kernel_rfl) (fun _ _ _ h => h) (Or.inl ⟨by rfl, ?_⟩) (by assumption) ?_
  rotate_left
  · (intro W hSw; (try dsimp only at hSw); obtain ⟨y0, y1⟩ := hSw; first | (go_simp; done) | (go_simp; with_reducible rfl))
  try simp only [Act.put, List.setIfInBounds_toArray, List.set_cons_zero, List.set_cons_succ]
  refine wpAnyH_take (i := 3) (oi := { dst := some 27, op := Op.move (Operand.tmp 26), type := 4, pos := "text.go:34", after := #[{ on := 2, ground := Ground.data }], guard := none }) (v := ?_) rfl (by kernel_rfl) (by kernel_rfl) (by kernel_rfl) (fun _ _ _ h => h) (Or.inl ⟨by rfl, ?_⟩) (by assumption) ?_
  rotate_left
  · (intro W hSw; (try dsimp only at hSw); obtain ⟨y0, y1⟩ := hSw; first | (go_simp; done) | (go_simp; with_reducible rfl))
  try simp only [Act.put, List.setIfInBounds_toArray, List.set_cons_zero, List.set_cons_succ]
  refine wpAnyH_take (i := 4) (oi := { dst := some 28, op := Op.move (Operand.tmp 9), type := 214, pos := "text.go:34", after := #[{ on := 3, ground := Ground.guard }], guard := some (3, true) }) (v := undef) rfl (by kernel_rfl) (by kernel_rfl) (by kernel_rfl) (fun _ _ _ h => h) (Or.inr ⟨by rfl, rfl⟩) (by assumption) ?_
  try simp only [Act.put, List.setIfInBounds_toArray, List.set_cons_zero, List.set_cons_succ]
  refine wpAnyH_take (i := 5) (oi := { dst := some 29, op := Op.binOp BinOp.eql 214 (Operand.tmp 28) (Operand.const Value.nilIface) 214, type := 4, pos := "text.go:34", after := #[{ on := 4, ground := Ground.data }, { on := 3, ground := Ground.guard }], guard := some (3, true) }) (v := undef) rfl (by kernel_rfl) (by kernel_rfl) (by kernel_rfl) (fun _ _ _ h => h) (Or.inr ⟨by rfl, rfl⟩) (by assumption) ?_
  try simp only [Act.put, List.setIfInBounds_toArray, List.set_cons_zero, List.set_cons_succ]
  refine wpAnyH_take (i := 6) (oi := { dst := some 30, op := Op.pick (Operand.tmp 27) (Operand.tmp 29) (Operand.const (Value.bool false)), type := 4, pos := "text.go:34", after := #[{ on := 3, ground := Ground.data }, { on := 5, ground := Ground.data }], guard := none }) (v := ?_) rfl (by kernel_rfl) (by kernel_rfl) (by kernel_rfl) (fun _ _ _ h => h) (Or.inl ⟨by rfl, ?_⟩) (by assumption) ?_
  rotate_left
  · (intro W hSw; (try dsimp only at hSw); obtain ⟨y0, y1⟩ := hSw; first | (go_simp; done) | (go_simp; with_reducible rfl))
  try simp only [Act.put, List.setIfInBounds_toArray, List.set_cons_zero, List.set_cons_succ]
  refine wpAnyH_take (i := 7) (oi := { dst := some 31, op := Op.move (Operand.tmp 30), type := 4, pos := "text.go:34", after := #[{ on := 6, ground := Ground.data }, { on := 3, ground := Ground.chain }], guard := none }) (v := ?_) rfl (by kernel_rfl) (by kernel_rfl) (by kernel_rfl) (fun _ _ _ h => h) (Or.inl ⟨by rfl, ?_⟩) (by assumption) ?_
  rotate_left
  · (intro W hSw; (try dsimp only at hSw); obtain ⟨y0, y1⟩ := hSw; first | (go_simp; done) | (go_simp; with_reducible rfl))
  try simp only [Act.put, List.setIfInBounds_toArray, List.set_cons_zero, List.set_cons_succ]
  refine wpAnyH_take (i := 8) (oi := { dst := some 32, op := Op.load 77 (Operand.tmp 10), type := 77, pos := "text.go:34", after := #[{ on := 7, ground := Ground.guard }], guard := some (7, true) }) (v := undef) rfl (by kernel_rfl) (by kernel_rfl) (by kernel_rfl) (fun _ _ _ h => h) (Or.inr ⟨by rfl, rfl⟩) (by assumption) ?_
  try simp only [Act.put, List.setIfInBounds_toArray, List.set_cons_zero, List.set_cons_succ]
  refine wpAnyH_take (i := 9) (oi := { dst := some 33, op := Op.call { callee := Callee.value (Operand.func 88), args := #[Operand.tmp 32], argTypes := #[77] }, type := 4, pos := "text.go:34", after := #[{ on := 8, ground := Ground.data }, { on := 7, ground := Ground.chain }, { on := 7, ground := Ground.guard }], guard := some (7, true) }) (v := undef) rfl (by kernel_rfl) (by kernel_rfl) (by kernel_rfl) (fun _ _ _ h => h) (Or.inr ⟨by rfl, rfl⟩) (by assumption) ?_
  try simp only [Act.put, List.setIfInBounds_toArray, List.set_cons_zero, List.set_cons_succ]
  refine wpAnyH_take (i := 10) (oi := { dst := some 34, op := Op.pick (Operand.tmp 31) (Operand.tmp 33) (Operand.const (Value.bool false)), type := 4, pos := "text.go:34", after := #[{ on := 7, ground := Ground.data }, { on := 9, ground := Ground.data }, { on := 11, ground := Ground.gcOnly Departure.lateStores }], guard := none }) (v := ?_) rfl (by kernel_rfl) (by kernel_rfl) (by kernel_rfl) (fun _ _ _ h => h) (Or.inl ⟨by rfl, ?_⟩) (by assumption) ?_
  rotate_left
  · (intro W hSw; (try dsimp only at hSw); obtain ⟨y0, y1⟩ := hSw; first | (go_simp; done) | (go_simp; with_reducible rfl))
  try simp only [Act.put, List.setIfInBounds_toArray, List.set_cons_zero, List.set_cons_succ]
  refine wpAnyH_ready (rs := [11]) (by kernel_rfl) (by simp) ?_
  refine AllReadyH.cons (o := { dst := none, op := Op.store 77 (Operand.tmp 4) (Operand.tmp 24), type := 0, pos := "text.go:34", after := #[{ on := 0, ground := Ground.data }, { on := 9, ground := Ground.chain }, { on := 0, ground := Ground.phase }, { on := 1, ground := Ground.textOnly Departure.lateStores }, { on := 2, ground := Ground.textOnly Departure.lateStores }, { on := 3, ground := Ground.textOnly Departure.lateStores }, { on := 4, ground := Ground.textOnly Departure.lateStores }, { on := 5, ground := Ground.textOnly Departure.lateStores }, { on := 6, ground := Ground.textOnly Departure.lateStores }, { on := 7, ground := Ground.textOnly Departure.lateStores }, { on := 8, ground := Ground.textOnly Departure.lateStores }, { on := 9, ground := Ground.textOnly Departure.lateStoresUnsure }, { on := 10, ground := Ground.textOnly Departure.lateStores }], guard := none }) rfl (fun K hK => ?_) AllReadyH.nil
  go_simp
  refine hK.out _ _ ?_ (fun hHeld => ?_)
  · ((try dsimp only); (simp (maxDischargeDepth := 12) [go_sem, z0, z1]))
  clear hK K
  try simp only [Act.put, List.setIfInBounds_toArray, List.set_cons_zero, List.set_cons_succ]
  refine wpAnyH_take (i := 12) (oi := { dst := some 5, op := Op.assign (Operand.tmp 34), type := 4, pos := "text.go:34", after := #[{ on := 10, ground := Ground.data }, { on := 11, ground := Ground.chain }, { on := 0, ground := Ground.phase }, { on := 1, ground := Ground.phase }, { on := 2, ground := Ground.phase }, { on := 3, ground := Ground.phase }, { on := 4, ground := Ground.phase }, { on := 5, ground := Ground.phase }, { on := 6, ground := Ground.phase }, { on := 7, ground := Ground.phase }, { on := 8, ground := Ground.phase }, { on := 9, ground := Ground.phase }, { on := 10, ground := Ground.phase }, { on := 11, ground := Ground.phase }], guard := none }) (v := ?_) rfl (by kernel_rfl) (by kernel_rfl) (by kernel_rfl) (fun _ _ _ h => h) (Or.inl ⟨by rfl, ?_⟩) (by assumption) ?_
  rotate_left
  · (intro W hSw; (try dsimp only at hSw); obtain ⟨y0, y1⟩ := hSw; first | (go_simp; done) | (go_simp; with_reducible rfl))
  try simp only [Act.put, List.setIfInBounds_toArray, List.set_cons_zero, List.set_cons_succ]
  refine wpAnyH_done (by kernel_rfl) ?_ _
  go_wp2
  refine bodyPost_ret_by (v := .tuple #[.agg #[.int .i64 n, .int .i64 m], .bool false]) ?_ rfl ⟨rfl, ?_⟩
  · simp [results, Tryz.results142, go_sem, r0, r1]
  · exact (B3.drew.setCell (p := ⟨w.heap.size, 0, none⟩) (Nat.le_refl _) _).setCell (p := ⟨w.heap.size, 1, none⟩) (Nat.le_refl _) _

set_option maxRecDepth 20000 in
set_option maxHeartbeats 2000000 in
theorem pair_b (X Y : ByteArray) (n m : Int) (w : World)
    (AX : ∀ W, Below w.heap.size w W → Calls Tryz.prog 207 #[.string X] W fun e w' => e = .returned (.tuple #[.int .i64 n, .nilIface]) ∧ Below W.heap.size W w')
    (AY : ∀ W, Below w.heap.size w W → Calls Tryz.prog 207 #[.string Y] W fun e w' => (∃ t N, e = .returned (.tuple #[.int .i64 m, .iface t (.pointer (some ⟨N, 0, none⟩))])) ∧ Below W.heap.size W w') :
    Calls Tryz.prog 142 #[.string X, .string Y] w fun e w' => e = .returned (.tuple #[.agg #[.int .i64 n, .int .i64 m], .bool false]) ∧ Below w.heap.size w w' := by
  have B0 : Below w.heap.size w (w.alloc (.cells #[.int .i64 0, .int .i64 0] 77)) := (Below.refl _ w).alloc (Nat.le_refl _) _
  have BR := Cbox.new w #[.int .i64 0, .int .i64 0] 77
  go_enter Tryz.func142, Tryz.ntmps142
  go_upto_region 1 with fail
  generalize w.alloc (.cells #[.int .i64 0, .int .i64 0] 77) = w0 at *
  go_wp2_with fail
  refine (AX _ B0).mono ?_
  rintro e w1 ⟨rfl, b1⟩
  have B1 := below_trans B0 b1
  go_wp2_with fail
  refine (AY _ B1).mono ?_
  rintro e w2 ⟨⟨tY, NY, rfl⟩, b2⟩
  have B2 := below_trans B1 b2
  have BR2 := (BR.later b1).later b2
  have A3 : Below w2.heap.size w2 (w2.alloc (.cells #[.int .i64 n, .int .i64 m] 77)) := (Below.refl _ _).alloc (Nat.le_refl _) _
  have BP0 := Cbox.new w2 #[.int .i64 n, .int .i64 m] 77
  have BR3 := BR2.later A3
  have B3 := below_trans B2 A3
  go_upto_region 4 with fail
  generalize w2.alloc (.cells #[.int .i64 n, .int .i64 m] 77) = w3 at *
  have BP : Hid (Cbox w3 w2.heap.size #[.int .i64 n, .int .i64 m] 77) := BP0
  have z0 := BP.out.at 0
  have z1 := BP.out.at 1
  have hlw := BR2.lt
  have hne1 : ¬ w.heap.size = w2.heap.size := by omega
  have hne2 : ¬ w2.heap.size = w.heap.size := by omega
  have BRh : Hid (Cbox w3 w.heap.size #[.int .i64 0, .int .i64 0] 77) := BR3
  have r0 := BR3.at 0
  have r1 := BR3.at 1
  have rl := BR3.lt
  have f0 := BR3.free 0
  have f1 := BR3.free 1
  have hbw : w.heap.size ≤ w3.heap.size := B3.size
  clear BP0 BR2 BR BR3 A3 AX AY
  refine wp_region_held_drew (S := (fun W => W.cell? ⟨w2.heap.size, 0, none⟩ = some (.int .i64 n) ∧ W.cell? ⟨w2.heap.size, 1, none⟩ = some (.int .i64 m))) (by kernel_rfl) ?_ (fun hHeld => ?_)
  · ((try dsimp only); exact ⟨z0, z1⟩)
  refine wpAnyH_take (i := 0) (oi := { dst := some 24, op := Op.load 77 (Operand.tmp 10), type := 77, pos := "text.go:34", after := #[], guard := none }) (v := ?_) rfl (by kernel_rfl) (by kernel_rfl) (by kernel_rfl) (fun _ _ _ h => h) (Or.inl ⟨by rfl, ?_⟩) (by assumption) ?_
  rotate_left
  · (intro W hSw; (try dsimp only at hSw); obtain ⟨y0, y1⟩ := hSw; first | (go_simp; done) | (go_simp; with_reducible rfl))
  try simp only [Act.put, List.setIfInBounds_toArray, List.set_cons_zero, List.set_cons_succ]
  refine wpAnyH_take (i := 1) (oi := { dst := some 25, op := Op.move (Operand.tmp 7), type := 214, pos := "text.go:34", after := #[], guard := none }) (v := ?_) rfl (by kernel_rfl) (by kernel_rfl) (by kernel_rfl) (fun _ _ _ h => h) (Or.inl ⟨by rfl, ?_⟩) (by assumption) ?_
  rotate_left
  · (intro W hSw; (try dsimp only at hSw); obtain ⟨y0, y1⟩ := hSw; first | (go_simp; done) | (go_simp; with_reducible rfl))
  try simp only [Act.put, List.setIfInBounds_toArray, List.set_cons_zero, List.set_cons_succ]
  refine wpAnyH_take (i := 2) (oi := { dst := some 26, op := Op.binOp BinOp.eql 214 (Operand.tmp 25) (Operand.const Value.nilIface) 214, type := 4, pos := "text.go:34", after := #[{ on := 1, ground := Ground.data }], guard := none }) (v := ?_) rfl (by kernel_rfl) (by kernel_rfl) (by kernel_rfl) (fun _ _ _ h => h) (Or.inl ⟨by rfl, ?_⟩) (by assumption) ?_
  rotate_left
  · (intro W hSw; (try dsimp only at hSw); obtain ⟨y0, y1⟩ := hSw; first | (go_simp; done) | (go_simp; with_reducible rfl))
  try simp only [Act.put, List.setIfInBounds_toArray, List.set_cons_zero, List.set_cons_succ]
  refine wpAnyH_take (i := 3) (oi := { dst := some 27, op := Op.move (Operand.tmp 26), type := 4, pos := "text.go:34", after := #[{ on := 2, ground := Ground.data }], guard := none }) (v := ?_) rfl (by kernel_rfl) (by kernel_rfl) (by kernel_rfl) (fun _ _ _ h => h) (Or.inl ⟨by rfl, ?_⟩) (by assumption) ?_
  rotate_left
  · (intro W hSw; (try dsimp only at hSw); obtain ⟨y0, y1⟩ := hSw; first | (go_simp; done) | (go_simp; with_reducible rfl))
  try simp only [Act.put, List.setIfInBounds_toArray, List.set_cons_zero, List.set_cons_succ]
  refine wpAnyH_take (i := 4) (oi := { dst := some 28, op := Op.move (Operand.tmp 9), type := 214, pos := "text.go:34", after := #[{ on := 3, ground := Ground.guard }], guard := some (3, true) }) (v := ?_) rfl (by kernel_rfl) (by kernel_rfl) (by kernel_rfl) (fun _ _ _ h => h) (Or.inl ⟨by rfl, ?_⟩) (by assumption) ?_
  rotate_left
  · (intro W hSw; (try dsimp only at hSw); obtain ⟨y0, y1⟩ := hSw; first | (go_simp; done) | (go_simp; with_reducible rfl))
  try simp only [Act.put, List.setIfInBounds_toArray, List.set_cons_zero, List.set_cons_succ]
  refine wpAnyH_take (i := 5) (oi := { dst := some 29, op := Op.binOp BinOp.eql 214 (Operand.tmp 28) (Operand.const Value.nilIface) 214, type := 4, pos := "text.go:34", after := #[{ on := 4, ground := Ground.data }, { on := 3, ground := Ground.guard }], guard := some (3, true) }) (v := ?_) rfl (by kernel_rfl) (by kernel_rfl) (by kernel_rfl) (fun _ _ _ h => h) (Or.inl ⟨by rfl, ?_⟩) (by assumption) ?_
  rotate_left
  · (intro W hSw; (try dsimp only at hSw); obtain ⟨y0, y1⟩ := hSw; first | (go_simp; done) | (go_simp; with_reducible rfl))
  try simp only [Act.put, List.setIfInBounds_toArray, List.set_cons_zero, List.set_cons_succ]
  refine wpAnyH_take (i := 6) (oi := { dst := some 30, op := Op.pick (Operand.tmp 27) (Operand.tmp 29) (Operand.const (Value.bool false)), type := 4, pos := "text.go:34", after := #[{ on := 3, ground := Ground.data }, { on := 5, ground := Ground.data }], guard := none }) (v := ?_) rfl (by kernel_rfl) (by kernel_rfl) (by kernel_rfl) (fun _ _ _ h => h) (Or.inl ⟨by rfl, ?_⟩) (by assumption) ?_
  rotate_left
  · (intro W hSw; (try dsimp only at hSw); obtain ⟨y0, y1⟩ := hSw; first | (go_simp; done) | (go_simp; with_reducible rfl))
  try simp only [Act.put, List.setIfInBounds_toArray, List.set_cons_zero, List.set_cons_succ]
  refine wpAnyH_take (i := 7) (oi := { dst := some 31, op := Op.move (Operand.tmp 30), type := 4, pos := "text.go:34", after := #[{ on := 6, ground := Ground.data }, { on := 3, ground := Ground.chain }], guard := none }) (v := ?_) rfl (by kernel_rfl) (by kernel_rfl) (by kernel_rfl) (fun _ _ _ h => h) (Or.inl ⟨by rfl, ?_⟩) (by assumption) ?_
  rotate_left
  · (intro W hSw; (try dsimp only at hSw); obtain ⟨y0, y1⟩ := hSw; first | (go_simp; done) | (go_simp; with_reducible rfl))
  try simp only [Act.put, List.setIfInBounds_toArray, List.set_cons_zero, List.set_cons_succ]
  refine wpAnyH_take (i := 8) (oi := { dst := some 32, op := Op.load 77 (Operand.tmp 10), type := 77, pos := "text.go:34", after := #[{ on := 7, ground := Ground.guard }], guard := some (7, true) }) (v := undef) rfl (by kernel_rfl) (by kernel_rfl) (by kernel_rfl) (fun _ _ _ h => h) (Or.inr ⟨by rfl, rfl⟩) (by assumption) ?_
  try simp only [Act.put, List.setIfInBounds_toArray, List.set_cons_zero, List.set_cons_succ]
  refine wpAnyH_take (i := 9) (oi := { dst := some 33, op := Op.call { callee := Callee.value (Operand.func 88), args := #[Operand.tmp 32], argTypes := #[77] }, type := 4, pos := "text.go:34", after := #[{ on := 8, ground := Ground.data }, { on := 7, ground := Ground.chain }, { on := 7, ground := Ground.guard }], guard := some (7, true) }) (v := undef) rfl (by kernel_rfl) (by kernel_rfl) (by kernel_rfl) (fun _ _ _ h => h) (Or.inr ⟨by rfl, rfl⟩) (by assumption) ?_
  try simp only [Act.put, List.setIfInBounds_toArray, List.set_cons_zero, List.set_cons_succ]
  refine wpAnyH_take (i := 10) (oi := { dst := some 34, op := Op.pick (Operand.tmp 31) (Operand.tmp 33) (Operand.const (Value.bool false)), type := 4, pos := "text.go:34", after := #[{ on := 7, ground := Ground.data }, { on := 9, ground := Ground.data }, { on := 11, ground := Ground.gcOnly Departure.lateStores }], guard := none }) (v := ?_) rfl (by kernel_rfl) (by kernel_rfl) (by kernel_rfl) (fun _ _ _ h => h) (Or.inl ⟨by rfl, ?_⟩) (by assumption) ?_
  rotate_left
  · (intro W hSw; (try dsimp only at hSw); obtain ⟨y0, y1⟩ := hSw; first | (go_simp; done) | (go_simp; with_reducible rfl))
  try simp only [Act.put, List.setIfInBounds_toArray, List.set_cons_zero, List.set_cons_succ]
  refine wpAnyH_ready (rs := [11]) (by kernel_rfl) (by simp) ?_
  refine AllReadyH.cons (o := { dst := none, op := Op.store 77 (Operand.tmp 4) (Operand.tmp 24), type := 0, pos := "text.go:34", after := #[{ on := 0, ground := Ground.data }, { on := 9, ground := Ground.chain }, { on := 0, ground := Ground.phase }, { on := 1, ground := Ground.textOnly Departure.lateStores }, { on := 2, ground := Ground.textOnly Departure.lateStores }, { on := 3, ground := Ground.textOnly Departure.lateStores }, { on := 4, ground := Ground.textOnly Departure.lateStores }, { on := 5, ground := Ground.textOnly Departure.lateStores }, { on := 6, ground := Ground.textOnly Departure.lateStores }, { on := 7, ground := Ground.textOnly Departure.lateStores }, { on := 8, ground := Ground.textOnly Departure.lateStores }, { on := 9, ground := Ground.textOnly Departure.lateStoresUnsure }, { on := 10, ground := Ground.textOnly Departure.lateStores }], guard := none }) rfl (fun K hK => ?_) AllReadyH.nil
  go_simp
  refine hK.out _ _ ?_ (fun hHeld => ?_)
  · ((try dsimp only); (simp (maxDischargeDepth := 12) [go_sem, z0, z1]))
  clear hK K
  try simp only [Act.put, List.setIfInBounds_toArray, List.set_cons_zero, List.set_cons_succ]
  refine wpAnyH_take (i := 12) (oi := { dst := some 5, op := Op.assign (Operand.tmp 34), type := 4, pos := "text.go:34", after := #[{ on := 10, ground := Ground.data }, { on := 11, ground := Ground.chain }, { on := 0, ground := Ground.phase }, { on := 1, ground := Ground.phase }, { on := 2, ground := Ground.phase }, { on := 3, ground := Ground.phase }, { on := 4, ground := Ground.phase }, { on := 5, ground := Ground.phase }, { on := 6, ground := Ground.phase }, { on := 7, ground := Ground.phase }, { on := 8, ground := Ground.phase }, { on := 9, ground := Ground.phase }, { on := 10, ground := Ground.phase }, { on := 11, ground := Ground.phase }], guard := none }) (v := ?_) rfl (by kernel_rfl) (by kernel_rfl) (by kernel_rfl) (fun _ _ _ h => h) (Or.inl ⟨by rfl, ?_⟩) (by assumption) ?_
  rotate_left
  · (intro W hSw; (try dsimp only at hSw); obtain ⟨y0, y1⟩ := hSw; first | (go_simp; done) | (go_simp; with_reducible rfl))
  try simp only [Act.put, List.setIfInBounds_toArray, List.set_cons_zero, List.set_cons_succ]
  refine wpAnyH_done (by kernel_rfl) ?_ _
  go_wp2
  refine bodyPost_ret_by (v := .tuple #[.agg #[.int .i64 n, .int .i64 m], .bool false]) ?_ rfl ⟨rfl, ?_⟩
  · simp [results, Tryz.results142, go_sem, r0, r1]
  · exact (B3.drew.setCell (p := ⟨w.heap.size, 0, none⟩) (Nat.le_refl _) _).setCell (p := ⟨w.heap.size, 1, none⟩) (Nat.le_refl _) _

set_option maxRecDepth 20000 in
set_option maxHeartbeats 2000000 in
theorem pair_c (X Y : ByteArray) (n m : Int) (w : World) (g : Bool) (hg : (ok1 n && ok1 m) = g)
    (AX : ∀ W, Below w.heap.size w W → Calls Tryz.prog 207 #[.string X] W fun e w' => e = .returned (.tuple #[.int .i64 n, .nilIface]) ∧ Below W.heap.size W w')
    (AY : ∀ W, Below w.heap.size w W → Calls Tryz.prog 207 #[.string Y] W fun e w' => e = .returned (.tuple #[.int .i64 m, .nilIface]) ∧ Below W.heap.size W w') :
    Calls Tryz.prog 142 #[.string X, .string Y] w fun e w' => e = .returned (.tuple #[.agg #[.int .i64 n, .int .i64 m], .bool g]) ∧ Below w.heap.size w w' := by
  have GR := fun W => gright_any n m W
  rw [hg] at GR
  clear hg
  have B0 : Below w.heap.size w (w.alloc (.cells #[.int .i64 0, .int .i64 0] 77)) := (Below.refl _ w).alloc (Nat.le_refl _) _
  have BR := Cbox.new w #[.int .i64 0, .int .i64 0] 77
  go_enter Tryz.func142, Tryz.ntmps142
  go_upto_region 1 with fail
  generalize w.alloc (.cells #[.int .i64 0, .int .i64 0] 77) = w0 at *
  go_wp2_with fail
  refine (AX _ B0).mono ?_
  rintro e w1 ⟨rfl, b1⟩
  have B1 := below_trans B0 b1
  go_wp2_with fail
  refine (AY _ B1).mono ?_
  rintro e w2 ⟨rfl, b2⟩
  have B2 := below_trans B1 b2
  have BR2 := (BR.later b1).later b2
  have A3 : Below w2.heap.size w2 (w2.alloc (.cells #[.int .i64 n, .int .i64 m] 77)) := (Below.refl _ _).alloc (Nat.le_refl _) _
  have BP0 := Cbox.new w2 #[.int .i64 n, .int .i64 m] 77
  have BR3 := BR2.later A3
  have B3 := below_trans B2 A3
  go_upto_region 4 with fail
  generalize w2.alloc (.cells #[.int .i64 n, .int .i64 m] 77) = w3 at *
  have BP : Hid (Cbox w3 w2.heap.size #[.int .i64 n, .int .i64 m] 77) := BP0
  have z0 := BP.out.at 0
  have z1 := BP.out.at 1
  have hlw := BR2.lt
  have hne1 : ¬ w.heap.size = w2.heap.size := by omega
  have hne2 : ¬ w2.heap.size = w.heap.size := by omega
  have BRh : Hid (Cbox w3 w.heap.size #[.int .i64 0, .int .i64 0] 77) := BR3
  have r0 := BR3.at 0
  have r1 := BR3.at 1
  have rl := BR3.lt
  have f0 := BR3.free 0
  have f1 := BR3.free 1
  have hbw : w.heap.size ≤ w3.heap.size := B3.size
  clear BP0 BR2 BR BR3 A3 AX AY
  refine wp_region_held_drew (S := (fun W => W.cell? ⟨w2.heap.size, 0, none⟩ = some (.int .i64 n) ∧ W.cell? ⟨w2.heap.size, 1, none⟩ = some (.int .i64 m))) (by kernel_rfl) ?_ (fun hHeld => ?_)
  · ((try dsimp only); exact ⟨z0, z1⟩)
  refine wpAnyH_take (i := 0) (oi := { dst := some 24, op := Op.load 77 (Operand.tmp 10), type := 77, pos := "text.go:34", after := #[], guard := none }) (v := ?_) rfl (by kernel_rfl) (by kernel_rfl) (by kernel_rfl) (fun _ _ _ h => h) (Or.inl ⟨by rfl, ?_⟩) (by assumption) ?_
  rotate_left
  · (intro W hSw; (try dsimp only at hSw); obtain ⟨y0, y1⟩ := hSw; first | (go_simp; done) | (go_simp; with_reducible rfl))
  try simp only [Act.put, List.setIfInBounds_toArray, List.set_cons_zero, List.set_cons_succ]
  refine wpAnyH_take (i := 1) (oi := { dst := some 25, op := Op.move (Operand.tmp 7), type := 214, pos := "text.go:34", after := #[], guard := none }) (v := ?_) rfl (by kernel_rfl) (by kernel_rfl) (by kernel_rfl) (fun _ _ _ h => h) (Or.inl ⟨by rfl, ?_⟩) (by assumption) ?_
  rotate_left
  · (intro W hSw; (try dsimp only at hSw); obtain ⟨y0, y1⟩ := hSw; first | (go_simp; done) | (go_simp; with_reducible rfl))
  try simp only [Act.put, List.setIfInBounds_toArray, List.set_cons_zero, List.set_cons_succ]
  refine wpAnyH_take (i := 2) (oi := { dst := some 26, op := Op.binOp BinOp.eql 214 (Operand.tmp 25) (Operand.const Value.nilIface) 214, type := 4, pos := "text.go:34", after := #[{ on := 1, ground := Ground.data }], guard := none }) (v := ?_) rfl (by kernel_rfl) (by kernel_rfl) (by kernel_rfl) (fun _ _ _ h => h) (Or.inl ⟨by rfl, ?_⟩) (by assumption) ?_
  rotate_left
  · (intro W hSw; (try dsimp only at hSw); obtain ⟨y0, y1⟩ := hSw; first | (go_simp; done) | (go_simp; with_reducible rfl))
  try simp only [Act.put, List.setIfInBounds_toArray, List.set_cons_zero, List.set_cons_succ]
  refine wpAnyH_take (i := 3) (oi := { dst := some 27, op := Op.move (Operand.tmp 26), type := 4, pos := "text.go:34", after := #[{ on := 2, ground := Ground.data }], guard := none }) (v := ?_) rfl (by kernel_rfl) (by kernel_rfl) (by kernel_rfl) (fun _ _ _ h => h) (Or.inl ⟨by rfl, ?_⟩) (by assumption) ?_
  rotate_left
  · (intro W hSw; (try dsimp only at hSw); obtain ⟨y0, y1⟩ := hSw; first | (go_simp; done) | (go_simp; with_reducible rfl))
  try simp only [Act.put, List.setIfInBounds_toArray, List.set_cons_zero, List.set_cons_succ]
  refine wpAnyH_take (i := 4) (oi := { dst := some 28, op := Op.move (Operand.tmp 9), type := 214, pos := "text.go:34", after := #[{ on := 3, ground := Ground.guard }], guard := some (3, true) }) (v := ?_) rfl (by kernel_rfl) (by kernel_rfl) (by kernel_rfl) (fun _ _ _ h => h) (Or.inl ⟨by rfl, ?_⟩) (by assumption) ?_
  rotate_left
  · (intro W hSw; (try dsimp only at hSw); obtain ⟨y0, y1⟩ := hSw; first | (go_simp; done) | (go_simp; with_reducible rfl))
  try simp only [Act.put, List.setIfInBounds_toArray, List.set_cons_zero, List.set_cons_succ]
  refine wpAnyH_take (i := 5) (oi := { dst := some 29, op := Op.binOp BinOp.eql 214 (Operand.tmp 28) (Operand.const Value.nilIface) 214, type := 4, pos := "text.go:34", after := #[{ on := 4, ground := Ground.data }, { on := 3, ground := Ground.guard }], guard := some (3, true) }) (v := ?_) rfl (by kernel_rfl) (by kernel_rfl) (by kernel_rfl) (fun _ _ _ h => h) (Or.inl ⟨by rfl, ?_⟩) (by assumption) ?_
  rotate_left
  · (intro W hSw; (try dsimp only at hSw); obtain ⟨y0, y1⟩ := hSw; first | (go_simp; done) | (go_simp; with_reducible rfl))
  try simp only [Act.put, List.setIfInBounds_toArray, List.set_cons_zero, List.set_cons_succ]
  refine wpAnyH_take (i := 6) (oi := { dst := some 30, op := Op.pick (Operand.tmp 27) (Operand.tmp 29) (Operand.const (Value.bool false)), type := 4, pos := "text.go:34", after := #[{ on := 3, ground := Ground.data }, { on := 5, ground := Ground.data }], guard := none }) (v := ?_) rfl (by kernel_rfl) (by kernel_rfl) (by kernel_rfl) (fun _ _ _ h => h) (Or.inl ⟨by rfl, ?_⟩) (by assumption) ?_
  rotate_left
  · (intro W hSw; (try dsimp only at hSw); obtain ⟨y0, y1⟩ := hSw; first | (go_simp; done) | (go_simp; with_reducible rfl))
  try simp only [Act.put, List.setIfInBounds_toArray, List.set_cons_zero, List.set_cons_succ]
  refine wpAnyH_take (i := 7) (oi := { dst := some 31, op := Op.move (Operand.tmp 30), type := 4, pos := "text.go:34", after := #[{ on := 6, ground := Ground.data }, { on := 3, ground := Ground.chain }], guard := none }) (v := ?_) rfl (by kernel_rfl) (by kernel_rfl) (by kernel_rfl) (fun _ _ _ h => h) (Or.inl ⟨by rfl, ?_⟩) (by assumption) ?_
  rotate_left
  · (intro W hSw; (try dsimp only at hSw); obtain ⟨y0, y1⟩ := hSw; first | (go_simp; done) | (go_simp; with_reducible rfl))
  try simp only [Act.put, List.setIfInBounds_toArray, List.set_cons_zero, List.set_cons_succ]
  refine wpAnyH_take (i := 8) (oi := { dst := some 32, op := Op.load 77 (Operand.tmp 10), type := 77, pos := "text.go:34", after := #[{ on := 7, ground := Ground.guard }], guard := some (7, true) }) (v := ?_) rfl (by kernel_rfl) (by kernel_rfl) (by kernel_rfl) (fun _ _ _ h => h) (Or.inl ⟨by rfl, ?_⟩) (by assumption) ?_
  rotate_left
  · (intro W hSw; (try dsimp only at hSw); obtain ⟨y0, y1⟩ := hSw; first | (go_simp; done) | (go_simp; with_reducible rfl))
  try simp only [Act.put, List.setIfInBounds_toArray, List.set_cons_zero, List.set_cons_succ]
  refine wpAnyH_ready (rs := [9]) (by kernel_rfl) (by simp) ?_
  refine AllReadyH.cons (o := { dst := some 33, op := Op.call { callee := Callee.value (Operand.func 88), args := #[Operand.tmp 32], argTypes := #[77] }, type := 4, pos := "text.go:34", after := #[{ on := 8, ground := Ground.data }, { on := 7, ground := Ground.chain }, { on := 7, ground := Ground.guard }], guard := some (7, true) }) rfl (fun K hK => ?_) AllReadyH.nil
  go_simp
  (refine (GR _).mono ?_; rintro e w4 ⟨rfl, g4⟩; have b4 := g4.below; have b34 : Below w3.heap.size w3 w4 := below_trans ((Below.refl _ w3).drew) b4; have B4 := below_trans B3 b34; have z0 := (BP.out.later b34).at 0; have z1 := (BP.out.later b34).at 1; have r0 := (BRh.out.later b34).at 0; have r1 := (BRh.out.later b34).at 1; have rl := (BRh.out.later b34).lt; have f0 := (BRh.out.later b34).free 0; have f1 := (BRh.out.later b34).free 1)
  refine hK.out _ _ ?_ (fun hHeld => ?_)
  · ((try dsimp only); (first | exact ⟨z0, z1⟩ | (simp (maxDischargeDepth := 12) [go_sem, z0, z1])))
  clear hK K
  try simp only [Act.put, List.setIfInBounds_toArray, List.set_cons_zero, List.set_cons_succ]
  refine wpAnyH_take (i := 10) (oi := { dst := some 34, op := Op.pick (Operand.tmp 31) (Operand.tmp 33) (Operand.const (Value.bool false)), type := 4, pos := "text.go:34", after := #[{ on := 7, ground := Ground.data }, { on := 9, ground := Ground.data }, { on := 11, ground := Ground.gcOnly Departure.lateStores }], guard := none }) (v := ?_) rfl (by kernel_rfl) (by kernel_rfl) (by kernel_rfl) (fun _ _ _ h => h) (Or.inl ⟨by rfl, ?_⟩) (by assumption) ?_
  rotate_left
  · (intro W hSw; (try dsimp only at hSw); obtain ⟨y0, y1⟩ := hSw; first | (go_simp; done) | (go_simp; with_reducible rfl))
  try simp only [Act.put, List.setIfInBounds_toArray, List.set_cons_zero, List.set_cons_succ]
  refine wpAnyH_ready (rs := [11]) (by kernel_rfl) (by simp) ?_
  refine AllReadyH.cons (o := { dst := none, op := Op.store 77 (Operand.tmp 4) (Operand.tmp 24), type := 0, pos := "text.go:34", after := #[{ on := 0, ground := Ground.data }, { on := 9, ground := Ground.chain }, { on := 0, ground := Ground.phase }, { on := 1, ground := Ground.textOnly Departure.lateStores }, { on := 2, ground := Ground.textOnly Departure.lateStores }, { on := 3, ground := Ground.textOnly Departure.lateStores }, { on := 4, ground := Ground.textOnly Departure.lateStores }, { on := 5, ground := Ground.textOnly Departure.lateStores }, { on := 6, ground := Ground.textOnly Departure.lateStores }, { on := 7, ground := Ground.textOnly Departure.lateStores }, { on := 8, ground := Ground.textOnly Departure.lateStores }, { on := 9, ground := Ground.textOnly Departure.lateStoresUnsure }, { on := 10, ground := Ground.textOnly Departure.lateStores }], guard := none }) rfl (fun K hK => ?_) AllReadyH.nil
  go_simp
  refine hK.out _ _ ?_ (fun hHeld => ?_)
  · ((try dsimp only); (first | exact ⟨z0, z1⟩ | (simp (maxDischargeDepth := 12) [go_sem, z0, z1])))
  clear hK K
  try simp only [Act.put, List.setIfInBounds_toArray, List.set_cons_zero, List.set_cons_succ]
  refine wpAnyH_take (i := 12) (oi := { dst := some 5, op := Op.assign (Operand.tmp 34), type := 4, pos := "text.go:34", after := #[{ on := 10, ground := Ground.data }, { on := 11, ground := Ground.chain }, { on := 0, ground := Ground.phase }, { on := 1, ground := Ground.phase }, { on := 2, ground := Ground.phase }, { on := 3, ground := Ground.phase }, { on := 4, ground := Ground.phase }, { on := 5, ground := Ground.phase }, { on := 6, ground := Ground.phase }, { on := 7, ground := Ground.phase }, { on := 8, ground := Ground.phase }, { on := 9, ground := Ground.phase }, { on := 10, ground := Ground.phase }, { on := 11, ground := Ground.phase }], guard := none }) (v := ?_) rfl (by kernel_rfl) (by kernel_rfl) (by kernel_rfl) (fun _ _ _ h => h) (Or.inl ⟨by rfl, ?_⟩) (by assumption) ?_
  rotate_left
  · (intro W hSw; (try dsimp only at hSw); obtain ⟨y0, y1⟩ := hSw; first | (go_simp; done) | (go_simp; with_reducible rfl))
  try simp only [Act.put, List.setIfInBounds_toArray, List.set_cons_zero, List.set_cons_succ]
  refine wpAnyH_done (by kernel_rfl) ?_ _
  go_wp2
  refine bodyPost_ret_by (v := .tuple #[.agg #[.int .i64 n, .int .i64 m], .bool g]) ?_ rfl ⟨rfl, ?_⟩
  · simp [results, Tryz.results142, go_sem, r0, r1]
  · exact (B4.setCell (p := ⟨w.heap.size, 0, none⟩) (Nat.le_refl _) _).setCell (p := ⟨w.heap.size, 1, none⟩) (Nat.le_refl _) _

/-- What gauss.pair gives. -/
theorem pair_all (x y : List UInt8) (w : World) (hE : Ers w) (hx : x.length ≤ 281474976710656) (hy : y.length ≤ 281474976710656) :
    Calls Tryz.prog 142 #[.string ⟨x.toArray⟩, .string ⟨y.toArray⟩] w fun e w' => e = .returned (.tuple #[.agg #[.int .i64 (atN x), .int .i64 (atN y)], .bool (atB x && atB y && (ok1 (atN x) && ok1 (atN y)))]) ∧ Below w.heap.size w w' := by
  cases hX : atB x <;> cases hY : atB y
  · exact pair_a _ _ _ _ w (fun W h => atoiNo_any x W hx (hE.later h) hX) (fun W h => atoiNo_any y W hy (hE.later h) hY)
  · exact pair_d _ _ _ _ w (fun W h => atoiNo_any x W hx (hE.later h) hX) (fun W h => atoiOk_any y W hy hY)
  · exact pair_b _ _ _ _ w (fun W h => atoiOk_any x W hx hX) (fun W h => atoiNo_any y W hy (hE.later h) hY)
  · exact pair_c _ _ _ _ w _ rfl (fun W h => atoiOk_any x W hx hX) (fun W h => atoiOk_any y W hy hY)

set_option maxRecDepth 20000 in
set_option maxHeartbeats 2000000 in
theorem gprint_ok (x y : Int) (w : World) (hP : Ptab w) (h : (ok1 x && ok1 y) = true) :
    Calls Tryz.prog 39 #[.agg #[.int .i64 x, .int .i64 y]] w fun e w' => e = .returned (.string ⟨(gtx x y).toArray⟩) ∧ Below w.heap.size w w' := by
  have GR := fun W => gright_any x y W
  rw [h] at GR
  have hx := (ok1_iff x).1 (by simp at h; exact h.1)
  have hy := (ok1_iff y).1 (by simp at h; exact h.2)
  have IX : ∀ W, Below w.heap.size w W → _ := fun W hb => itoa_any x W (by omega) (by omega) (hP.later hb)
  have IY : ∀ W, Below w.heap.size w W → _ := fun W hb => itoa_any y W (by omega) (by omega) (hP.later hb)
  have lx := itx_len x hx.1 hx.2
  have ly := itx_len y hy.1 hy.2
  have HE : Hid (gtx x y = 60 :: (itx x ++ 44 :: (itx y ++ [62]))) := rfl
  have B0 : Below w.heap.size w (w.alloc (.cells #[.int .i64 x, .int .i64 y] 77)) := (Below.refl _ w).alloc (Nat.le_refl _) _
  have BX := Cbox.new w #[.int .i64 x, .int .i64 y] 77
  have z0 := BX.at 0
  have z1 := BX.at 1
  obtain ⟨X, hX⟩ : ∃ X, X = ByteArray.mk (itx x).toArray := ⟨_, rfl⟩
  obtain ⟨Y, hY⟩ : ∃ Y, Y = ByteArray.mk (itx y).toArray := ⟨_, rfl⟩
  have hRs : Hid (((⟨#[60]⟩ ++ X) ++ ⟨#[44]⟩ ++ Y) ++ ⟨#[62]⟩ = ByteArray.mk (gtx x y).toArray) := by
    show _ = _
    rw [hX, hY, HE.out]
    apply ByteArray.ext
    simp
  have sX : X.size ≤ 8 := by rw [hX]; exact lx
  have sY : Y.size ≤ 8 := by rw [hY]; exact ly
  have q1 : ¬ 9223372036854775807 < 1 + X.size := by omega
  have q2 : ¬ 9223372036854775807 < 1 + X.size + 1 := by omega
  have q3 : ¬ 9223372036854775807 < 1 + X.size + 1 + Y.size := by omega
  have q4 : ¬ 9223372036854775807 < 1 + X.size + 1 + Y.size + 1 := by omega
  rw [← hX] at IX
  rw [← hY] at IY
  clear hX hY HE lx ly hx hy h
  generalize ByteArray.mk (gtx x y).toArray = R at *
  go_enter Tryz.func39, Tryz.ntmps39
  go_upto_region 1 with fail
  generalize w.alloc (.cells #[.int .i64 x, .int .i64 y] 77) = w0 at *
  go_wp2_with fail
  refine (GR _).mono ?_
  rintro e w1 ⟨rfl, g1⟩
  have B1 := below_trans B0 g1.below
  have BX1 := BX.later g1.below
  have z0 := BX1.at 0
  have z1 := BX1.at 1
  clear BX
  go_upto_region 3 with fail
  refine wp_region_held_drew (S := (fun W => W.cell? ⟨w.heap.size, 0, none⟩ = some (.int .i64 x) ∧ W.cell? ⟨w.heap.size, 1, none⟩ = some (.int .i64 y))) (by kernel_rfl) ?_ (fun hHeld => ?_)
  · ((try dsimp only); exact ⟨z0, z1⟩)
  refine wpAnyH_take (i := 0) (oi := { dst := some 6, op := Op.fieldAddr 77 (Operand.tmp 1) 0, type := 0, pos := "text.go:15", after := #[], guard := none }) (v := ?_) rfl (by kernel_rfl) (by kernel_rfl) (by kernel_rfl) (fun _ _ _ h => h) (Or.inl ⟨by rfl, ?_⟩) (by assumption) ?_
  rotate_left
  · (intro W hSw; (try dsimp only at hSw); obtain ⟨y0, y1⟩ := hSw; first | (go_simp; done) | (go_simp; with_reducible rfl))
  try simp only [Act.put, List.setIfInBounds_toArray, List.set_cons_zero, List.set_cons_succ]
  refine wpAnyH_take (i := 1) (oi := { dst := some 7, op := Op.load 3 (Operand.tmp 6), type := 3, pos := "text.go:15", after := #[{ on := 0, ground := Ground.data }], guard := none }) (v := ?_) rfl (by kernel_rfl) (by kernel_rfl) (by kernel_rfl) (fun _ _ _ h => h) (Or.inl ⟨by rfl, ?_⟩) (by assumption) ?_
  rotate_left
  · (intro W hSw; (try dsimp only at hSw); obtain ⟨y0, y1⟩ := hSw; first | (go_simp; done) | (go_simp; with_reducible rfl))
  try simp only [Act.put, List.setIfInBounds_toArray, List.set_cons_zero, List.set_cons_succ]
  refine wpAnyH_take (i := 5) (oi := { dst := some 11, op := Op.fieldAddr 77 (Operand.tmp 1) 1, type := 0, pos := "text.go:15", after := #[], guard := none }) (v := ?_) rfl (by kernel_rfl) (by kernel_rfl) (by kernel_rfl) (fun _ _ _ h => h) (Or.inl ⟨by rfl, ?_⟩) (by assumption) ?_
  rotate_left
  · (intro W hSw; (try dsimp only at hSw); obtain ⟨y0, y1⟩ := hSw; first | (go_simp; done) | (go_simp; with_reducible rfl))
  try simp only [Act.put, List.setIfInBounds_toArray, List.set_cons_zero, List.set_cons_succ]
  refine wpAnyH_take (i := 6) (oi := { dst := some 12, op := Op.load 3 (Operand.tmp 11), type := 3, pos := "text.go:15", after := #[{ on := 5, ground := Ground.data }], guard := none }) (v := ?_) rfl (by kernel_rfl) (by kernel_rfl) (by kernel_rfl) (fun _ _ _ h => h) (Or.inl ⟨by rfl, ?_⟩) (by assumption) ?_
  rotate_left
  · (intro W hSw; (try dsimp only at hSw); obtain ⟨y0, y1⟩ := hSw; first | (go_simp; done) | (go_simp; with_reducible rfl))
  try simp only [Act.put, List.setIfInBounds_toArray, List.set_cons_zero, List.set_cons_succ]
  refine wpAnyH_ready (rs := [2]) (by kernel_rfl) (by simp) ?_
  refine AllReadyH.cons (o := { dst := some 8, op := Op.call { callee := Callee.value (Operand.func 35), args := #[Operand.tmp 7], argTypes := #[3] }, type := 9, pos := "text.go:15", after := #[{ on := 1, ground := Ground.data }], guard := none }) rfl (fun K hK => ?_) AllReadyH.nil
  go_simp
  (refine (IX _ (by first | exact B1 | exact B1.drew)).mono ?_; rintro e w2 ⟨rfl, g2⟩; have b2 : Below w1.heap.size w1 w2 := (by first | exact below_trans ((Below.refl _ w1).drew) g2.below | exact g2.below); have B2 := below_trans B1 b2; have BX2 := BX1.later b2; have z0 := BX2.at 0; have z1 := BX2.at 1)
  refine hK.out _ _ ?_ (fun hHeld => ?_)
  · ((try dsimp only); (first | exact ⟨z0, z1⟩ | (simp (maxDischargeDepth := 12) [go_sem, z0, z1])))
  clear hK K
  try simp only [Act.put, List.setIfInBounds_toArray, List.set_cons_zero, List.set_cons_succ]
  refine wpAnyH_take (i := 3) (oi := { dst := some 9, op := Op.binOp BinOp.add 9 (Operand.const (Value.string { data := #[60] })) (Operand.tmp 8) 9, type := 9, pos := "text.go:15", after := #[{ on := 2, ground := Ground.data }], guard := none }) (v := ?_) rfl (by kernel_rfl) (by kernel_rfl) (by kernel_rfl) (fun _ _ _ h => h) (Or.inl ⟨by rfl, ?_⟩) (by assumption) ?_
  rotate_left
  · (intro W hSw; (try dsimp only at hSw); obtain ⟨y0, y1⟩ := hSw; first | (go_simp; done) | (go_simp; with_reducible rfl))
  try simp only [Act.put, List.setIfInBounds_toArray, List.set_cons_zero, List.set_cons_succ]
  refine wpAnyH_take (i := 4) (oi := { dst := some 10, op := Op.binOp BinOp.add 9 (Operand.tmp 9) (Operand.const (Value.string { data := #[44] })) 9, type := 9, pos := "text.go:15", after := #[{ on := 3, ground := Ground.data }], guard := none }) (v := ?_) rfl (by kernel_rfl) (by kernel_rfl) (by kernel_rfl) (fun _ _ _ h => h) (Or.inl ⟨by rfl, ?_⟩) (by assumption) ?_
  rotate_left
  · (intro W hSw; (try dsimp only at hSw); obtain ⟨y0, y1⟩ := hSw; first | (go_simp; done) | (go_simp; with_reducible rfl))
  try simp only [Act.put, List.setIfInBounds_toArray, List.set_cons_zero, List.set_cons_succ]
  refine wpAnyH_ready (rs := [7]) (by kernel_rfl) (by simp) ?_
  refine AllReadyH.cons (o := { dst := some 13, op := Op.call { callee := Callee.value (Operand.func 35), args := #[Operand.tmp 12], argTypes := #[3] }, type := 9, pos := "text.go:15", after := #[{ on := 6, ground := Ground.data }, { on := 2, ground := Ground.chain }], guard := none }) rfl (fun K hK => ?_) AllReadyH.nil
  go_simp
  (refine (IY _ (by first | exact B2 | exact B2.drew)).mono ?_; rintro e w3 ⟨rfl, g3⟩; have b3 : Below w2.heap.size w2 w3 := (by first | exact below_trans ((Below.refl _ w2).drew) g3.below | exact g3.below); have B3 := below_trans B2 b3; have BX3 := BX2.later b3; have z0 := BX3.at 0; have z1 := BX3.at 1)
  refine hK.out _ _ ?_ (fun hHeld => ?_)
  · ((try dsimp only); (first | exact ⟨z0, z1⟩ | (simp (maxDischargeDepth := 12) [go_sem, z0, z1])))
  clear hK K
  try simp only [Act.put, List.setIfInBounds_toArray, List.set_cons_zero, List.set_cons_succ]
  refine wpAnyH_take (i := 8) (oi := { dst := some 14, op := Op.binOp BinOp.add 9 (Operand.tmp 10) (Operand.tmp 13) 9, type := 9, pos := "text.go:15", after := #[{ on := 4, ground := Ground.data }, { on := 7, ground := Ground.data }], guard := none }) (v := ?_) rfl (by kernel_rfl) (by kernel_rfl) (by kernel_rfl) (fun _ _ _ h => h) (Or.inl ⟨by rfl, ?_⟩) (by assumption) ?_
  rotate_left
  · (intro W hSw; (try dsimp only at hSw); obtain ⟨y0, y1⟩ := hSw; first | (go_simp; done) | (go_simp; with_reducible rfl))
  try simp only [Act.put, List.setIfInBounds_toArray, List.set_cons_zero, List.set_cons_succ]
  refine wpAnyH_take (i := 9) (oi := { dst := some 15, op := Op.binOp BinOp.add 9 (Operand.tmp 14) (Operand.const (Value.string { data := #[62] })) 9, type := 9, pos := "text.go:15", after := #[{ on := 8, ground := Ground.data }], guard := none }) (v := ?_) rfl (by kernel_rfl) (by kernel_rfl) (by kernel_rfl) (fun _ _ _ h => h) (Or.inl ⟨by rfl, ?_⟩) (by assumption) ?_
  rotate_left
  · (intro W hSw; (try dsimp only at hSw); obtain ⟨y0, y1⟩ := hSw; first | (go_simp; done) | (go_simp; with_reducible rfl))
  try simp only [Act.put, List.setIfInBounds_toArray, List.set_cons_zero, List.set_cons_succ]
  refine wpAnyH_take (i := 10) (oi := { dst := some 2, op := Op.assign (Operand.tmp 15), type := 9, pos := "text.go:15", after := #[{ on := 9, ground := Ground.data }, { on := 7, ground := Ground.chain }, { on := 0, ground := Ground.phase }, { on := 1, ground := Ground.phase }, { on := 2, ground := Ground.phase }, { on := 3, ground := Ground.phase }, { on := 4, ground := Ground.phase }, { on := 5, ground := Ground.phase }, { on := 6, ground := Ground.phase }, { on := 7, ground := Ground.phase }, { on := 8, ground := Ground.phase }, { on := 9, ground := Ground.phase }], guard := none }) (v := ?_) rfl (by kernel_rfl) (by kernel_rfl) (by kernel_rfl) (fun _ _ _ h => h) (Or.inl ⟨by rfl, ?_⟩) (by assumption) ?_
  rotate_left
  · (intro W hSw; (try dsimp only at hSw); obtain ⟨y0, y1⟩ := hSw; first | (go_simp; done) | (go_simp; with_reducible rfl))
  try simp only [Act.put, List.setIfInBounds_toArray, List.set_cons_zero, List.set_cons_succ]
  refine wpAnyH_done (by kernel_rfl) ?_ _
  go_wp2
  refine bodyPost_ret_by (v := .string R) ?_ rfl ⟨rfl, ?_⟩
  · simp [results, Tryz.results39, go_sem]
    exact hRs.out
  · exact B3
theorem gprint_no (x y : Int) (w : World) (h : (ok1 x && ok1 y) = false) :
    Calls Tryz.prog 39 #[.agg #[.int .i64 x, .int .i64 y]] w fun e w' => e = .returned (.string ⟨#[]⟩) ∧ Below w.heap.size w w' := by
  have GR := fun W => gright_any x y W
  rw [h] at GR
  have B0 : Below w.heap.size w (w.alloc (.cells #[.int .i64 x, .int .i64 y] 77)) := (Below.refl _ w).alloc (Nat.le_refl _) _
  have BX := Cbox.new w #[.int .i64 x, .int .i64 y] 77
  have z0 := BX.at 0
  have z1 := BX.at 1
  clear h
  go_enter Tryz.func39, Tryz.ntmps39
  go_upto_region 1 with fail
  generalize w.alloc (.cells #[.int .i64 x, .int .i64 y] 77) = w0 at *
  go_wp2_with fail
  refine (GR _).mono ?_
  rintro e w1 ⟨rfl, g1⟩
  have B1 := below_trans B0 g1.below
  go_wp2
  go_ret
  exact ⟨rfl, B1⟩
/-- The text of whatever point. -/
theorem gprint_any (x y : Int) (w : World) (hP : Ptab w) : Calls Tryz.prog 39 #[.agg #[.int .i64 x, .int .i64 y]] w fun e w' => e = .returned (.string ⟨(ptx x y).toArray⟩) ∧ Below w.heap.size w w' := by
  unfold ptx
  cases h : (ok1 x && ok1 y)
  · rw [if_neg (by simp)]; exact gprint_no x y w h
  · rw [if_pos rfl]; exact gprint_ok x y w hP h

set_option maxRecDepth 20000 in
set_option maxHeartbeats 2000000 in
theorem parse_a (LB TB X Y PB : ByteArray) (n m : Int) (bc : Bool) (w : World)
    (TR : ∀ W, Calls Tryz.prog 141 #[.string LB, .string ⟨#[60, 62]⟩] W fun e w' => e = .returned (.string TB) ∧ Below W.heap.size W w')
    (CU : ∀ W, Calls Tryz.prog 140 #[.string TB, .string ⟨#[44]⟩] W fun e w' => e = .returned (.tuple #[.string X, .string Y, .bool bc]) ∧ Grew W w')
    (PA : ∀ W, Below w.heap.size w W → Calls Tryz.prog 142 #[.string X, .string Y] W fun e w' => e = .returned (.tuple #[.agg #[.int .i64 n, .int .i64 m], .bool false]) ∧ Below W.heap.size W w')
    (_PR : ∀ W, Below w.heap.size w W → Calls Tryz.prog 39 #[.agg #[.int .i64 n, .int .i64 m]] W fun e w' => e = .returned (.string PB) ∧ Below W.heap.size W w')
    (_ : True) :
    Calls Tryz.prog 75 #[.string LB] w fun e w' => e = .returned (.tuple #[.agg #[.int .i64 0, .int .i64 0], .int .i64 21]) ∧ Below w.heap.size w w' := by
  clear _PR
  have B0 : Below w.heap.size w (w.alloc (.cells #[.int .i64 0, .int .i64 0] 77)) := (Below.refl _ w).alloc (Nat.le_refl _) _
  have BR := Cbox.new w #[.int .i64 0, .int .i64 0] 77
  go_enter Tryz.func75, Tryz.ntmps75
  go_upto_region 1 with fail
  generalize w.alloc (.cells #[.int .i64 0, .int .i64 0] 77) = w0 at *
  go_wp2_with fail
  refine (TR _).mono ?_
  rintro e w1 ⟨rfl, b1⟩
  have B1 := below_trans B0 b1
  go_wp2_with fail
  refine (CU _).mono ?_
  rintro e w2 ⟨rfl, g2⟩
  have b2 := g2.below
  have B2 := below_trans B1 b2
  go_wp2_with fail
  refine (PA _ B2).mono ?_
  rintro e w3 ⟨rfl, b3⟩
  have B3 := below_trans B2 b3
  have BR3 := ((BR.later b1).later b2).later b3
  have hbw : w.heap.size ≤ w3.heap.size := B3.size
  clear BR
  have r0 := BR3.at 0
  have r1 := BR3.at 1
  have rl := BR3.lt
  have f0 := BR3.free 0
  have f1 := BR3.free 1
  clear BR3
  go_wp2
  refine bodyPost_ret_by (v := .tuple #[.agg #[.int .i64 0, .int .i64 0], .int .i64 21]) ?_ rfl ⟨rfl, ?_⟩
  · simp [results, Tryz.results75, go_sem, r0, r1, rl]
  · exact Below.alloc ((B3.setCell (p := ⟨w.heap.size, 0, none⟩) (Nat.le_refl _) _).setCell (p := ⟨w.heap.size, 1, none⟩) (Nat.le_refl _) _) (by simp; omega) _

set_option maxRecDepth 20000 in
set_option maxHeartbeats 2000000 in
theorem parse_b (LB TB X Y PB : ByteArray) (n m : Int) (bc : Bool) (w : World)
    (TR : ∀ W, Calls Tryz.prog 141 #[.string LB, .string ⟨#[60, 62]⟩] W fun e w' => e = .returned (.string TB) ∧ Below W.heap.size W w')
    (CU : ∀ W, Calls Tryz.prog 140 #[.string TB, .string ⟨#[44]⟩] W fun e w' => e = .returned (.tuple #[.string X, .string Y, .bool bc]) ∧ Grew W w')
    (PA : ∀ W, Below w.heap.size w W → Calls Tryz.prog 142 #[.string X, .string Y] W fun e w' => e = .returned (.tuple #[.agg #[.int .i64 n, .int .i64 m], .bool true]) ∧ Below W.heap.size W w')
    (PR : ∀ W, Below w.heap.size w W → Calls Tryz.prog 39 #[.agg #[.int .i64 n, .int .i64 m]] W fun e w' => e = .returned (.string PB) ∧ Below W.heap.size W w')
    (heq : (PB.toList == LB.toList) = false) :
    Calls Tryz.prog 75 #[.string LB] w fun e w' => e = .returned (.tuple #[.agg #[.int .i64 0, .int .i64 0], .int .i64 21]) ∧ Below w.heap.size w w' := by
  have B0 : Below w.heap.size w (w.alloc (.cells #[.int .i64 0, .int .i64 0] 77)) := (Below.refl _ w).alloc (Nat.le_refl _) _
  have BR := Cbox.new w #[.int .i64 0, .int .i64 0] 77
  go_enter Tryz.func75, Tryz.ntmps75
  go_upto_region 1 with fail
  generalize w.alloc (.cells #[.int .i64 0, .int .i64 0] 77) = w0 at *
  go_wp2_with fail
  refine (TR _).mono ?_
  rintro e w1 ⟨rfl, b1⟩
  have B1 := below_trans B0 b1
  go_wp2_with fail
  refine (CU _).mono ?_
  rintro e w2 ⟨rfl, g2⟩
  have b2 := g2.below
  have B2 := below_trans B1 b2
  go_wp2_with fail
  refine (PA _ B2).mono ?_
  rintro e w3 ⟨rfl, b3⟩
  have B3 := below_trans B2 b3
  have BR3 := ((BR.later b1).later b2).later b3
  have hbw : w.heap.size ≤ w3.heap.size := B3.size
  clear BR
  have A4 : Below w3.heap.size w3 (w3.alloc (.cells #[.int .i64 n, .int .i64 m] 77)) := (Below.refl _ _).alloc (Nat.le_refl _) _
  have BP := Cbox.new w3 #[.int .i64 n, .int .i64 m] 77
  have B4 := below_trans B3 A4
  have BR4 := BR3.later A4
  have h3 : ¬ w3.heap.size = w.heap.size := by have := BR3.lt; omega
  have h3' : ¬ w.heap.size = w3.heap.size := by have := BR3.lt; omega
  go_upto_region 3 with fail
  generalize w3.alloc (.cells #[.int .i64 n, .int .i64 m] 77) = w4 at *
  have z0 := BP.at 0
  have z1 := BP.at 1
  clear A4 BR3
  go_wp2_with fail
  refine (PR _ B4).mono ?_
  rintro e w5 ⟨rfl, b5⟩
  have B5 := below_trans B4 b5
  have BR5 := BR4.later b5
  have BP5 := BP.later b5
  have z0 := BP5.at 0
  have z1 := BP5.at 1
  have r0 := BR5.at 0
  have r1 := BR5.at 1
  have rl := BR5.lt
  have f0 := BR5.free 0
  have f1 := BR5.free 1
  have hb5 : w.heap.size ≤ w5.heap.size := B5.size
  clear BR5 BR4 BP BP5
  go_wp2
  refine bodyPost_ret_by (v := .tuple #[.agg #[.int .i64 0, .int .i64 0], .int .i64 21]) ?_ rfl ⟨rfl, ?_⟩
  · simp [results, Tryz.results75, go_sem, r0, r1]
  · exact (B5.setCell (p := ⟨w.heap.size, 0, none⟩) (Nat.le_refl _) _).setCell (p := ⟨w.heap.size, 1, none⟩) (Nat.le_refl _) _

set_option maxRecDepth 20000 in
set_option maxHeartbeats 2000000 in
theorem parse_c (LB TB X Y PB : ByteArray) (n m : Int) (bc : Bool) (w : World)
    (TR : ∀ W, Calls Tryz.prog 141 #[.string LB, .string ⟨#[60, 62]⟩] W fun e w' => e = .returned (.string TB) ∧ Below W.heap.size W w')
    (CU : ∀ W, Calls Tryz.prog 140 #[.string TB, .string ⟨#[44]⟩] W fun e w' => e = .returned (.tuple #[.string X, .string Y, .bool bc]) ∧ Grew W w')
    (PA : ∀ W, Below w.heap.size w W → Calls Tryz.prog 142 #[.string X, .string Y] W fun e w' => e = .returned (.tuple #[.agg #[.int .i64 n, .int .i64 m], .bool true]) ∧ Below W.heap.size W w')
    (PR : ∀ W, Below w.heap.size w W → Calls Tryz.prog 39 #[.agg #[.int .i64 n, .int .i64 m]] W fun e w' => e = .returned (.string PB) ∧ Below W.heap.size W w')
    (heq : (PB.toList == LB.toList) = true) :
    Calls Tryz.prog 75 #[.string LB] w fun e w' => e = .returned (.tuple #[.agg #[.int .i64 n, .int .i64 m], .int .i64 0]) ∧ Below w.heap.size w w' := by
  have B0 : Below w.heap.size w (w.alloc (.cells #[.int .i64 0, .int .i64 0] 77)) := (Below.refl _ w).alloc (Nat.le_refl _) _
  have BR := Cbox.new w #[.int .i64 0, .int .i64 0] 77
  go_enter Tryz.func75, Tryz.ntmps75
  go_upto_region 1 with fail
  generalize w.alloc (.cells #[.int .i64 0, .int .i64 0] 77) = w0 at *
  go_wp2_with fail
  refine (TR _).mono ?_
  rintro e w1 ⟨rfl, b1⟩
  have B1 := below_trans B0 b1
  go_wp2_with fail
  refine (CU _).mono ?_
  rintro e w2 ⟨rfl, g2⟩
  have b2 := g2.below
  have B2 := below_trans B1 b2
  go_wp2_with fail
  refine (PA _ B2).mono ?_
  rintro e w3 ⟨rfl, b3⟩
  have B3 := below_trans B2 b3
  have BR3 := ((BR.later b1).later b2).later b3
  have hbw : w.heap.size ≤ w3.heap.size := B3.size
  clear BR
  have A4 : Below w3.heap.size w3 (w3.alloc (.cells #[.int .i64 n, .int .i64 m] 77)) := (Below.refl _ _).alloc (Nat.le_refl _) _
  have BP := Cbox.new w3 #[.int .i64 n, .int .i64 m] 77
  have B4 := below_trans B3 A4
  have BR4 := BR3.later A4
  have h3 : ¬ w3.heap.size = w.heap.size := by have := BR3.lt; omega
  have h3' : ¬ w.heap.size = w3.heap.size := by have := BR3.lt; omega
  go_upto_region 3 with fail
  generalize w3.alloc (.cells #[.int .i64 n, .int .i64 m] 77) = w4 at *
  have z0 := BP.at 0
  have z1 := BP.at 1
  clear A4 BR3
  go_wp2_with fail
  refine (PR _ B4).mono ?_
  rintro e w5 ⟨rfl, b5⟩
  have B5 := below_trans B4 b5
  have BR5 := BR4.later b5
  have BP5 := BP.later b5
  have z0 := BP5.at 0
  have z1 := BP5.at 1
  have r0 := BR5.at 0
  have r1 := BR5.at 1
  have rl := BR5.lt
  have f0 := BR5.free 0
  have f1 := BR5.free 1
  have hb5 : w.heap.size ≤ w5.heap.size := B5.size
  clear BR5 BR4 BP BP5
  go_wp2
  refine bodyPost_ret_by (v := .tuple #[.agg #[.int .i64 n, .int .i64 m], .int .i64 0]) ?_ rfl ⟨rfl, ?_⟩
  · simp [results, Tryz.results75, go_sem, r0, r1]
  · exact (B5.setCell (p := ⟨w.heap.size, 0, none⟩) (Nat.le_refl _) _).setCell (p := ⟨w.heap.size, 1, none⟩) (Nat.le_refl _) _

theorem ba_beq (a b : List UInt8) : ((ByteArray.mk a.toArray).toList == (ByteArray.mk b.toArray).toList) = decide (a = b) := by
  rw [ByteArray.toList_eq, ByteArray.toList_eq]
  show (a == b) = _
  by_cases h : a = b
  · subst h; simp
  · rw [decide_eq_false h, beq_eq_false_iff_ne]; exact h
/-- gauss.Parse of whatever text. -/
theorem gparse_any (l : List UInt8) (w : World) (hP : Ptab w) (hE : Ers w) (hl : l.length ≤ 281474976710656) :
    Calls Tryz.prog 75 #[.string ⟨l.toArray⟩] w fun e w' => e = .returned (.tuple #[.agg #[.int .i64 (gpv l).1, .int .i64 (gpv l).2.1], .int .i64 (gpv l).2.2]) ∧ Below w.heap.size w w' := by
  have htl := trimS_len l
  have hcl := cutCm_len (Lib.trimS l [60, 62])
  have TR := fun W => trim_any l W (by omega)
  have CU := fun W => cutC_any (Lib.trimS l [60, 62]) W (by omega)
  obtain ⟨x, hx⟩ : ∃ x, x = (cutCm (Lib.trimS l [60, 62])).1 := ⟨_, rfl⟩
  obtain ⟨y, hy⟩ : ∃ y, y = (cutCm (Lib.trimS l [60, 62])).2.1 := ⟨_, rfl⟩
  rw [← hx, ← hy] at CU hcl
  have PA : ∀ W, Below w.heap.size w W → _ := fun W h => pair_all x y W (hE.later h) (by omega) (by omega)
  have PR : ∀ W, Below w.heap.size w W → _ := fun W h => gprint_any (atN x) (atN y) W (hP.later h)
  have heq := ba_beq (ptx (atN x) (atN y)) l
  rw [gpv_at l x y hx hy]
  cases hg : (atB x && atB y && (ok1 (atN x) && ok1 (atN y))) with
  | false =>
    rw [hg] at PA
    rw [if_neg (by simp)]
    exact parse_a _ _ _ _ _ _ _ _ w TR CU PA PR trivial
  | true =>
    rw [hg] at PA
    by_cases he : ptx (atN x) (atN y) = l
    · rw [if_pos ⟨rfl, he⟩]
      rw [decide_eq_true he] at heq
      exact parse_c _ _ _ _ _ _ _ _ w TR CU PA PR heq
    · rw [if_neg (fun c => he c.2)]
      rw [decide_eq_false he] at heq
      exact parse_b _ _ _ _ _ _ _ _ w TR CU PA PR heq
end Go.Proofs.YtibbenhplmmmiaaGreatDoor.Pt
