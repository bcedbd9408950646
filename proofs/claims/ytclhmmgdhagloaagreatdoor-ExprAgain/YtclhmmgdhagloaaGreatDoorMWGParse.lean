/-
  A text parted at its first comma, by the library.
  The library's Trim and Atoi laid; gauss.Parse of texts that hold no numbers.
-/
import Derived.Test.YtclhmmgdhagloaaGreatDoorMhDText1
import Derived.Test.YtclhmmgdhagloaaGreatDoorLTok
import Derived.Shelf.Strings.SlTrimAscii
import Derived.Shelf.Strconv.ErrVarAll
import Derived.Ground.NamesProg
import Derived.Shelf.Lay
namespace Go.Proofs.YtclhmmgdhagloaaGreatDoor
open Go.RowKit

/-- A text parted at its first comma. -/
def cutCm : List UInt8 → List UInt8 × List UInt8 × Bool
  | [] => ([], [], false)
  | c :: l => if c = 44 then ([], l, true) else (c :: (cutCm l).1, (cutCm l).2.1, (cutCm l).2.2)
theorem cutCm_none (l : List UInt8) (h : ∀ c ∈ l, c ≠ 44) : cutCm l = (l, [], false) := by
  induction l with
  | nil => rfl
  | cons c l ih =>
    unfold cutCm
    rw [if_neg (h c (by simp)), ih (fun d hd => h d (by simp [hd]))]
theorem cutCm_some (l r : List UInt8) (h : ∀ c ∈ l, c ≠ 44) : cutCm (l ++ 44 :: r) = (l, r, true) := by
  induction l with
  | nil => unfold cutCm; simp
  | cons c l ih =>
    show cutCm (c :: (l ++ 44 :: r)) = _
    unfold cutCm
    rw [if_neg (h c (by simp)), ih (fun d hd => h d (by simp [hd]))]

/-- Where a byte is first met, and how a text is parted there. -/
theorem first_cutC (l : List UInt8) : (firstIdx ⟨l.toArray⟩ 44 = -1 ∧ cutCm l = (l, [], false)) ∨ (∃ i : Nat, firstIdx ⟨l.toArray⟩ 44 = (i : Int) ∧ i < l.length ∧ cutCm l = (l.take i, l.drop (i + 1), true)) := by
  unfold firstIdx
  have hs : (ByteArray.mk l.toArray).size = l.length := rfl
  rw [hs]
  cases h : (List.range l.length).find? (fun i => (ByteArray.mk l.toArray)[i]! == 44) with
  | none =>
    left
    refine ⟨rfl, cutCm_none l ?_⟩
    rw [List.find?_range_eq_none] at h
    intro c hc e
    obtain ⟨i, hi, rfl⟩ := List.getElem_of_mem hc
    have := h i hi
    rw [ba_get l i hi, e] at this
    simp at this
  | some i =>
    right
    rw [List.find?_range_eq_some] at h
    obtain ⟨h1, h2, h3⟩ := h
    have hi : i < l.length := by simpa using h2
    refine ⟨i, rfl, hi, ?_⟩
    rw [ba_get l i hi] at h1
    have e : l[i] = 44 := eq_of_beq h1
    have hsplit : l = l.take i ++ 44 :: l.drop (i + 1) := by
      rw [← e, ← List.drop_eq_getElem_cons hi, List.take_append_drop]
    conv => lhs; rw [hsplit]
    refine cutCm_some _ _ ?_
    intro c hc e2
    obtain ⟨j, hj, rfl⟩ := List.getElem_of_mem hc
    have hj' : j < i := by rw [List.length_take] at hj; omega
    have := h3 j hj'
    rw [ba_get l j (by omega)] at this
    rw [List.getElem_take] at e2
    rw [e2] at this
    simp at this
theorem indexByteC_at (B : ByteArray) (r : Int) (h : firstIdx B 44 = r) (w : World) : (callFunc 244 #[.string B, .int .u8 44]).run Tryz.prog w = .ok (.value (.int .i64 r)) w := by
  rw [run_callFunc_extern Tryz.func244 (by kernel_rfl) (by kernel_rfl) (by kernel_rfl) (e := Extern.BytealgIndexByte.indexByte) (by kernel_rfl), run_indexByte_string]
  rw [show ((44 : Int).toNat.toUInt8) = 44 from rfl, h]
  rfl

set_option maxRecDepth 10000 in
theorem indexC_any (l : List UInt8) (w : World) : Calls Tryz.prog 305 #[.string ⟨l.toArray⟩, .string ⟨#[44]⟩] w fun e w' => e = .returned (.int .i64 (firstIdx ⟨l.toArray⟩ 44)) ∧ w = w' := by
  have hc : ∀ h, (ByteArray.mk #[44])[0]'h = 44 := fun h => rfl
  by_cases hd : l = [44]
  · have hx2 : (([44] : List UInt8) == (ByteArray.mk l.toArray).toList) = true := by
      rw [ByteArray.toList_eq, hd]; rfl
    have hx : (({ data := #[44] } : ByteArray).toList == (ByteArray.mk l.toArray).toList) = true := by
      rw [ByteArray.toList_eq, ByteArray.toList_eq, hd]; rfl
    have e : firstIdx ⟨l.toArray⟩ 44 = 0 := by rw [hd]; decide +kernel
    rw [e]
    generalize ByteArray.mk l.toArray = B at *
    clear hd e
    go_enter Tryz.func305, Tryz.ntmps305
    go_wp2
    all_goals go_ret
    all_goals exact ⟨rfl, rfl⟩
  · have hx : (({ data := #[44] } : ByteArray).toList == (ByteArray.mk l.toArray).toList) = false := by
      rw [ByteArray.toList_eq, ByteArray.toList_eq]
      exact beq_eq_false_iff_ne.2 (fun h => hd h.symm)
    have hx2 : (([44] : List UInt8) == (ByteArray.mk l.toArray).toList) = false := by
      rw [ByteArray.toList_eq]
      exact beq_eq_false_iff_ne.2 (fun h => hd h.symm)
    have F := fun w => indexByteC_at _ _ (rfl : firstIdx ⟨l.toArray⟩ 44 = _) w
    generalize firstIdx ⟨l.toArray⟩ 44 = r at *
    generalize ByteArray.mk l.toArray = B at *
    clear hd
    go_enter Tryz.func305, Tryz.ntmps305
    go_wp2
    all_goals go_ret
    all_goals exact ⟨rfl, rfl⟩

theorem cutliteC_any (l : List UInt8) (w : World) (hl : l.length ≤ 9223372036854775806) :
    Calls Tryz.prog 285 #[.string ⟨l.toArray⟩, .string ⟨#[44]⟩] w fun e w' => e = .returned (.tuple #[.string ⟨(cutCm l).1.toArray⟩, .string ⟨(cutCm l).2.1.toArray⟩, .bool (cutCm l).2.2]) ∧ Grew w w' := by
  have hs : (ByteArray.mk l.toArray).size = l.length := rfl
  have I := fun W => indexC_any l W
  rcases first_cutC l with ⟨h1, h2⟩ | ⟨i, h1, h2, h3⟩
  · rw [h1] at I
    rw [h2]
    show Calls Tryz.prog 285 #[.string ⟨l.toArray⟩, .string ⟨#[44]⟩] w fun e w' => e = .returned (.tuple #[.string ⟨l.toArray⟩, .string ⟨#[]⟩, .bool false]) ∧ Grew w w'
    generalize ByteArray.mk l.toArray = B at *
    clear h1 h2 hl
    go_enter Tryz.func285, Tryz.ntmps285
    go_wp2_with (go_at_call 305; refine (I _).mono ?_; rintro e w' ⟨rfl, rfl⟩)
    refine bodyPost_ret_by (v := .tuple #[.string B, .string ⟨#[]⟩, .bool false]) ?_ rfl ⟨rfl, Grew.refl _⟩
    simp [results, Tryz.results285, go_sem]
  · have hy : (ByteArray.mk l.toArray).extract 0 i = ⟨(l.take i).toArray⟩ := by rw [ba_extract]; rfl
    have hz : (ByteArray.mk l.toArray).extract (i + 1) l.length = ⟨(l.drop (i + 1)).toArray⟩ := by rw [ba_extract, List.take_length]
    rw [h1] at I
    rw [h3]
    show Calls Tryz.prog 285 #[.string ⟨l.toArray⟩, .string ⟨#[44]⟩] w fun e w' => e = .returned (.tuple #[.string ⟨(l.take i).toArray⟩, .string ⟨(l.drop (i + 1)).toArray⟩, .bool true]) ∧ Grew w w'
    generalize ByteArray.mk l.toArray = B at *
    generalize ByteArray.mk (l.take i).toArray = R1 at *
    generalize ByteArray.mk (l.drop (i + 1)).toArray = R2 at *
    have i0 : (0 : Int) ≤ (i : Int) := by omega
    have i1 : (i : Int) < (l.length : Int) := by omega
    have i2 : IntKind.i64.wrap ((i : Int) + 1) = (i : Int) + 1 := by rw [IntKind.wrap_i64]; omega
    have i3 : (0 : Int) ≤ (i : Int) + 1 := by omega
    have i4 : (i : Int) + 1 ≤ (l.length : Int) := by omega
    have i5 : ((i : Int) + 1).toNat = i + 1 := by omega
    have i6 : (i : Int) ≤ (l.length : Int) := by omega
    clear h1 h3 hl
    go_enter Tryz.func285, Tryz.ntmps285
    go_wp2_with (go_at_call 305; refine (I _).mono ?_; rintro e w' ⟨rfl, rfl⟩)
    go_region_with fail
    all_goals go_wp2
    all_goals refine bodyPost_ret_by (v := .tuple #[.string R1, .string R2, .bool true]) ?_ rfl ⟨rfl, ?_⟩
    all_goals first
      | (simp [results, Tryz.results285, go_sem]; done)
      | (repeat (first | exact Grew.refl _ | apply Grew.drew | apply Grew.drewN | apply Grew.alloc | apply Grew.more))

theorem cutC_any (l : List UInt8) (w : World) (hl : l.length ≤ 9223372036854775806) :
    Calls Tryz.prog 268 #[.string ⟨l.toArray⟩, .string ⟨#[44]⟩] w fun e w' => e = .returned (.tuple #[.string ⟨(cutCm l).1.toArray⟩, .string ⟨(cutCm l).2.1.toArray⟩, .bool (cutCm l).2.2]) ∧ Grew w w' := by
  have C := fun W => cutliteC_any l W hl
  generalize ByteArray.mk l.toArray = B at *
  generalize ByteArray.mk (cutCm l).1.toArray = R1 at *
  generalize ByteArray.mk (cutCm l).2.1.toArray = R2 at *
  generalize (cutCm l).2.2 = b at *
  clear hl
  go_enter Tryz.func268, Tryz.ntmps268
  go_wp2_with (go_at_call 285; refine (C _).mono ?_; rintro e w' ⟨rfl, os, n, rfl⟩)
  refine bodyPost_ret_by (v := .tuple #[.string R1, .string R2, .bool b]) ?_ rfl ⟨rfl, ?_⟩
  · simp [results, Tryz.results268, go_sem]
  · repeat (first | exact Grew.refl _ | apply Grew.drew | apply Grew.drewN | apply Grew.alloc | apply Grew.more)
end Go.Proofs.YtclhmmgdhagloaaGreatDoor

namespace Go.Proofs.YtclhmmgdhagloaaGreatDoor
open Go.RowKit Go.Shelf
attribute [local go_sem] cell?_more frozen?_more setCell_more more_lt more_more more_drew more_drewN setCell_drewN alloc_drewN

shelf_lay Lays.n160 Nm 160 at Tryz as Tryz.laysTrim
shelf_lay LaysC.n172 Nm 172 at Tryz as Tryz.laysAtoi

/-- The library's error of the syntax lies where it lies. -/
def Esy (w : World) (tp : TypeId) (p : Value) : Prop := w.var? Tryz.prog "strconv.ErrSyntax" = some #[.iface tp p]
theorem Esy.later {w w' : World} {tp : TypeId} {p : Value} (h : Esy w tp p) (hb : Below w.heap.size w w') : Esy w' tp p := by
  unfold Esy World.var? at *
  cases hg : Tryz.prog.globalNamed "strconv.ErrSyntax" with
  | none => rw [hg] at h; cases h
  | some g =>
    rw [hg] at h
    simp only [Option.bind_some] at h ⊢
    have hlt : g < w.heap.size := by
      rcases Nat.lt_or_ge g w.heap.size with h' | h'
      · exact h'
      · rw [Array.getElem?_eq_none h'] at h; cases h
    rw [hb.block g hlt]
    exact h
theorem trimA_any (l : List UInt8) (w : World) (hl : l.length ≤ 9223372036854775807) : Calls Tryz.prog 269 #[.string ⟨l.toArray⟩, .string ⟨#[60, 62]⟩] w fun e w' => e = .returned (.string ⟨(Lib.trimS l [60, 62]).toArray⟩) ∧ Below w.heap.size w w' :=
  Any.strings_Trim_laid Tryz.laysTrim (by kernel_rfl) ⟨l.toArray⟩ ⟨#[60, 62]⟩ w hl (by decide) (ascii_of_all (by decide))
theorem atoiS_any (l : List UInt8) (w : World) (tp : TypeId) (p : Value) (hE : Esy w tp p) (hl : l.length ≤ 281474976710656) (h : Lib.atoiAll l = .syntax) : Calls Tryz.prog 293 #[.string ⟨l.toArray⟩] w fun e w' => (∃ N, e = .returned (.tuple #[.int .i64 0, .iface (Tryz.laysAtoi_ren.t 168) (.pointer (some ⟨N, 0, none⟩))])) ∧ Below w.heap.size w w' := by
  refine (Any.strconv_Atoi_syntax_var Tryz.laysAtoi ⟨l.toArray⟩ hl h tp p w hE).mono ?_
  rintro e w' ⟨N, h1, _, _, h4⟩
  exact ⟨⟨N, h1⟩, h4⟩

set_option maxRecDepth 20000 in
set_option maxHeartbeats 2000000 in
theorem pair_no (x y : List UInt8) (w : World) (tp : TypeId) (p : Value) (hE : Esy w tp p) (hx : x.length ≤ 281474976710656) (hy : y.length ≤ 281474976710656) (ax : Lib.atoiAll x = .syntax) (ay : Lib.atoiAll y = .syntax) :
    Calls Tryz.prog 270 #[.string ⟨x.toArray⟩, .string ⟨y.toArray⟩] w fun e w' => e = .returned (.tuple #[.agg #[.int .i64 0, .int .i64 0], .bool false]) ∧ Below w.heap.size w w' := by
  have AX : ∀ W, Below w.heap.size w W → _ := fun W h => atoiS_any x W tp p (hE.later h) hx ax
  have AY : ∀ W, Below w.heap.size w W → _ := fun W h => atoiS_any y W tp p (hE.later h) hy ay
  have B0 : Below w.heap.size w (w.alloc (.cells #[.int .i64 0, .int .i64 0] 149)) := (Below.refl _ w).alloc (Nat.le_refl _) _
  have BR := Cbox.new w #[.int .i64 0, .int .i64 0] 149
  generalize ByteArray.mk x.toArray = X at *
  generalize ByteArray.mk y.toArray = Y at *
  clear hE hx hy ax ay
  go_enter Tryz.func270, Tryz.ntmps270
  go_upto_region 1 with fail
  generalize w.alloc (.cells #[.int .i64 0, .int .i64 0] 149) = w0 at *
  go_wp2_with fail
  refine (AX _ B0).mono ?_
  rintro e w1 ⟨⟨N1, rfl⟩, b1⟩
  have B1 := below_trans B0 b1
  go_wp2_with fail
  refine (AY _ B1).mono ?_
  rintro e w2 ⟨⟨N2, rfl⟩, b2⟩
  have B2 := below_trans B1 b2
  have BR2 := (BR.later b1).later b2
  have A3 : Below w2.heap.size w2 (w2.alloc (.cells #[.int .i64 0, .int .i64 0] 149)) := (Below.refl _ _).alloc (Nat.le_refl _) _
  have BP0 := Cbox.new w2 #[.int .i64 0, .int .i64 0] 149
  have BR3 := BR2.later A3
  have B3 := below_trans B2 A3
  go_upto_region 4 with fail
  generalize w2.alloc (.cells #[.int .i64 0, .int .i64 0] 149) = w3 at *
  have BP : Hid (Cbox w3 w2.heap.size #[.int .i64 0, .int .i64 0] 149) := BP0
  have z0 := BP.out.at 0
  have z1 := BP.out.at 1
  have hlw := BR2.lt
  have hne1 : ¬ w.heap.size = w2.heap.size := by omega
  have hne2 : ¬ w2.heap.size = w.heap.size := by omega
  have r0 := BR3.at 0
  have r1 := BR3.at 1
  have rl := BR3.lt
  have f0 := BR3.free 0
  have f1 := BR3.free 1
  have hbw : w.heap.size ≤ w3.heap.size := B3.size
  clear BP0 BR2 BR BR3 A3
  refine wp_region_held_drew (S := (fun W => W.cell? ⟨w2.heap.size, 0, none⟩ = some (.int .i64 0) ∧ W.cell? ⟨w2.heap.size, 1, none⟩ = some (.int .i64 0))) (by kernel_rfl) ?_ (fun hHeld => ?_)
  · ((try dsimp only); exact ⟨z0, z1⟩)
  refine wpAnyH_take (i := 0) (oi := { dst := some 24, op := Op.load 149 (Operand.tmp 10), type := 149, pos := "text.go:34", after := #[], guard := none }) (v := ?_) rfl (by kernel_rfl) (by kernel_rfl) (by kernel_rfl) (fun _ _ _ h => h) (Or.inl ⟨by rfl, ?_⟩) (by assumption) ?_
  rotate_left
  · (intro W hSw; (try dsimp only at hSw); obtain ⟨y0, y1⟩ := hSw; first | (go_simp; done) | (go_simp; with_reducible rfl))
  try simp only [Act.put, List.setIfInBounds_toArray, List.set_cons_zero, List.set_cons_succ]
  refine wpAnyH_take (i := 1) (oi := { dst := some 25, op := Op.move (Operand.tmp 7), type := 156, pos := "text.go:34", after := #[], guard := none }) (v := ?_) rfl (by kernel_rfl) (by kernel_rfl) (by kernel_rfl) (fun _ _ _ h => h) (Or.inl ⟨by rfl, ?_⟩) (by assumption) ?_
  rotate_left
  · (intro W hSw; (try dsimp only at hSw); obtain ⟨y0, y1⟩ := hSw; first | (go_simp; done) | (go_simp; with_reducible rfl))
  try simp only [Act.put, List.setIfInBounds_toArray, List.set_cons_zero, List.set_cons_succ]
  refine wpAnyH_take (i := 2) (oi := { dst := some 26, op := Op.binOp BinOp.eql 156 (Operand.tmp 25) (Operand.const Value.nilIface) 156, type := 4, pos := "text.go:34", after := #[{ on := 1, ground := Ground.data }], guard := none }) (v := ?_) rfl (by kernel_rfl) (by kernel_rfl) (by kernel_rfl) (fun _ _ _ h => h) (Or.inl ⟨by rfl, ?_⟩) (by assumption) ?_
  rotate_left
  · (intro W hSw; (try dsimp only at hSw); obtain ⟨y0, y1⟩ := hSw; first | (go_simp; done) | (go_simp; with_reducible rfl))
  try simp only [Act.put, List.setIfInBounds_toArray, List.set_cons_zero, List.set_cons_succ]
  refine wpAnyH_take (i := 3) (oi := { dst := some 27, op := Op.move (Operand.tmp 26), type := 4, pos := "text.go:34", after := #[{ on := 2, ground := Ground.data }], guard := none }) (v := ?_) rfl (by kernel_rfl) (by kernel_rfl) (by kernel_rfl) (fun _ _ _ h => h) (Or.inl ⟨by rfl, ?_⟩) (by assumption) ?_
  rotate_left
  · (intro W hSw; (try dsimp only at hSw); obtain ⟨y0, y1⟩ := hSw; first | (go_simp; done) | (go_simp; with_reducible rfl))
  try simp only [Act.put, List.setIfInBounds_toArray, List.set_cons_zero, List.set_cons_succ]
  refine wpAnyH_take (i := 4) (oi := { dst := some 28, op := Op.move (Operand.tmp 9), type := 156, pos := "text.go:34", after := #[{ on := 3, ground := Ground.guard }], guard := some (3, true) }) (v := undef) rfl (by kernel_rfl) (by kernel_rfl) (by kernel_rfl) (fun _ _ _ h => h) (Or.inr ⟨by rfl, rfl⟩) (by assumption) ?_
  try simp only [Act.put, List.setIfInBounds_toArray, List.set_cons_zero, List.set_cons_succ]
  refine wpAnyH_take (i := 5) (oi := { dst := some 29, op := Op.binOp BinOp.eql 156 (Operand.tmp 28) (Operand.const Value.nilIface) 156, type := 4, pos := "text.go:34", after := #[{ on := 4, ground := Ground.data }, { on := 3, ground := Ground.guard }], guard := some (3, true) }) (v := undef) rfl (by kernel_rfl) (by kernel_rfl) (by kernel_rfl) (fun _ _ _ h => h) (Or.inr ⟨by rfl, rfl⟩) (by assumption) ?_
  try simp only [Act.put, List.setIfInBounds_toArray, List.set_cons_zero, List.set_cons_succ]
  refine wpAnyH_take (i := 6) (oi := { dst := some 30, op := Op.pick (Operand.tmp 27) (Operand.tmp 29) (Operand.const (Value.bool false)), type := 4, pos := "text.go:34", after := #[{ on := 3, ground := Ground.data }, { on := 5, ground := Ground.data }], guard := none }) (v := ?_) rfl (by kernel_rfl) (by kernel_rfl) (by kernel_rfl) (fun _ _ _ h => h) (Or.inl ⟨by rfl, ?_⟩) (by assumption) ?_
  rotate_left
  · (intro W hSw; (try dsimp only at hSw); obtain ⟨y0, y1⟩ := hSw; first | (go_simp; done) | (go_simp; with_reducible rfl))
  try simp only [Act.put, List.setIfInBounds_toArray, List.set_cons_zero, List.set_cons_succ]
  refine wpAnyH_take (i := 7) (oi := { dst := some 31, op := Op.move (Operand.tmp 30), type := 4, pos := "text.go:34", after := #[{ on := 6, ground := Ground.data }, { on := 3, ground := Ground.chain }], guard := none }) (v := ?_) rfl (by kernel_rfl) (by kernel_rfl) (by kernel_rfl) (fun _ _ _ h => h) (Or.inl ⟨by rfl, ?_⟩) (by assumption) ?_
  rotate_left
  · (intro W hSw; (try dsimp only at hSw); obtain ⟨y0, y1⟩ := hSw; first | (go_simp; done) | (go_simp; with_reducible rfl))
  try simp only [Act.put, List.setIfInBounds_toArray, List.set_cons_zero, List.set_cons_succ]
  refine wpAnyH_take (i := 8) (oi := { dst := some 32, op := Op.load 149 (Operand.tmp 10), type := 149, pos := "text.go:34", after := #[{ on := 7, ground := Ground.guard }], guard := some (7, true) }) (v := undef) rfl (by kernel_rfl) (by kernel_rfl) (by kernel_rfl) (fun _ _ _ h => h) (Or.inr ⟨by rfl, rfl⟩) (by assumption) ?_
  try simp only [Act.put, List.setIfInBounds_toArray, List.set_cons_zero, List.set_cons_succ]
  refine wpAnyH_take (i := 9) (oi := { dst := some 33, op := Op.call { callee := Callee.value (Operand.func 189), args := #[Operand.tmp 32], argTypes := #[149] }, type := 4, pos := "text.go:34", after := #[{ on := 8, ground := Ground.data }, { on := 7, ground := Ground.chain }, { on := 7, ground := Ground.guard }], guard := some (7, true) }) (v := undef) rfl (by kernel_rfl) (by kernel_rfl) (by kernel_rfl) (fun _ _ _ h => h) (Or.inr ⟨by rfl, rfl⟩) (by assumption) ?_
  try simp only [Act.put, List.setIfInBounds_toArray, List.set_cons_zero, List.set_cons_succ]
  refine wpAnyH_take (i := 10) (oi := { dst := some 34, op := Op.pick (Operand.tmp 31) (Operand.tmp 33) (Operand.const (Value.bool false)), type := 4, pos := "text.go:34", after := #[{ on := 7, ground := Ground.data }, { on := 9, ground := Ground.data }, { on := 11, ground := Ground.gcOnly Departure.lateStores }], guard := none }) (v := ?_) rfl (by kernel_rfl) (by kernel_rfl) (by kernel_rfl) (fun _ _ _ h => h) (Or.inl ⟨by rfl, ?_⟩) (by assumption) ?_
  rotate_left
  · (intro W hSw; (try dsimp only at hSw); obtain ⟨y0, y1⟩ := hSw; first | (go_simp; done) | (go_simp; with_reducible rfl))
  try simp only [Act.put, List.setIfInBounds_toArray, List.set_cons_zero, List.set_cons_succ]
  refine wpAnyH_ready (rs := [11]) (by kernel_rfl) (by simp) ?_
  refine AllReadyH.cons (o := { dst := none, op := Op.store 149 (Operand.tmp 4) (Operand.tmp 24), type := 0, pos := "text.go:34", after := #[{ on := 0, ground := Ground.data }, { on := 9, ground := Ground.chain }, { on := 0, ground := Ground.phase }, { on := 1, ground := Ground.textOnly Departure.lateStores }, { on := 2, ground := Ground.textOnly Departure.lateStores }, { on := 3, ground := Ground.textOnly Departure.lateStores }, { on := 4, ground := Ground.textOnly Departure.lateStores }, { on := 5, ground := Ground.textOnly Departure.lateStores }, { on := 6, ground := Ground.textOnly Departure.lateStores }, { on := 7, ground := Ground.textOnly Departure.lateStores }, { on := 8, ground := Ground.textOnly Departure.lateStores }, { on := 9, ground := Ground.textOnly Departure.lateStoresUnsure }, { on := 10, ground := Ground.textOnly Departure.lateStores }], guard := none }) rfl (fun K hK => ?_) AllReadyH.nil
  go_simp
  refine hK.out _ _ ?_ (fun hHeld => ?_)
  · ((try dsimp only); (simp (maxDischargeDepth := 12) [go_sem, z0, z1]))
  clear hK K
  try simp only [Act.put, List.setIfInBounds_toArray, List.set_cons_zero, List.set_cons_succ]
  refine wpAnyH_take (i := 12) (oi := { dst := some 5, op := Op.assign (Operand.tmp 34), type := 4, pos := "text.go:34", after := #[{ on := 10, ground := Ground.data }, { on := 11, ground := Ground.chain }, { on := 0, ground := Ground.phase }, { on := 1, ground := Ground.phase }, { on := 2, ground := Ground.phase }, { on := 3, ground := Ground.phase }, { on := 4, ground := Ground.phase }, { on := 5, ground := Ground.phase }, { on := 6, ground := Ground.phase }, { on := 7, ground := Ground.phase }, { on := 8, ground := Ground.phase }, { on := 9, ground := Ground.phase }, { on := 10, ground := Ground.phase }, { on := 11, ground := Ground.phase }], guard := none }) (v := ?_) rfl (by kernel_rfl) (by kernel_rfl) (by kernel_rfl) (fun _ _ _ h => h) (Or.inl ⟨by rfl, ?_⟩) (by assumption) ?_
  rotate_left
  · (intro W hSw; (try dsimp only at hSw); obtain ⟨y0, y1⟩ := hSw; first | (go_simp; done) | (go_simp; with_reducible rfl))
  try simp only [Act.put, List.setIfInBounds_toArray, List.set_cons_zero, List.set_cons_succ]
  refine wpAnyH_done (by kernel_rfl) ?_ _
  go_wp2
  refine bodyPost_ret_by (v := .tuple #[.agg #[.int .i64 0, .int .i64 0], .bool false]) ?_ rfl ⟨rfl, ?_⟩
  · simp [results, Tryz.results270, go_sem, r0, r1]
  · exact (B3.drew.setCell (p := ⟨w.heap.size, 0, none⟩) (Nat.le_refl _) _).setCell (p := ⟨w.heap.size, 1, none⟩) (Nat.le_refl _) _

set_option maxRecDepth 20000 in
set_option maxHeartbeats 2000000 in
/-- Where what stands between the brackets holds no comma and is no number, nor is the empty text. -/
theorem gparse_no (l : List UInt8) (w : World) (tp : TypeId) (p : Value) (hE : Esy w tp p) (hl : l.length ≤ 4096) (x y : List UInt8) (b : Bool) (hc : cutCm (Lib.trimS l [60, 62]) = (x, y, b)) (hxl : x.length ≤ 4096) (hyl : y.length ≤ 4096) (htl : (Lib.trimS l [60, 62]).length ≤ 4096) (ax : Lib.atoiAll x = .syntax) (ay : Lib.atoiAll y = .syntax) :
    Calls Tryz.prog 247 #[.string ⟨l.toArray⟩] w fun e w' => e = .returned (.tuple #[.agg #[.int .i64 0, .int .i64 0], .int .i64 21]) ∧ Below w.heap.size w w' := by
  have TR := fun W => trimA_any l W (by omega)
  have CU := fun W => cutC_any (Lib.trimS l [60, 62]) W (by omega)
  rw [hc] at CU
  have PA : ∀ W, Below w.heap.size w W → _ := fun W h => pair_no x y W tp p (hE.later h) (by omega) (by omega) ax ay
  dsimp only at CU
  have B0 : Below w.heap.size w (w.alloc (.cells #[.int .i64 0, .int .i64 0] 149)) := (Below.refl _ w).alloc (Nat.le_refl _) _
  have BR := Cbox.new w #[.int .i64 0, .int .i64 0] 149
  clear hE hl hc hxl hyl htl ax ay
  generalize ByteArray.mk l.toArray = LB at *
  generalize ByteArray.mk (Lib.trimS l [60, 62]).toArray = TB at *
  generalize ByteArray.mk x.toArray = X at *
  generalize ByteArray.mk y.toArray = Y at *
  go_enter Tryz.func247, Tryz.ntmps247
  go_upto_region 1 with fail
  generalize w.alloc (.cells #[.int .i64 0, .int .i64 0] 149) = w0 at *
  go_wp2_with fail
  refine (TR _).mono ?_
  rintro e w1 ⟨rfl, b1⟩
  have B1 := below_trans B0 b1
  go_wp2_with fail
  refine (CU _).mono ?_
  rintro e w2 ⟨rfl, g2⟩
  have b2 := g2.below
  have B2 := below_trans B1 b2
  go_wp2_with fail
  refine (PA _ B2).mono ?_
  rintro e w3 ⟨rfl, b3⟩
  have B3 := below_trans B2 b3
  have BR3 := ((BR.later b1).later b2).later b3
  have r0 := BR3.at 0
  have r1 := BR3.at 1
  have rl := BR3.lt
  have f0 := BR3.free 0
  have f1 := BR3.free 1
  have hbw : w.heap.size ≤ w3.heap.size := B3.size
  clear BR3 BR
  go_wp2
  refine bodyPost_ret_by (v := .tuple #[.agg #[.int .i64 0, .int .i64 0], .int .i64 21]) ?_ rfl ⟨rfl, ?_⟩
  · simp [results, Tryz.results247, go_sem, r0, r1, rl]
  · exact Below.alloc ((B3.setCell (p := ⟨w.heap.size, 0, none⟩) (Nat.le_refl _) _).setCell (p := ⟨w.heap.size, 1, none⟩) (Nat.le_refl _) _) (by simp; omega) _
end Go.Proofs.YtclhmmgdhagloaaGreatDoor
