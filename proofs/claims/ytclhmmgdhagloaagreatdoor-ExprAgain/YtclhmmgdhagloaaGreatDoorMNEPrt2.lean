/-
  The library's strings.Join laid at this program.
  The contracts of columnText and inParentheses of package expr.
  The contract of textOf of package expr: the text of a node, out of the texts of what it is done with.
-/
import Derived.Test.YtclhmmgdhagloaaGreatDoorECol
import Derived.Shelf.Strings.OnBuilder
import Derived.Ground.NamesProg
import Derived.Shelf.Lay
namespace Go.Proofs.YtclhmmgdhagloaaGreatDoor
open Go.RowKit Go.Shelf

shelf_lay Lays.n156 Nm 156 at Tryz as Tryz.laysJoin
theorem joinX : Builder.Extra Tryz.prog Tryz.laysJoin_ren where
  sizeBuilder := by kernel_rfl
  liesBuilder := by kernel_rfl
  t5 := Tryz.underlying5
  a5 := Tryz.isAgg5
  z5 := Tryz.sizeOf5
  v5 := Tryz.zeroValue5
  infoByte := by kernel_rfl
  cellsByte := by kernel_rfl
  sizeByte := by kernel_rfl
  neB5 := by decide
theorem join_lib (bk o c : Nat) (xs : List ByteArray) (sep : ByteArray) (w : World)
    (hcells : ∀ (j : Nat) x, xs[j]? = some x → w.cell? ⟨bk, o + j, none⟩ = some (.string x))
    (hbk : bk < w.heap.size) (hN : xs.length ≤ 140737488355328) (hcap : xs.length ≤ c)
    (hlen : (Lib.join (xs.map (·.data.toList)) sep.data.toList).length ≤ 140737488355328) :
    Calls Tryz.prog 65 #[.slice (some ⟨bk, o, none⟩) xs.length c, .string sep] w fun e w' => e = .returned (.string ⟨(Lib.join (xs.map (·.data.toList)) sep.data.toList).toArray⟩) ∧ Below w.heap.size w w' :=
  Any.strings_Join Tryz.laysJoin joinX bk o c xs sep w hcells hbk hN hcap hlen
end Go.Proofs.YtclhmmgdhagloaaGreatDoor

namespace Go.Proofs.YtclhmmgdhagloaaGreatDoor
open Go.RowKit Go.Shelf
attribute [local go_sem] cell?_more frozen?_more setCell_more more_lt more_more more_drew more_drewN setCell_drewN alloc_drewN

/-- The text of a column. -/
def colT (x : Nd) : List UInt8 := if x.t = [] then x.n else x.t ++ [46] ++ x.n
set_option maxHeartbeats 4000000 in
theorem columnText_any (x : Nd) (w : World) (ht : x.t.length ≤ 140737488351232) (hn : x.n.length ≤ 140737488351232) :
    Calls Tryz.prog 63 #[ndv x] w fun e w' => e = .returned (.string ⟨(colT x).toArray⟩) ∧ Below w.heap.size w w' := by
  obtain ⟨xo, xt, xn, xv, xa⟩ := x
  unfold colT
  simp only at ht hn ⊢
  have A0 := (Below.refl w.heap.size w).alloc (Nat.le_refl _) (.cells (ncs ⟨xo, xt, xn, xv, xa⟩) 44)
  by_cases hx : xt = []
  · subst hx
    rw [if_pos rfl]
    go_enter Tryz.func63, Tryz.ntmps63
    go_wp2
    go_ret
    exact ⟨rfl, A0⟩
  · rw [if_neg hx]
    have hem : (ByteArray.mk xt.toArray).toList.isEmpty = false := by
      rw [Lib.toList_data]
      cases xt with
      | nil => exact absurd rfl hx
      | cons => rfl
    have hx2 : xt.isEmpty = false := by cases xt with | nil => exact absurd rfl hx | cons => rfl
    have e1 : (ByteArray.mk xt.toArray) ++ (ByteArray.mk #[46]) = ⟨(xt ++ [46]).toArray⟩ := ba_app xt [46]
    have e2 : (ByteArray.mk (xt ++ [46]).toArray) ++ (ByteArray.mk xn.toArray) = ⟨(xt ++ [46] ++ xn).toArray⟩ := ba_app (xt ++ [46]) xn
    have s1 : (ByteArray.mk xt.toArray).size = xt.length := rfl
    have s2 : (ByteArray.mk (xt ++ [46]).toArray).size = xt.length + 1 := by show (xt ++ [46]).length = _; simp
    have s3 : (ByteArray.mk xn.toArray).size = xn.length := rfl
    have s4 : (ByteArray.mk #[46]).size = 1 := rfl
    go_enter Tryz.func63, Tryz.ntmps63
    go_wp2
    go_ret
    exact ⟨by show Ending.returned (Value.string _) = _; simp, A0⟩

/-- Texts within parentheses, a blank between each two. -/
def parT (xs : List (List UInt8)) : List UInt8 := [40] ++ Lib.join xs [32] ++ [41]
set_option maxHeartbeats 4000000 in
theorem paren_any (bk o c : Nat) (xs : List (List UInt8)) (w : World) (hcells : ∀ (j : Nat) x, xs[j]? = some x → w.cell? ⟨bk, o + j, none⟩ = some (.string ⟨x.toArray⟩)) (hbk : bk < w.heap.size) (hN : xs.length ≤ 1000) (hcap : xs.length ≤ c)
    (hlen : (Lib.join xs [32]).length ≤ 140737488351232) :
    Calls Tryz.prog 64 #[.slice (some ⟨bk, o, none⟩) xs.length c] w fun e w' => e = .returned (.string ⟨(parT xs).toArray⟩) ∧ Below w.heap.size w w' := by
  have J := join_lib bk o c (xs.map fun x => ⟨x.toArray⟩) ⟨#[32]⟩ w (by
    intro j x hx
    rw [List.getElem?_map] at hx
    cases hq : xs[j]? with
    | none => rw [hq] at hx; cases hx
    | some y =>
      rw [hq] at hx
      cases hx
      exact hcells j y hq) hbk (by rw [List.length_map]; omega) (by rw [List.length_map]; omega) (by
    have e : (xs.map (fun x : List UInt8 => (⟨x.toArray⟩ : ByteArray))).map (·.data.toList) = xs := by rw [List.map_map]; simp [Function.comp_def]
    rw [e]
    show (Lib.join xs [32]).length ≤ _
    omega)
  have e : (xs.map (fun x : List UInt8 => (⟨x.toArray⟩ : ByteArray))).map (·.data.toList) = xs := by rw [List.map_map]; simp [Function.comp_def]
  rw [e, List.length_map] at J
  unfold parT
  have J' : Calls Tryz.prog 65 #[.slice (some ⟨bk, o, none⟩) xs.length c, .string ⟨#[32]⟩] w fun e w' => e = .returned (.string ⟨(Lib.join xs [32]).toArray⟩) ∧ Below w.heap.size w w' := J
  clear J e hcells
  generalize Lib.join xs [32] = T at *
  generalize xs.length = n at *
  have e1 : (ByteArray.mk #[40]) ++ (ByteArray.mk T.toArray) = ⟨([40] ++ T).toArray⟩ := ba_app [40] T
  have e2 : (ByteArray.mk ([40] ++ T).toArray) ++ (ByteArray.mk #[41]) = ⟨([40] ++ T ++ [41]).toArray⟩ := ba_app ([40] ++ T) [41]
  have s1 : (ByteArray.mk T.toArray).size = T.length := rfl
  have s2 : (ByteArray.mk ([40] ++ T).toArray).size = T.length + 1 := by show ([40] ++ T).length = _; simp
  have s3 : (ByteArray.mk #[40]).size = 1 := rfl
  have s4 : (ByteArray.mk #[41]).size = 1 := rfl
  generalize [40] ++ T ++ [41] = F at *
  generalize ByteArray.mk ([40] ++ T).toArray = B2 at *
  generalize ByteArray.mk T.toArray = B1 at *
  go_enter Tryz.func64, Tryz.ntmps64
  go_wp2_with (go_at_call 65; refine J'.mono ?_; rintro e w1 ⟨rfl, b1⟩)
  go_ret
  exact ⟨rfl, b1⟩
end Go.Proofs.YtclhmmgdhagloaaGreatDoor

namespace Go.Proofs.YtclhmmgdhagloaaGreatDoor
open Go.RowKit Go.Shelf
attribute [local go_sem] cell?_more frozen?_more setCell_more more_lt more_more more_drew more_drewN setCell_drewN alloc_drewN

/-- The text of a node (pv: of a value), out of the texts of what it is done with. -/
def txtN (pv : Va → List UInt8) (x : Nd) (of : List (List UInt8)) : List UInt8 :=
  if x.o = 1 then pv x.v else if x.o = 2 then colT x else if x.o = 3 then parT [[45], of.getD 0 []] else if x.o = 4 then parT [wNot, of.getD 0 []]
  else if x.o = 5 then parT [of.getD 0 [], wIs, wNull] else if x.o = 19 then x.n ++ [40] ++ Lib.join of [44, 32] ++ [41] else parT [of.getD 0 [], sgn x.o.toNat, of.getD 1 []]

/-- Texts lie behind an address. -/
def Sw (w : World) (g off : Nat) (of : List (List UInt8)) : Prop := ∀ i (h : i < of.length), w.cell? ⟨g, off + i, none⟩ = some (.string ⟨of[i].toArray⟩)

theorem par_at (w : World) (bk : Nat) (xs : List (List UInt8)) (hc : Cbox w bk (xs.map fun x => Value.string ⟨x.toArray⟩).toArray 9) (hN : xs.length ≤ 1000) (hlen : (Lib.join xs [32]).length ≤ 140737488351232) :
    Calls Tryz.prog 64 #[.slice (some ⟨bk, 0, none⟩) xs.length xs.length] w fun e w' => e = .returned (.string ⟨(parT xs).toArray⟩) ∧ Below w.heap.size w w' := by
  refine paren_any bk 0 xs.length xs _ (fun j x hx => ?_) hc.lt hN (Nat.le_refl _) hlen
  have := hc.at j
  rw [Nat.zero_add, this]
  simp [hx]

theorem par_new (w : World) (o1 : Obj) (xs : List (List UInt8)) (hN : xs.length ≤ 1000) (hlen : (Lib.join xs [32]).length ≤ 140737488351232) :
    Calls Tryz.prog 64 #[.slice (some ⟨w.heap.size + 1, 0, none⟩) xs.length xs.length] ((w.alloc o1).alloc (.cells (xs.map fun x => Value.string ⟨x.toArray⟩).toArray 9)) fun e w' => e = .returned (.string ⟨(parT xs).toArray⟩) ∧ Below w.heap.size w w' := by
  have hc := Cbox.new (w.alloc o1) (xs.map fun x => Value.string ⟨x.toArray⟩).toArray 9
  rw [World.size_alloc] at hc
  have B := (((Below.refl w.heap.size w).alloc (Nat.le_refl _) o1).alloc (by simp) (.cells (xs.map fun x => Value.string ⟨x.toArray⟩).toArray 9))
  refine (paren_any (w.heap.size + 1) 0 xs.length xs _ (fun j x hx => ?_) hc.lt hN (Nat.le_refl _) hlen).mono fun e w' ⟨h1, h2⟩ => ⟨h1, B.trans (h2.mono B.size)⟩
  have := hc.at j
  rw [Nat.zero_add, this]
  simp [hx]

set_option maxRecDepth 20000 in
set_option maxHeartbeats 4000000 in
theorem textOf_one (pv : Va → List UInt8) (x : Nd) (g off c : Nat) (a : List UInt8) (w : World) (h3 : x.o = 3 ∨ x.o = 4 ∨ x.o = 5) (hs : Sw w g off [a]) (ha : a.length ≤ 10000000000000) :
    Calls Tryz.prog 39 #[ndv x, .slice (some ⟨g, off, none⟩) 1 c] w fun e w' => e = .returned (.string ⟨(txtN pv x [a]).toArray⟩) ∧ Below w.heap.size w w' := by
  obtain ⟨xo, xt, xn, xv, xa⟩ := x
  have c0 : w.cell? ⟨g, off, none⟩ = some (.string ⟨a.toArray⟩) := hs 0 (by simp)
  have hg := World.block_lt_of_cell? w _ c0
  simp only at h3
  rcases h3 with h | h | h
  · subst h
    have PN := par_new w (.cells (ncs ⟨3, xt, xn, xv, xa⟩) 44) [[45], a] (by simp) (by simp [Lib.join, List.intercalate, List.intersperse]; omega)
    have PN' : Calls Tryz.prog 64 #[.slice (some ⟨w.heap.size + 1, 0, none⟩) 2 2] ((w.alloc (.cells (ncs ⟨3, xt, xn, xv, xa⟩) 44)).alloc (.cells #[.string ⟨#[45]⟩, .string ⟨a.toArray⟩] 9)) fun e w' => e = .returned (.string ⟨(parT [[45], a]).toArray⟩) ∧ Below w.heap.size w w' := PN
    clear PN hs
    have et : txtN pv ⟨3, xt, xn, xv, xa⟩ [a] = parT [[45], a] := rfl
    rw [et]
    clear et
    generalize parT [[45], a] = F at *
    go_enter Tryz.func39, Tryz.ntmps39
    go_wp2_with fail
    refine PN'.mono ?_
    rintro e w1 ⟨rfl, b1⟩
    go_wp2
    go_ret
    exact ⟨rfl, b1⟩
  · subst h
    have PN := par_new w (.cells (ncs ⟨4, xt, xn, xv, xa⟩) 44) [wNot, a] (by simp) (by simp [Lib.join, List.intercalate, List.intersperse]; omega)
    have PN' : Calls Tryz.prog 64 #[.slice (some ⟨w.heap.size + 1, 0, none⟩) 2 2] ((w.alloc (.cells (ncs ⟨4, xt, xn, xv, xa⟩) 44)).alloc (.cells #[.string ⟨#[110, 111, 116]⟩, .string ⟨a.toArray⟩] 9)) fun e w' => e = .returned (.string ⟨(parT [wNot, a]).toArray⟩) ∧ Below w.heap.size w w' := PN
    clear PN hs
    have et : txtN pv ⟨4, xt, xn, xv, xa⟩ [a] = parT [wNot, a] := rfl
    rw [et]
    clear et
    generalize parT [wNot, a] = F at *
    go_enter Tryz.func39, Tryz.ntmps39
    go_wp2_with fail
    refine PN'.mono ?_
    rintro e w1 ⟨rfl, b1⟩
    go_wp2
    go_ret
    exact ⟨rfl, b1⟩
  · subst h
    have PN := par_new w (.cells (ncs ⟨5, xt, xn, xv, xa⟩) 44) [a, wIs, wNull] (by simp) (by simp [Lib.join, List.intercalate, List.intersperse]; omega)
    have PN' : Calls Tryz.prog 64 #[.slice (some ⟨w.heap.size + 1, 0, none⟩) 3 3] ((w.alloc (.cells (ncs ⟨5, xt, xn, xv, xa⟩) 44)).alloc (.cells #[.string ⟨a.toArray⟩, .string ⟨#[105, 115]⟩, .string ⟨#[110, 117, 108, 108]⟩] 9)) fun e w' => e = .returned (.string ⟨(parT [a, wIs, wNull]).toArray⟩) ∧ Below w.heap.size w w' := PN
    clear PN hs
    have et : txtN pv ⟨5, xt, xn, xv, xa⟩ [a] = parT [a, wIs, wNull] := rfl
    rw [et]
    clear et
    generalize parT [a, wIs, wNull] = F at *
    go_enter Tryz.func39, Tryz.ntmps39
    go_wp2_with fail
    refine PN'.mono ?_
    rintro e w1 ⟨rfl, b1⟩
    go_wp2
    go_ret
    exact ⟨rfl, b1⟩

set_option maxRecDepth 20000 in
set_option maxHeartbeats 4000000 in
theorem textOf_two (pv : Va → List UInt8) (x : Nd) (j : Nat) (g off c : Nat) (a b : List UInt8) (w : World) (hj : x.o = (j : Int)) (hj1 : 6 ≤ j) (hj2 : j ≤ 18) (hs : Sw w g off [a, b]) (ha : a.length ≤ 10000000000000) (hb : b.length ≤ 10000000000000) (hS : Sg w) :
    Calls Tryz.prog 39 #[ndv x, .slice (some ⟨g, off, none⟩) 2 c] w fun e w' => e = .returned (.string ⟨(txtN pv x [a, b]).toArray⟩) ∧ Below w.heap.size w w' := by
  obtain ⟨xo, xt, xn, xv, xa⟩ := x
  simp only at hj
  subst hj
  have c0 : w.cell? ⟨g, off, none⟩ = some (.string ⟨a.toArray⟩) := hs 0 (by simp)
  have c1 : w.cell? ⟨g, off + 1, none⟩ = some (.string ⟨b.toArray⟩) := hs 1 (by simp)
  have c2 := hS j (by omega)
  have hg := World.block_lt_of_cell? w _ c0
  have hg2 := World.block_lt_of_cell? w _ c2
  have n1 : ((j : Int) == 1) = false := by rw [beq_eq_false_iff_ne]; omega
  have n2 : ((j : Int) == 2) = false := by rw [beq_eq_false_iff_ne]; omega
  have n3 : ((j : Int) == 3) = false := by rw [beq_eq_false_iff_ne]; omega
  have n4 : ((j : Int) == 4) = false := by rw [beq_eq_false_iff_ne]; omega
  have n5 : ((j : Int) == 5) = false := by rw [beq_eq_false_iff_ne]; omega
  have n19 : ((j : Int) == 19) = false := by rw [beq_eq_false_iff_ne]; omega
  have j0 : (0 : Int) ≤ (j : Int) := by omega
  have j1 : (j : Int) < 19 := by omega
  have hsl : (sgn j).length ≤ 3 := by
    have : ∀ j, j < 19 → (sgn j).length ≤ 3 := by decide
    exact this j (by omega)
  go_enter Tryz.func39, Tryz.ntmps39
  go_wp2_with fail
  have CC : Hid (∀ W, Below (w.alloc (.cells (ncs ⟨(j : Int), xt, xn, xv, xa⟩) 44)).heap.size (w.alloc (.cells (ncs ⟨(j : Int), xt, xn, xv, xa⟩) 44)) W → W.cell? ⟨g, off, none⟩ = some (.string ⟨a.toArray⟩) ∧ W.cell? ⟨g, off + 1, none⟩ = some (.string ⟨b.toArray⟩) ∧ W.cell? ⟨0, j, none⟩ = some (.string ⟨(sgn j).toArray⟩) ∧ W.cell? ⟨w.heap.size, 0, none⟩ = some (.int .i64 (j : Int))) := fun W h => by
    have B1 : Below w.heap.size w W := ((Below.refl _ w).alloc (Nat.le_refl _) _).trans (h.mono (by simp))
    exact ⟨(B1.cell (p := ⟨g, off, none⟩) hg).trans c0, (B1.cell (p := ⟨g, off + 1, none⟩) hg).trans c1, (B1.cell (p := ⟨0, j, none⟩) hg2).trans c2, (Cbox.later (Cbox.new w (ncs ⟨(j : Int), xt, xn, xv, xa⟩) 44) h).at 0⟩
  refine wp_region_held_drew (S := (fun W => Below (w.alloc (.cells (ncs ⟨(j : Int), xt, xn, xv, xa⟩) 44)).heap.size (w.alloc (.cells (ncs ⟨(j : Int), xt, xn, xv, xa⟩) 44)) W)) (by kernel_rfl) ?_ (fun hHeld => ?_)
  · exact (Below.refl _ _).drew
  refine wpAnyH_take (i := 0) (oi := { dst := some 46, op := Op.move (Operand.tmp 1), type := 45, pos := "print.go:54", after := #[], guard := none }) (v := ?_) rfl (by kernel_rfl) (by kernel_rfl) (by kernel_rfl) (fun _ _ _ h => h) (Or.inl ⟨by rfl, ?_⟩) (by assumption) ?_
  rotate_left
  · (intro W hSw; (try dsimp only at hSw); obtain ⟨q0, q1, q2, q3⟩ := CC.out W hSw; first | (go_simp; done) | (go_simp; with_reducible rfl))
  try simp only [Act.put, List.setIfInBounds_toArray, List.set_cons_zero, List.set_cons_succ]
  refine wpAnyH_take (i := 1) (oi := { dst := some 47, op := Op.indexAddr 45 (Operand.tmp 46) (Operand.const (Value.int IntKind.i64 0)), type := 0, pos := "print.go:54", after := #[{ on := 0, ground := Ground.data }], guard := none }) (v := ?_) rfl (by kernel_rfl) (by kernel_rfl) (by kernel_rfl) (fun _ _ _ h => h) (Or.inl ⟨by rfl, ?_⟩) (by assumption) ?_
  rotate_left
  · (intro W hSw; (try dsimp only at hSw); obtain ⟨q0, q1, q2, q3⟩ := CC.out W hSw; first | (go_simp; done) | (go_simp; with_reducible rfl))
  try simp only [Act.put, List.setIfInBounds_toArray, List.set_cons_zero, List.set_cons_succ]
  refine wpAnyH_take (i := 2) (oi := { dst := some 48, op := Op.load 9 (Operand.tmp 47), type := 9, pos := "print.go:54", after := #[{ on := 1, ground := Ground.data }], guard := none }) (v := ?_) rfl (by kernel_rfl) (by kernel_rfl) (by kernel_rfl) (fun _ _ _ h => h) (Or.inl ⟨by rfl, ?_⟩) (by assumption) ?_
  rotate_left
  · (intro W hSw; (try dsimp only at hSw); obtain ⟨q0, q1, q2, q3⟩ := CC.out W hSw; first | (go_simp; done) | (go_simp; with_reducible rfl))
  try simp only [Act.put, List.setIfInBounds_toArray, List.set_cons_zero, List.set_cons_succ]
  refine wpAnyH_take (i := 3) (oi := { dst := some 49, op := Op.fieldAddr 44 (Operand.tmp 2) 0, type := 0, pos := "print.go:54", after := #[], guard := none }) (v := ?_) rfl (by kernel_rfl) (by kernel_rfl) (by kernel_rfl) (fun _ _ _ h => h) (Or.inl ⟨by rfl, ?_⟩) (by assumption) ?_
  rotate_left
  · (intro W hSw; (try dsimp only at hSw); obtain ⟨q0, q1, q2, q3⟩ := CC.out W hSw; first | (go_simp; done) | (go_simp; with_reducible rfl))
  try simp only [Act.put, List.setIfInBounds_toArray, List.set_cons_zero, List.set_cons_succ]
  refine wpAnyH_take (i := 4) (oi := { dst := some 50, op := Op.load 3 (Operand.tmp 49), type := 3, pos := "print.go:54", after := #[{ on := 3, ground := Ground.data }], guard := none }) (v := ?_) rfl (by kernel_rfl) (by kernel_rfl) (by kernel_rfl) (fun _ _ _ h => h) (Or.inl ⟨by rfl, ?_⟩) (by assumption) ?_
  rotate_left
  · (intro W hSw; (try dsimp only at hSw); obtain ⟨q0, q1, q2, q3⟩ := CC.out W hSw; first | (go_simp; done) | (go_simp; with_reducible rfl))
  try simp only [Act.put, List.setIfInBounds_toArray, List.set_cons_zero, List.set_cons_succ]
  refine wpAnyH_take (i := 5) (oi := { dst := some 51, op := Op.indexAddr 98 (Operand.global 0) (Operand.tmp 50), type := 0, pos := "print.go:54", after := #[{ on := 4, ground := Ground.data }], guard := none }) (v := ?_) rfl (by kernel_rfl) (by kernel_rfl) (by kernel_rfl) (fun _ _ _ h => h) (Or.inl ⟨by rfl, ?_⟩) (by assumption) ?_
  rotate_left
  · (intro W hSw; (try dsimp only at hSw); obtain ⟨q0, q1, q2, q3⟩ := CC.out W hSw; first | (go_simp; done) | (go_simp; with_reducible rfl))
  try simp only [Act.put, List.setIfInBounds_toArray, List.set_cons_zero, List.set_cons_succ]
  refine wpAnyH_take (i := 6) (oi := { dst := some 52, op := Op.load 9 (Operand.tmp 51), type := 9, pos := "print.go:54", after := #[{ on := 5, ground := Ground.data }], guard := none }) (v := ?_) rfl (by kernel_rfl) (by kernel_rfl) (by kernel_rfl) (fun _ _ _ h => h) (Or.inl ⟨by rfl, ?_⟩) (by assumption) ?_
  rotate_left
  · (intro W hSw; (try dsimp only at hSw); obtain ⟨q0, q1, q2, q3⟩ := CC.out W hSw; first | (go_simp; done) | (go_simp; with_reducible rfl))
  try simp only [Act.put, List.setIfInBounds_toArray, List.set_cons_zero, List.set_cons_succ]
  refine wpAnyH_take (i := 7) (oi := { dst := some 53, op := Op.move (Operand.tmp 1), type := 45, pos := "print.go:54", after := #[], guard := none }) (v := ?_) rfl (by kernel_rfl) (by kernel_rfl) (by kernel_rfl) (fun _ _ _ h => h) (Or.inl ⟨by rfl, ?_⟩) (by assumption) ?_
  rotate_left
  · (intro W hSw; (try dsimp only at hSw); obtain ⟨q0, q1, q2, q3⟩ := CC.out W hSw; first | (go_simp; done) | (go_simp; with_reducible rfl))
  try simp only [Act.put, List.setIfInBounds_toArray, List.set_cons_zero, List.set_cons_succ]
  refine wpAnyH_take (i := 8) (oi := { dst := some 54, op := Op.indexAddr 45 (Operand.tmp 53) (Operand.const (Value.int IntKind.i64 1)), type := 0, pos := "print.go:54", after := #[{ on := 7, ground := Ground.data }], guard := none }) (v := ?_) rfl (by kernel_rfl) (by kernel_rfl) (by kernel_rfl) (fun _ _ _ h => h) (Or.inl ⟨by rfl, ?_⟩) (by assumption) ?_
  rotate_left
  · (intro W hSw; (try dsimp only at hSw); obtain ⟨q0, q1, q2, q3⟩ := CC.out W hSw; first | (go_simp; done) | (go_simp; with_reducible rfl))
  try simp only [Act.put, List.setIfInBounds_toArray, List.set_cons_zero, List.set_cons_succ]
  refine wpAnyH_take (i := 9) (oi := { dst := some 55, op := Op.load 9 (Operand.tmp 54), type := 9, pos := "print.go:54", after := #[{ on := 8, ground := Ground.data }], guard := none }) (v := ?_) rfl (by kernel_rfl) (by kernel_rfl) (by kernel_rfl) (fun _ _ _ h => h) (Or.inl ⟨by rfl, ?_⟩) (by assumption) ?_
  rotate_left
  · (intro W hSw; (try dsimp only at hSw); obtain ⟨q0, q1, q2, q3⟩ := CC.out W hSw; first | (go_simp; done) | (go_simp; with_reducible rfl))
  try simp only [Act.put, List.setIfInBounds_toArray, List.set_cons_zero, List.set_cons_succ]
  refine wpAnyH_ready (rs := [10]) (by kernel_rfl) (by simp) ?_
  refine AllReadyH.cons (o := { dst := some 56, op := Op.buildSlice 45 3 #[(0, Operand.tmp 48), (1, Operand.tmp 52), (2, Operand.tmp 55)], type := 45, pos := "print.go:54", after := #[{ on := 2, ground := Ground.data }, { on := 6, ground := Ground.data }, { on := 9, ground := Ground.data }], guard := none }) rfl (fun K hK => ?_) AllReadyH.nil
  go_simp
  refine hK.out _ _ ?_ (fun hHeld => ?_)
  · ((try dsimp only); exact hHeld.alloc hHeld.size _)
  clear hK K
  try simp only [Act.put, List.setIfInBounds_toArray, List.set_cons_zero, List.set_cons_succ]
  refine wpAnyH_ready (rs := [11]) (by kernel_rfl) (by simp) ?_
  refine AllReadyH.cons (o := { dst := some 57, op := Op.call { callee := Callee.value (Operand.func 64), args := #[Operand.tmp 56], argTypes := #[45] }, type := 9, pos := "print.go:54", after := #[{ on := 10, ground := Ground.data }], guard := none }) rfl (fun K hK => ?_) AllReadyH.nil
  go_simp
  go_wp2_with fail
  refine (par_at _ (w.heap.size + 1) [a, sgn j, b] ?_ (by simp) (by simp [Lib.join, List.intercalate, List.intersperse]; omega)).mono ?_
  · (have hc := Cbox.new (w.alloc (.cells (ncs ⟨(j : Int), xt, xn, xv, xa⟩) 44)) #[.string ⟨a.toArray⟩, .string ⟨(sgn j).toArray⟩, .string ⟨b.toArray⟩] 9; rw [World.size_alloc] at hc; exact hc.later (Below.refl _ _).drew)
  rintro e w1 ⟨rfl, b1⟩
  try dsimp only
  refine hK.out _ _ ?_ (fun hHeld => ?_)
  · ((try dsimp only); exact hHeld.trans (b1.mono hHeld.size))
  clear hK K
  try simp only [Act.put, List.setIfInBounds_toArray, List.set_cons_zero, List.set_cons_succ]
  refine wpAnyH_take (i := 12) (oi := { dst := some 4, op := Op.assign (Operand.tmp 57), type := 9, pos := "print.go:54", after := #[{ on := 11, ground := Ground.data }, { on := 11, ground := Ground.chain }, { on := 0, ground := Ground.phase }, { on := 1, ground := Ground.phase }, { on := 2, ground := Ground.phase }, { on := 3, ground := Ground.phase }, { on := 4, ground := Ground.phase }, { on := 5, ground := Ground.phase }, { on := 6, ground := Ground.phase }, { on := 7, ground := Ground.phase }, { on := 8, ground := Ground.phase }, { on := 9, ground := Ground.phase }, { on := 10, ground := Ground.phase }, { on := 11, ground := Ground.phase }], guard := none }) (v := ?_) rfl (by kernel_rfl) (by kernel_rfl) (by kernel_rfl) (fun _ _ _ h => h) (Or.inl ⟨by rfl, ?_⟩) (by assumption) ?_
  rotate_left
  · (intro W hSw; (try dsimp only at hSw); obtain ⟨q0, q1, q2, q3⟩ := CC.out W hSw; first | (go_simp; done) | (go_simp; with_reducible rfl))
  try simp only [Act.put, List.setIfInBounds_toArray, List.set_cons_zero, List.set_cons_succ]
  refine wpAnyH_done (by kernel_rfl) ?_ _
  go_wp2
  go_ret
  have et : txtN pv ⟨(j : Int), xt, xn, xv, xa⟩ [a, b] = parT [a, sgn j, b] := by
    unfold txtN
    simp only
    rw [if_neg (by omega), if_neg (by omega), if_neg (by omega), if_neg (by omega), if_neg (by omega), if_neg (by omega)]
    rfl
  rw [et]
  exact ⟨rfl, ((Below.refl _ w).alloc (Nat.le_refl _) _).trans (hHeld.mono (by simp))⟩
end Go.Proofs.YtclhmmgdhagloaaGreatDoor
