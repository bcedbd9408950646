/-
  The library's strings.Join laid at this program.
  The contracts of columnText and inParentheses of package expr.
-/
import Derived.Test.YtgapmofhnjfdiaaGreatDoorECol
import Derived.Shelf.Strings.OnBuilder
import Derived.Ground.NamesProg
import Derived.Shelf.Lay
namespace Go.Proofs.YtgapmofhnjfdiaaGreatDoor
open Go.RowKit Go.Shelf

shelf_lay Lays.n156 Nm 156 at Tryz as Tryz.laysJoin
theorem joinX : Builder.Extra Tryz.prog Tryz.laysJoin_ren where
  sizeBuilder := by kernel_rfl
  liesBuilder := by kernel_rfl
  t5 := Tryz.underlying5
  a5 := Tryz.isAgg5
  z5 := Tryz.sizeOf5
  v5 := Tryz.zeroValue5
  infoByte := by kernel_rfl
  cellsByte := by kernel_rfl
  sizeByte := by kernel_rfl
  neB5 := by decide
theorem join_lib (bk o c : Nat) (xs : List ByteArray) (sep : ByteArray) (w : World)
    (hcells : ∀ (j : Nat) x, xs[j]? = some x → w.cell? ⟨bk, o + j, none⟩ = some (.string x))
    (hbk : bk < w.heap.size) (hN : xs.length ≤ 140737488355328) (hcap : xs.length ≤ c)
    (hlen : (Lib.join (xs.map (·.data.toList)) sep.data.toList).length ≤ 140737488355328) :
    Calls Tryz.prog 100 #[.slice (some ⟨bk, o, none⟩) xs.length c, .string sep] w fun e w' => e = .returned (.string ⟨(Lib.join (xs.map (·.data.toList)) sep.data.toList).toArray⟩) ∧ Below w.heap.size w w' :=
  Any.strings_Join Tryz.laysJoin joinX bk o c xs sep w hcells hbk hN hcap hlen
end Go.Proofs.YtgapmofhnjfdiaaGreatDoor

namespace Go.Proofs.YtgapmofhnjfdiaaGreatDoor
open Go.RowKit Go.Shelf
attribute [local go_sem] cell?_more frozen?_more setCell_more more_lt more_more more_drew more_drewN setCell_drewN alloc_drewN

/-- The text of a column. -/
def colT (x : Nd) : List UInt8 := if x.t = [] then x.n else x.t ++ [46] ++ x.n
set_option maxHeartbeats 4000000 in
theorem columnText_any (x : Nd) (w : World) (ht : x.t.length ≤ 140737488351232) (hn : x.n.length ≤ 140737488351232) :
    Calls Tryz.prog 98 #[ndv x] w fun e w' => e = .returned (.string ⟨(colT x).toArray⟩) ∧ Below w.heap.size w w' := by
  obtain ⟨xo, xt, xn, xv, xa⟩ := x
  unfold colT
  simp only at ht hn ⊢
  have A0 := (Below.refl w.heap.size w).alloc (Nat.le_refl _) (.cells (ncs ⟨xo, xt, xn, xv, xa⟩) 32)
  by_cases hx : xt = []
  · subst hx
    rw [if_pos rfl]
    go_enter Tryz.func98, Tryz.ntmps98
    go_wp2
    go_ret
    exact ⟨rfl, A0⟩
  · rw [if_neg hx]
    have hem : (ByteArray.mk xt.toArray).toList.isEmpty = false := by
      rw [Lib.toList_data]
      cases xt with
      | nil => exact absurd rfl hx
      | cons => rfl
    have hx2 : xt.isEmpty = false := by cases xt with | nil => exact absurd rfl hx | cons => rfl
    have e1 : (ByteArray.mk xt.toArray) ++ (ByteArray.mk #[46]) = ⟨(xt ++ [46]).toArray⟩ := ba_app xt [46]
    have e2 : (ByteArray.mk (xt ++ [46]).toArray) ++ (ByteArray.mk xn.toArray) = ⟨(xt ++ [46] ++ xn).toArray⟩ := ba_app (xt ++ [46]) xn
    have s1 : (ByteArray.mk xt.toArray).size = xt.length := rfl
    have s2 : (ByteArray.mk (xt ++ [46]).toArray).size = xt.length + 1 := by show (xt ++ [46]).length = _; simp
    have s3 : (ByteArray.mk xn.toArray).size = xn.length := rfl
    have s4 : (ByteArray.mk #[46]).size = 1 := rfl
    go_enter Tryz.func98, Tryz.ntmps98
    go_wp2
    go_ret
    exact ⟨by show Ending.returned (Value.string _) = _; simp, A0⟩

/-- Texts within parentheses, a blank between each two. -/
def parT (xs : List (List UInt8)) : List UInt8 := [40] ++ Lib.join xs [32] ++ [41]
set_option maxHeartbeats 4000000 in
theorem paren_any (bk o c : Nat) (xs : List (List UInt8)) (w : World) (hcells : ∀ (j : Nat) x, xs[j]? = some x → w.cell? ⟨bk, o + j, none⟩ = some (.string ⟨x.toArray⟩)) (hbk : bk < w.heap.size) (hN : xs.length ≤ 1000) (hcap : xs.length ≤ c)
    (hlen : (Lib.join xs [32]).length ≤ 140737488351232) :
    Calls Tryz.prog 99 #[.slice (some ⟨bk, o, none⟩) xs.length c] w fun e w' => e = .returned (.string ⟨(parT xs).toArray⟩) ∧ Below w.heap.size w w' := by
  have J := join_lib bk o c (xs.map fun x => ⟨x.toArray⟩) ⟨#[32]⟩ w (by
    intro j x hx
    rw [List.getElem?_map] at hx
    cases hq : xs[j]? with
    | none => rw [hq] at hx; cases hx
    | some y =>
      rw [hq] at hx
      cases hx
      exact hcells j y hq) hbk (by rw [List.length_map]; omega) (by rw [List.length_map]; omega) (by
    have e : (xs.map (fun x : List UInt8 => (⟨x.toArray⟩ : ByteArray))).map (·.data.toList) = xs := by rw [List.map_map]; simp [Function.comp_def]
    rw [e]
    show (Lib.join xs [32]).length ≤ _
    omega)
  have e : (xs.map (fun x : List UInt8 => (⟨x.toArray⟩ : ByteArray))).map (·.data.toList) = xs := by rw [List.map_map]; simp [Function.comp_def]
  rw [e, List.length_map] at J
  unfold parT
  have J' : Calls Tryz.prog 100 #[.slice (some ⟨bk, o, none⟩) xs.length c, .string ⟨#[32]⟩] w fun e w' => e = .returned (.string ⟨(Lib.join xs [32]).toArray⟩) ∧ Below w.heap.size w w' := J
  clear J e hcells
  generalize Lib.join xs [32] = T at *
  generalize xs.length = n at *
  have e1 : (ByteArray.mk #[40]) ++ (ByteArray.mk T.toArray) = ⟨([40] ++ T).toArray⟩ := ba_app [40] T
  have e2 : (ByteArray.mk ([40] ++ T).toArray) ++ (ByteArray.mk #[41]) = ⟨([40] ++ T ++ [41]).toArray⟩ := ba_app ([40] ++ T) [41]
  have s1 : (ByteArray.mk T.toArray).size = T.length := rfl
  have s2 : (ByteArray.mk ([40] ++ T).toArray).size = T.length + 1 := by show ([40] ++ T).length = _; simp
  have s3 : (ByteArray.mk #[40]).size = 1 := rfl
  have s4 : (ByteArray.mk #[41]).size = 1 := rfl
  generalize [40] ++ T ++ [41] = F at *
  generalize ByteArray.mk ([40] ++ T).toArray = B2 at *
  generalize ByteArray.mk T.toArray = B1 at *
  go_enter Tryz.func99, Tryz.ntmps99
  go_wp2_with (go_at_call 100; refine J'.mono ?_; rintro e w1 ⟨rfl, b1⟩)
  go_ret
  exact ⟨rfl, b1⟩
end Go.Proofs.YtgapmofhnjfdiaaGreatDoor
