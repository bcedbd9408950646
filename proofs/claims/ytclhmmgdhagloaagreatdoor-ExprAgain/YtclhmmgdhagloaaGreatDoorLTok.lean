/-
  Tokens as they lie in memory; the contract of lexer.tokenAt.
-/
import Derived.Test.YtclhmmgdhagloaaGreatDoorMwLByte
import Derived.Test.YtclhmmgdhagloaaGreatDoorLTold
namespace Go.Proofs.YtclhmmgdhagloaaGreatDoor
open Go.RowKit Go.Shelf
attribute [local go_sem] cell?_more frozen?_more setCell_more more_lt more_more more_drew more_drewN setCell_drewN alloc_drewN

abbrev Tok := Tk Va
abbrev vz : Va := ⟨0, 0, 0, []⟩
/-- A token's cells, and as the program has it. -/
abbrev tcs (x : Tok) : Array Value := #[.int .i64 (x.k : Int), .string ⟨x.t.toArray⟩, .int .i64 x.v.k, .int .i64 x.v.n, .int .i64 x.v.m, .string ⟨x.v.b.toArray⟩, .int .i64 (x.a : Int)]
abbrev tkv (x : Tok) : Value := .agg (tcs x)

/-- Cells lie in a block of their own. -/
def Cbox (w : World) (p : Nat) (cs : Array Value) (ty : TypeId) : Prop := w.heap[p]? = some (.cells cs ty (0, 0))
theorem Cbox.lt {w : World} {p : Nat} {cs : Array Value} {ty : TypeId} (h : Cbox w p cs ty) : p < w.heap.size := by
  by_cases hp : p < w.heap.size
  · exact hp
  · unfold Cbox at h
    rw [Array.getElem?_eq_none (by omega)] at h
    cases h
theorem Cbox.later {w w' : World} {p : Nat} {cs : Array Value} {ty : TypeId} (h : Cbox w p cs ty) (hb : Below w.heap.size w w') : Cbox w' p cs ty := by
  unfold Cbox
  rw [hb.block p h.lt]
  exact h
theorem Cbox.at {w : World} {p : Nat} {cs : Array Value} {ty : TypeId} (h : Cbox w p cs ty) (j : Nat) : w.cell? ⟨p, j, none⟩ = cs[j]? := cell_of_row w p j _ _ (0, 0) h
theorem Cbox.free {w : World} {p : Nat} {cs : Array Value} {ty : TypeId} (h : Cbox w p cs ty) (j : Nat) : w.frozen? ⟨p, j, none⟩ = false := by
  unfold Cbox at h
  simp [World.frozen?, h]
theorem Cbox.new (w : World) (cs : Array Value) (ty : TypeId) : Cbox (w.alloc (.cells cs ty)) w.heap.size cs ty := by
  unfold Cbox
  show (w.heap.push _)[w.heap.size]? = _
  simp

theorem bl_set {B off : Nat} {a w : World} (h : Below B a w) (u : Value) : Below B a (w.setCell ⟨B, off, none⟩ u) := h.setCell (Nat.le_refl _) u

theorem bl_set2 {B b off : Nat} {a w : World} (h : Below B a w) (hb : B ≤ b) (u : Value) : Below B a (w.setCell ⟨b, off, none⟩ u) := h.setCell hb u

theorem kind_le (l : List UInt8) : (lxt l).1 ≤ 3 := by
  match l with
  | [] => simp [lxt]
  | c :: l =>
    rw [lxt_cons]
    repeat' split
    all_goals simp

theorem lit_take (l : List UInt8) (h : (lxt l).1 = 3) : litH (l.take (lxt l).2) := by
  have hp := lxt_pos l (by omega)
  match l, h with
  | c :: l, h =>
    obtain ⟨n, hn⟩ : ∃ n, (lxt (c :: l)).2 = n + 1 := ⟨_, (Nat.sub_add_cancel hp).symm⟩
    rw [hn, List.take_succ_cons]
    refine ⟨c, _, rfl, ?_⟩
    rw [lxt_cons] at h
    split at h
    · cases h
    split at h
    · rename_i hd; exact .inr hd
    split at h
    · rename_i hq; exact .inl hq
    split at h
    · cases h
    split at h
    · cases h
    split at h <;> cases h


set_option maxHeartbeats 4000000 in
theorem tokenAt_name (B TB : ByteArray) (i n L : Nat) (w : World) (hsz : B.size = L) (hin : i + n ≤ L) (_hL : L ≤ 140737488351232) (hx : B.extract i (i + n) = TB)
    (D : ∀ W, Calls Tryz.prog 132 #[.string B, .int .i64 (i : Int)] W fun e w' => e = .returned (.tuple #[.int .i64 1, .int .i64 ((i : Int) + (n : Int))]) ∧ W = w')
    (C : ∀ W, Calls Tryz.prog 38 #[.string TB] W fun e w' => e = .returned (.string TB) ∧ Below W.heap.size W w')
    (b : Bool) (F : ∀ W, Calls Tryz.prog 133 #[.string TB] W fun e w' => e = .returned (.bool b) ∧ W = w') :
    Calls Tryz.prog 72 #[.string B, .int .i64 (i : Int)] w fun e w' => e = .returned (.tuple #[.agg #[.int .i64 1, .string TB, .int .i64 0, .int .i64 0, .int .i64 0, .string ⟨#[]⟩, .int .i64 (i : Int)], .bool b]) ∧ Below w.heap.size w w' := by
  have Z := Cbox.new w #[.int .i64 0, .string ⟨#[]⟩, .int .i64 0, .int .i64 0, .int .i64 0, .string ⟨#[]⟩, .int .i64 0] 108
  have j0 : (0 : Int) ≤ (i : Int) := by omega
  have j2 : (i : Int) ≤ (i : Int) + (n : Int) := by omega
  have j3 : (i : Int) + (n : Int) ≤ (L : Int) := by omega
  have j4 : ((i : Int) + (n : Int)).toNat = i + n := by omega
  go_enter Tryz.func72, Tryz.ntmps72
  go_wp2_with (first
    | (go_at_call 132; refine (D _).mono ?_; rintro e w' ⟨rfl, rfl⟩)
    | (go_at_call 38; refine (C _).mono ?_; rintro e w1 ⟨rfl, b1⟩; have Z1 := Z.later b1; have zz := Z1; have z0 := zz.at 0; have z1 := zz.at 1; have z2 := zz.at 2; have z3 := zz.at 3; have z4 := zz.at 4; have z5 := zz.at 5; have z6 := zz.at 6; have f0 := zz.free 0; have f1 := zz.free 1; have f2 := zz.free 2; have f3 := zz.free 3; have f4 := zz.free 4; have f5 := zz.free 5; have f6 := zz.free 6; have lt1 := zz.lt; clear zz))
  have B1 : Below w.heap.size w w1 := ((Below.refl _ w).alloc (Nat.le_refl _) _).trans (b1.mono (by simp))
  have hs1 := B1.size
  have lt2 : w.heap.size < w1.heap.size + 1 := by omega
  go_region_with (go_at_call 133; refine (F _).mono ?_; rintro e w' ⟨rfl, rfl⟩)
  all_goals go_wp2
  all_goals refine bodyPost_ret_by (v := .tuple #[.agg #[.int .i64 1, .string TB, .int .i64 0, .int .i64 0, .int .i64 0, .string ⟨#[]⟩, .int .i64 (i : Int)], .bool b]) ?_ rfl ⟨rfl, ?_⟩
  all_goals first
    | (simp [results, Tryz.results72, go_sem, z0, z1, z2, z3, z4, z5, z6, lt1]; done)
    | skip
  all_goals (repeat (first | with_reducible exact B1 | with_reducible refine bl_set ?_ _ | with_reducible refine Below.drew ?_ | with_reducible refine Below.alloc ?_ (by simp; omega) _ | with_reducible refine bl_set2 ?_ (by omega) _))

set_option maxHeartbeats 4000000 in
theorem tokenAt_sign (B TB : ByteArray) (i n L : Nat) (w : World) (hsz : B.size = L) (hin : i + n ≤ L) (_hL : L ≤ 140737488351232) (hx : B.extract i (i + n) = TB)
    (D : ∀ W, Calls Tryz.prog 132 #[.string B, .int .i64 (i : Int)] W fun e w' => e = .returned (.tuple #[.int .i64 2, .int .i64 ((i : Int) + (n : Int))]) ∧ W = w')
    (C : ∀ W, Calls Tryz.prog 38 #[.string TB] W fun e w' => e = .returned (.string TB) ∧ Below W.heap.size W w') :
    Calls Tryz.prog 72 #[.string B, .int .i64 (i : Int)] w fun e w' => e = .returned (.tuple #[.agg #[.int .i64 2, .string TB, .int .i64 0, .int .i64 0, .int .i64 0, .string ⟨#[]⟩, .int .i64 (i : Int)], .bool true]) ∧ Below w.heap.size w w' := by
  have Z := Cbox.new w #[.int .i64 0, .string ⟨#[]⟩, .int .i64 0, .int .i64 0, .int .i64 0, .string ⟨#[]⟩, .int .i64 0] 108
  have j0 : (0 : Int) ≤ (i : Int) := by omega
  have j2 : (i : Int) ≤ (i : Int) + (n : Int) := by omega
  have j3 : (i : Int) + (n : Int) ≤ (L : Int) := by omega
  have j4 : ((i : Int) + (n : Int)).toNat = i + n := by omega
  go_enter Tryz.func72, Tryz.ntmps72
  go_wp2_with (first
    | (go_at_call 132; refine (D _).mono ?_; rintro e w' ⟨rfl, rfl⟩)
    | (go_at_call 38; refine (C _).mono ?_; rintro e w1 ⟨rfl, b1⟩; have Z1 := Z.later b1; have zz := Z1; have z0 := zz.at 0; have z1 := zz.at 1; have z2 := zz.at 2; have z3 := zz.at 3; have z4 := zz.at 4; have z5 := zz.at 5; have z6 := zz.at 6; have f0 := zz.free 0; have f1 := zz.free 1; have f2 := zz.free 2; have f3 := zz.free 3; have f4 := zz.free 4; have f5 := zz.free 5; have f6 := zz.free 6; have lt1 := zz.lt; clear zz))
  have B1 : Below w.heap.size w w1 := ((Below.refl _ w).alloc (Nat.le_refl _) _).trans (b1.mono (by simp))
  have hs1 := B1.size
  have lt2 : w.heap.size < w1.heap.size + 1 := by omega
  all_goals go_wp2
  all_goals refine bodyPost_ret_by (v := .tuple #[.agg #[.int .i64 2, .string TB, .int .i64 0, .int .i64 0, .int .i64 0, .string ⟨#[]⟩, .int .i64 (i : Int)], .bool true]) ?_ rfl ⟨rfl, ?_⟩
  all_goals first
    | (simp [results, Tryz.results72, go_sem, z0, z1, z2, z3, z4, z5, z6, lt1]; done)
    | skip
  all_goals (repeat (first | with_reducible exact B1 | with_reducible refine bl_set ?_ _ | with_reducible refine Below.drew ?_ | with_reducible refine Below.alloc ?_ (by simp; omega) _ | with_reducible refine bl_set2 ?_ (by omega) _))

set_option maxHeartbeats 4000000 in
theorem tokenAt_lit (B TB : ByteArray) (i n L : Nat) (w : World) (hsz : B.size = L) (hin : i + n ≤ L) (_hL : L ≤ 140737488351232) (hx : B.extract i (i + n) = TB)
    (D : ∀ W, Calls Tryz.prog 132 #[.string B, .int .i64 (i : Int)] W fun e w' => e = .returned (.tuple #[.int .i64 3, .int .i64 ((i : Int) + (n : Int))]) ∧ W = w')
    (C : ∀ W, Calls Tryz.prog 38 #[.string TB] W fun e w' => e = .returned (.string TB) ∧ Below W.heap.size W w')
    (vk vn vm E : Int) (vb : ByteArray) (V : ∀ W, Below w.heap.size w W → Calls Tryz.prog 134 #[.string TB] W fun e w' => e = .returned (.tuple #[va vk vn vm vb, .int .i64 E]) ∧ Below W.heap.size W w') :
    Calls Tryz.prog 72 #[.string B, .int .i64 (i : Int)] w fun e w' => e = .returned (.tuple #[.agg #[.int .i64 3, .string TB, .int .i64 vk, .int .i64 vn, .int .i64 vm, .string vb, .int .i64 (i : Int)], .bool (E == 0)]) ∧ Below w.heap.size w w' := by
  have Z := Cbox.new w #[.int .i64 0, .string ⟨#[]⟩, .int .i64 0, .int .i64 0, .int .i64 0, .string ⟨#[]⟩, .int .i64 0] 108
  have j0 : (0 : Int) ≤ (i : Int) := by omega
  have j2 : (i : Int) ≤ (i : Int) + (n : Int) := by omega
  have j3 : (i : Int) + (n : Int) ≤ (L : Int) := by omega
  have j4 : ((i : Int) + (n : Int)).toNat = i + n := by omega
  go_enter Tryz.func72, Tryz.ntmps72
  go_wp2_with (first
    | (go_at_call 132; refine (D _).mono ?_; rintro e w' ⟨rfl, rfl⟩)
    | (go_at_call 38; refine (C _).mono ?_; rintro e w1 ⟨rfl, b1⟩; have Z1 := Z.later b1))
  have B1 : Below w.heap.size w w1 := ((Below.refl _ w).alloc (Nat.le_refl _) _).trans (b1.mono (by simp))
  have hs1 := B1.size
  have lt2 : w.heap.size < w1.heap.size + 1 := by omega
  refine (V _ (B1.alloc hs1 _)).mono ?_
  rintro e w2 ⟨rfl, b2⟩
  have yy : Cbox w2 w1.heap.size #[.int .i64 3, .string TB, .int .i64 0, .int .i64 0, .int .i64 0, .string ⟨#[]⟩, .int .i64 (i : Int)] 108 := (Cbox.new w1 _ _).later b2
  have b12 : Below w1.heap.size w1 w2 := ((Below.refl _ w1).alloc (Nat.le_refl _) _).trans (b2.mono (by simp))
  have zz := Z1.later b12
  have B2 : Below w.heap.size w w2 := B1.trans (b12.mono hs1)
  have lz : w.heap.size < w1.heap.size := Z1.lt
  have lne : ¬ w.heap.size = w1.heap.size := by omega
  have lne2 : ¬ w1.heap.size = w.heap.size := by omega
  have z0 := zz.at 0
  have z1 := zz.at 1
  have z2 := zz.at 2
  have z3 := zz.at 3
  have z4 := zz.at 4
  have z5 := zz.at 5
  have z6 := zz.at 6
  have f0 := zz.free 0
  have f1 := zz.free 1
  have f2 := zz.free 2
  have f3 := zz.free 3
  have f4 := zz.free 4
  have f5 := zz.free 5
  have f6 := zz.free 6
  have lt1 := zz.lt
  clear zz
  have y0 := yy.at 0
  have y1 := yy.at 1
  have y2 := yy.at 2
  have y3 := yy.at 3
  have y4 := yy.at 4
  have y5 := yy.at 5
  have y6 := yy.at 6
  have g0 := yy.free 0
  have g1 := yy.free 1
  have g2 := yy.free 2
  have g3 := yy.free 3
  have g4 := yy.free 4
  have g5 := yy.free 5
  have g6 := yy.free 6
  have ly1 := yy.lt
  clear yy
  have lt3 : w.heap.size < w2.heap.size + 1 := by omega
  have lt4 : w1.heap.size < w2.heap.size + 1 := by omega
  clear b1 b2 b12 Z Z1 V C D
  go_wp2
  refine bodyPost_ret_by (v := .tuple #[.agg #[.int .i64 3, .string TB, .int .i64 vk, .int .i64 vn, .int .i64 vm, .string vb, .int .i64 (i : Int)], .bool (E == 0)]) ?_ rfl ⟨rfl, ?_⟩
  · simp [results, Tryz.results72, go_sem, z0, z1, z2, z3, z4, z5, z6, lt1]
  · (repeat (first | with_reducible exact B2 | with_reducible refine bl_set ?_ _ | with_reducible refine Below.drew ?_ | with_reducible refine Below.alloc ?_ (by simp; omega) _ | with_reducible refine bl_set2 ?_ (by omega) _))

theorem tokenAt_any (l : List UInt8) (i : Nat) (w : World) (hl : l.length ≤ 140737488351232) (hi : i ≤ l.length) (hT : Tabs w) (hP : Ptab w) :
    Calls Tryz.prog 72 #[.string ⟨l.toArray⟩, .int .i64 (i : Int)] w fun e w' => (match tok vz dpv (l.drop i) i with | none => ∃ x : Tok, e = .returned (.tuple #[tkv x, .bool false]) | some x => e = .returned (.tuple #[tkv x, .bool true])) ∧ Below w.heap.size w w' := by
  have D := fun W => told_any l i W hl
  unfold tv at D
  have hle := lxt_le (l.drop i)
  rw [List.length_drop] at hle
  have hsz : (ByteArray.mk l.toArray).size = l.length := rfl
  have hx : (ByteArray.mk l.toArray).extract i (i + (lxt (l.drop i)).2) = ⟨((l.drop i).take (lxt (l.drop i)).2).toArray⟩ := by
    rw [ba_extract]
    congr 1
    congr 1
    rw [List.drop_take]; simp
  have C : ∀ W, Calls Tryz.prog 38 #[.string ⟨((l.drop i).take (lxt (l.drop i)).2).toArray⟩] W fun e w' => e = .returned (.string ⟨((l.drop i).take (lxt (l.drop i)).2).toArray⟩) ∧ Below W.heap.size W w' := fun W => clone_any _ W (by show ((l.drop i).take (lxt (l.drop i)).2).length ≤ _; simp; omega)
  have F := fun W => fitsName_any ⟨((l.drop i).take (lxt (l.drop i)).2).toArray⟩ W
  have hfs : (ByteArray.mk ((l.drop i).take (lxt (l.drop i)).2).toArray).size = (lxt (l.drop i)).2 := by show ((l.drop i).take (lxt (l.drop i)).2).length = _; simp; omega
  rw [hfs] at F
  have hlit := lit_take (l.drop i)
  have hk := kind_le (l.drop i)
  unfold tok
  have V : (lxt (l.drop i)).1 = 3 → ∀ W, Below w.heap.size w W → Calls Tryz.prog 134 #[.string ⟨((l.drop i).take (lxt (l.drop i)).2).toArray⟩] W fun e w' => e = .returned (dpR (dpv ((l.drop i).take (lxt (l.drop i)).2))) ∧ Below W.heap.size W w' := fun h W hb => vparse_any _ W (by simp; omega) (hlit h) (hT.later hb) (hP.later hb)
  clear hlit hT hP
  generalize (l.drop i).take (lxt (l.drop i)).2 = t at *
  generalize (lxt (l.drop i)).2 = n at *
  generalize (lxt (l.drop i)).1 = k at *
  have hin : i + n ≤ l.length := by omega
  by_cases k0 : k = 0
  · subst k0
    rw [if_pos rfl]
    clear C F hfs V hx hin
    generalize ByteArray.mk l.toArray = B at *
    go_enter Tryz.func72, Tryz.ntmps72
    go_wp2_with (go_at_call 132; refine (D _).mono ?_; rintro e w' ⟨rfl, rfl⟩)
    refine bodyPost_ret_by (v := .tuple #[tkv ⟨0, [], vz, 0⟩, .bool false]) ?_ rfl ⟨⟨⟨0, [], vz, 0⟩, rfl⟩, ?_⟩
    · simp [results, Tryz.results72, go_sem]
    · exact (Below.refl _ w).alloc (Nat.le_refl _) _
  rw [if_neg k0] at D ⊢
  rw [show ((i + n : Nat) : Int) = (i : Int) + (n : Int) by omega] at D
  by_cases k1 : k = 1
  · subst k1
    rw [if_pos rfl]
    have R := tokenAt_name _ _ i n l.length w hsz hin hl hx D C _ F
    by_cases hn : n ≤ 32
    · rw [if_pos hn]
      rw [decide_eq_true hn] at R
      exact R
    · rw [if_neg hn]
      rw [decide_eq_false hn] at R
      refine R.mono ?_
      rintro e w' ⟨rfl, hb⟩
      exact ⟨⟨⟨1, t, vz, i⟩, rfl⟩, hb⟩
  rw [if_neg k1]
  by_cases k3 : k = 3
  · subst k3
    rw [if_pos rfl]
    have V' := V rfl
    cases hdp : dpv t with
    | none =>
      rw [hdp] at V'
      refine (tokenAt_lit _ _ i n l.length w hsz hin hl hx D C 0 0 0 21 ⟨#[]⟩ V').mono ?_
      rintro e w' ⟨rfl, hb⟩
      exact ⟨⟨⟨3, t, vz, i⟩, rfl⟩, hb⟩
    | some v =>
      rw [hdp] at V'
      exact tokenAt_lit _ _ i n l.length w hsz hin hl hx D C v.k v.n v.m 0 ⟨v.b.toArray⟩ V'
  · have k2 : k = 2 := by omega
    subst k2
    rw [if_neg k3]
    exact tokenAt_sign _ _ i n l.length w hsz hin hl hx D C
end Go.Proofs.YtclhmmgdhagloaaGreatDoor
