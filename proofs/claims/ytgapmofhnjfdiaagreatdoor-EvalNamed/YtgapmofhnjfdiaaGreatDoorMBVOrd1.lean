/-
  The listed table of powers as the walks ask for it.
  The contracts of the document's Right and Same.
  The contracts of the law's Own and Same, and of datum.Rows.
  Lists of values that come in.
  Truth on both sides, and the walk of DatumTruths.
  datum.Same and datum.Row; the document's cmp, class, first and Row.
-/
import Derived.Test.YtgapmofhnjfdiaaGreatDoorMzVCmp
import Derived.Test.YtgapmofhnjfdiaaGreatDoorVCmp2
import Derived.Test.YtgapmofhnjfdiaaGreatDoorVGood
import Derived.Test.YtgapmofhnjfdiaaGreatDoorMaLJumps
import Derived.Deep.RegionHeld2
namespace Go.Proofs.YtgapmofhnjfdiaaGreatDoor
open Go.ChangeShapes Go.WideShapes Go.ChangeAt Go.WideMaps Go.WideElems Go.RowKit Go.Shelf Go.Lib

def powN : List Int := [1, 10, 100, 1000, 10000, 100000, 1000000, 10000000, 100000000, 1000000000, 10000000000, 100000000000, 1000000000000]
theorem pow_cells : ∀ k : Nat, k < 13 → (powN.map (Value.int .i64)).toArray[k]? = some (.int .i64 ((10 ^ k : Nat) : Int)) := by
  intro k hk
  match k, hk with
  | 0, _ => rfl
  | 1, _ => rfl
  | 2, _ => rfl
  | 3, _ => rfl
  | 4, _ => rfl
  | 5, _ => rfl
  | 6, _ => rfl
  | 7, _ => rfl
  | 8, _ => rfl
  | 9, _ => rfl
  | 10, _ => rfl
  | 11, _ => rfl
  | 12, _ => rfl

theorem pw_of {W : World} (h : VarReads Tryz.prog W "longstop/decimal.powers" Rows.laid_longstop_decimal_powers) : Pw W := by
  have gP : Tryz.prog.globalNamed "longstop/decimal.powers" = some 1 := by kernel_rfl
  have tP : (Tryz.prog.globals[1]?).map (·.type) = some 204 := by kernel_rfl
  have e : (Rows.laid_longstop_decimal_powers : DataW Unit) = Lib.tabData .i64 powN := by kernel_rfl
  rw [e] at h
  obtain ⟨g, t, cs, fuel, p, hg, hty, hvar, hd⟩ := h
  obtain rfl := Option.some.inj (gP.symm.trans hg)
  obtain rfl := Option.some.inj (tP.symm.trans hty)
  have hcs := Lib.cells_of_tab Tryz.underlying204 Tryz.underlying3 (by kernel_rfl) (by kernel_rfl) hd
  intro k hk
  have hc := World.var?_cell hg hvar k
  rw [hc, ← pow_cells k hk]
  have : cs = (powN.map (Value.int .i64)).toArray := by
    rw [← Array.toArray_toList (xs := cs), hcs]
  rw [this]
end Go.Proofs.YtgapmofhnjfdiaaGreatDoor

namespace Go.Proofs.YtgapmofhnjfdiaaGreatDoor
open Go.RowKit Go.Shelf
attribute [local go_sem] cell?_more frozen?_more setCell_more more_lt more_more more_drew more_drewN setCell_drewN alloc_drewN

theorem emptyE (b : ByteArray) : b.toList.isEmpty = (b.data.toList == []) := by
  rw [Lib.toList_data]
  cases b.data.toList <;> rfl

theorem rpoint_any (x y : Int) (w : World) : Calls Tryz.prog 83 #[dv x y] w fun e w' => e = .returned (.bool (ok1 x && ok1 y)) ∧ Grew w w' := by
  go_enter Tryz.func83, Tryz.ntmps83
  go_wp2
  all_goals go_ret
  all_goals refine ⟨ret_bool ?_, (by repeat (first | exact Grew.refl _ | apply Grew.drew | apply Grew.drewN | apply Grew.alloc | apply Grew.more))⟩
  all_goals simp_all [ok1]
  all_goals try omega

set_option maxHeartbeats 1000000 in
theorem rright_0 (n m : Int) (b : ByteArray) (w : World) : Calls Tryz.prog 46 #[va 0 n m b] w fun e w' => e = .returned (.bool (vrt 0 n m b)) ∧ Below w.heap.size w w' := by
  go_enter Tryz.func46, Tryz.ntmps46
  go_wp2
  all_goals go_ret
  all_goals refine ⟨ret_bool ?_, Grew.below (by repeat (first | exact Grew.refl _ | apply Grew.drew | apply Grew.drewN | apply Grew.alloc | apply Grew.more))⟩
  all_goals simp_all [vrt, vft, emptyE]

set_option maxHeartbeats 1000000 in
theorem rright_1 (n m : Int) (b : ByteArray) (w : World) : Calls Tryz.prog 46 #[va 1 n m b] w fun e w' => e = .returned (.bool (vrt 1 n m b)) ∧ Below w.heap.size w w' := by
  go_enter Tryz.func46, Tryz.ntmps46
  go_wp2
  all_goals go_ret
  all_goals refine ⟨ret_bool ?_, Grew.below (by repeat (first | exact Grew.refl _ | apply Grew.drew | apply Grew.drewN | apply Grew.alloc | apply Grew.more))⟩
  all_goals simp_all [vrt, vft, emptyE]

set_option maxHeartbeats 1000000 in
theorem rright_2 (n m : Int) (b : ByteArray) (w : World) : Calls Tryz.prog 46 #[va 2 n m b] w fun e w' => e = .returned (.bool (vrt 2 n m b)) ∧ Below w.heap.size w w' := by
  go_enter Tryz.func46, Tryz.ntmps46
  go_wp2
  all_goals go_ret
  all_goals refine ⟨ret_bool ?_, Grew.below (by repeat (first | exact Grew.refl _ | apply Grew.drew | apply Grew.drewN | apply Grew.alloc | apply Grew.more))⟩
  all_goals simp [vrt, vft, emptyE, rightS]
  all_goals first | omega | (simp_all; try omega)

set_option maxHeartbeats 1000000 in
theorem rright_4 (n m : Int) (b : ByteArray) (w : World) : Calls Tryz.prog 46 #[va 4 n m b] w fun e w' => e = .returned (.bool (vrt 4 n m b)) ∧ Below w.heap.size w w' := by
  go_enter Tryz.func46, Tryz.ntmps46
  go_wp2
  all_goals go_ret
  all_goals refine ⟨ret_bool ?_, Grew.below (by repeat (first | exact Grew.refl _ | apply Grew.drew | apply Grew.drewN | apply Grew.alloc | apply Grew.more))⟩
  all_goals simp_all [vrt, vft, emptyE]

set_option maxHeartbeats 1000000 in
theorem rright_5 (n m : Int) (b : ByteArray) (w : World) : Calls Tryz.prog 46 #[va 5 n m b] w fun e w' => e = .returned (.bool (vrt 5 n m b)) ∧ Below w.heap.size w w' := by
  have R := fun W => rpoint_any n m W
  have hv : vrt 5 n m b = ((ok1 n && ok1 m) && (b.data.toList == [])) := by simp [vrt, vft, Bool.and_comm]
  rw [hv]
  generalize (ok1 n && ok1 m) = g at *
  clear hv
  cases g
  all_goals
    go_enter Tryz.func46, Tryz.ntmps46
    go_wp2_with (go_at_call 83; refine (R _).mono ?_; rintro e w1 ⟨rfl, os1, n1, rfl⟩)
    all_goals go_ret
    all_goals refine ⟨ret_bool ?_, Grew.below (by repeat (first | exact Grew.refl _ | apply Grew.drew | apply Grew.drewN | apply Grew.alloc | apply Grew.more))⟩
    all_goals simp [emptyE]

set_option maxHeartbeats 1000000 in
theorem rright_3 (n m : Int) (b : ByteArray) (w : World) : Calls Tryz.prog 46 #[va 3 n m b] w fun e w' => e = .returned (.bool (vrt 3 n m b)) ∧ Below w.heap.size w w' := by
  by_cases hn : n = 0
  · subst hn
    by_cases hm : m = 0
    · subst hm
      by_cases hb : b.size ≤ 256
      · have V := fun W => good_any b W (by omega)
        have hv : vrt 3 0 0 b = Lib.validD b.data.toList := by simp [vrt, vft, hb]
        rw [hv]
        have hb' : (b.size : Int) ≤ 256 := by omega
        generalize Lib.validD b.data.toList = g at *
        clear hv hb
        go_enter Tryz.func46, Tryz.ntmps46
        go_wp2_with (go_at_call 112; refine (V _).mono ?_; rintro e w1 ⟨rfl, bb1⟩)
        all_goals go_ret
        all_goals exact ⟨rfl, below_trans (Grew.below (by repeat (first | exact Grew.refl _ | apply Grew.drew | apply Grew.drewN | apply Grew.alloc | apply Grew.more))) bb1⟩
      · have hv : vrt 3 0 0 b = false := by simp [vrt, vft, hb]
        rw [hv]
        have hb' : ¬ (b.size : Int) ≤ 256 := by omega
        clear hv hb
        go_enter Tryz.func46, Tryz.ntmps46
        go_wp2
        all_goals go_ret
        all_goals exact ⟨rfl, Grew.below (by repeat (first | exact Grew.refl _ | apply Grew.drew | apply Grew.drewN | apply Grew.alloc | apply Grew.more))⟩
    · have hv : vrt 3 0 m b = false := by simp [vrt, hm]
      have hm' : (m == 0) = false := by simpa using hm
      rw [hv]
      clear hv hm
      go_enter Tryz.func46, Tryz.ntmps46
      go_wp2
      all_goals go_ret
      all_goals exact ⟨rfl, Grew.below (by repeat (first | exact Grew.refl _ | apply Grew.drew | apply Grew.drewN | apply Grew.alloc | apply Grew.more))⟩
  · have hv : vrt 3 n m b = false := by simp [vrt, hn]
    have hn' : (n == 0) = false := by simpa using hn
    rw [hv]
    clear hv hn
    go_enter Tryz.func46, Tryz.ntmps46
    go_wp2
    all_goals go_ret
    all_goals exact ⟨rfl, Grew.below (by repeat (first | exact Grew.refl _ | apply Grew.drew | apply Grew.drewN | apply Grew.alloc | apply Grew.more))⟩

set_option maxHeartbeats 1000000 in
theorem rright_o (k : Int) (n m : Int) (b : ByteArray) (w : World) (h0 : k ≠ 0) (h1 : k ≠ 1) (h2 : k ≠ 2) (h3 : k ≠ 3) (h4 : k ≠ 4) (h5 : k ≠ 5) : Calls Tryz.prog 46 #[va k n m b] w fun e w' => e = .returned (.bool (vrt k n m b)) ∧ Below w.heap.size w w' := by
  have c0 : (k == 0) = false := by simpa using h0
  have c1 : (k == 1) = false := by simpa using h1
  have c2 : (k == 2) = false := by simpa using h2
  have c3 : (k == 3) = false := by simpa using h3
  have c4 : (k == 4) = false := by simpa using h4
  have c5 : (k == 5) = false := by simpa using h5
  have hv : vrt k n m b = false := by simp [vrt, vft, h0, h1, h2, h3, h4, h5]
  rw [hv]
  clear hv
  go_enter Tryz.func46, Tryz.ntmps46
  go_wp2
  all_goals go_ret
  all_goals exact ⟨rfl, Grew.below (by repeat (first | exact Grew.refl _ | apply Grew.drew | apply Grew.drewN | apply Grew.alloc | apply Grew.more))⟩

/-- The document's Right says what the program's does. -/
theorem rright_any (k n m : Int) (b : ByteArray) (w : World) : Calls Tryz.prog 46 #[va k n m b] w fun e w' => e = .returned (.bool (vrt k n m b)) ∧ Below w.heap.size w w' := by
  by_cases h0 : k = 0
  · subst h0; exact rright_0 n m b w
  by_cases h1 : k = 1
  · subst h1; exact rright_1 n m b w
  by_cases h2 : k = 2
  · subst h2; exact rright_2 n m b w
  by_cases h3 : k = 3
  · subst h3; exact rright_3 n m b w
  by_cases h4 : k = 4
  · subst h4; exact rright_4 n m b w
  by_cases h5 : k = 5
  · subst h5; exact rright_5 n m b w
  exact rright_o k n m b w h0 h1 h2 h3 h4 h5

set_option maxHeartbeats 1000000 in
theorem rsame_any (k n m : Int) (b : ByteArray) (k' n' m' : Int) (b' : ByteArray) (w : World) :
    Calls Tryz.prog 18 #[va k n m b, va k' n' m' b'] w fun e w' => e = .returned (.bool (k == k' && (n == n' && (m == m' && b.toList == b'.toList)))) ∧ Grew w w' := by
  go_enter Tryz.func18, Tryz.ntmps18
  go_wp2
  all_goals go_ret
  all_goals refine ⟨ret_bool ?_, (by repeat (first | exact Grew.refl _ | apply Grew.drew | apply Grew.drewN | apply Grew.alloc | apply Grew.more))⟩
  all_goals simp_all

end Go.Proofs.YtgapmofhnjfdiaaGreatDoor

namespace Go.Proofs.YtgapmofhnjfdiaaGreatDoor
open Go.RowKit Go.Shelf
attribute [local go_sem] cell?_more frozen?_more setCell_more more_lt more_more more_drew more_drewN setCell_drewN alloc_drewN

theorem Tryz.info30 : (Tryz.prog.info? 30).map (fun i => (i.zero, i.size, i.bytes)) = some (some (.agg #[.int .i64 0, .int .i64 0, .int .i64 0, .string ⟨#[]⟩]), 4, 40) := by kernel_rfl

/-- The cells of values, one behind the other. -/
def cellsV (l : List Va) : List Value := l.flatMap fun v => [.int .i64 v.k, .int .i64 v.n, .int .i64 v.m, .string ⟨v.b.toArray⟩]
theorem cellsV_len (l : List Va) : (cellsV l).length = l.length * 4 := by
  induction l with
  | nil => rfl
  | cons v l ih => simp only [cellsV, List.flatMap_cons, List.length_append, List.length_cons, List.length_nil] at *; omega
theorem cellsV_at (l : List Va) (i : Nat) (h : i < l.length) : (cellsV l)[i * 4]? = some (.int .i64 l[i].k) ∧ (cellsV l)[i * 4 + 1]? = some (.int .i64 l[i].n) ∧ (cellsV l)[i * 4 + 2]? = some (.int .i64 l[i].m) ∧ (cellsV l)[i * 4 + 3]? = some (.string ⟨l[i].b.toArray⟩) := by
  induction l generalizing i with
  | nil => simp at h
  | cons v l ih =>
    cases i with
    | zero => exact ⟨rfl, rfl, rfl, rfl⟩
    | succ i =>
      have e : cellsV (v :: l) = [.int .i64 v.k, .int .i64 v.n, .int .i64 v.m, .string ⟨v.b.toArray⟩] ++ cellsV l := by simp [cellsV]
      have hi : i < l.length := by simpa using h
      obtain ⟨h0, h1, h2, h3⟩ := ih i hi
      rw [e]
      refine ⟨?_, ?_, ?_, ?_⟩
      · rw [List.getElem?_append_right (by simp; omega)]; simpa [show (i + 1) * 4 - 4 = i * 4 by omega] using h0
      · rw [List.getElem?_append_right (by simp; omega)]; simpa [show (i + 1) * 4 + 1 - 4 = i * 4 + 1 by omega] using h1
      · rw [List.getElem?_append_right (by simp; omega)]; simpa [show (i + 1) * 4 + 2 - 4 = i * 4 + 2 by omega] using h2
      · rw [List.getElem?_append_right (by simp; omega)]; simpa [show (i + 1) * 4 + 3 - 4 = i * 4 + 3 by omega] using h3
theorem cellsV_one (l : List Va) : ∀ u ∈ cellsV l, u.oneCell' = true := by
  intro u hu
  simp only [cellsV, List.mem_flatMap] at hu
  obtain ⟨v, _, hv⟩ := hu
  simp at hv
  rcases hv with rfl | rfl | rfl | rfl <;> rfl

theorem src_of_vs {w : World} {ao : Option Addr} {cap : Nat} {l : List Va} (h : Vs w ao l) (h0 : ao = none → l = [] ) : Src Tryz.prog 4 45 (.slice ao l.length cap) l.length (cellsV l) w := by
  cases ao with
  | none =>
    have := h0 rfl
    subst this
    exact Src.ofNil w Tryz.underlying45 cap
  | some a =>
    refine Src.ofSlice w Tryz.underlying45 a l.length cap (cellsV l) (cellsV_len l) (fun j u hu => ?_) (cellsV_one l)
    have hj : j < (cellsV l).length := (List.getElem?_eq_some_iff.1 hu).1
    rw [cellsV_len] at hj
    obtain ⟨b, off, hao, hc⟩ := h (by omega)
    obtain rfl := Option.some.inj hao
    have hd : j = j / 4 * 4 + j % 4 := by omega
    obtain ⟨c0, c1, c2, c3⟩ := hc (j / 4) (by omega)
    obtain ⟨d0, d1, d2, d3⟩ := cellsV_at l (j / 4) (by omega)
    rw [Addr.add_lit]
    have hm : j % 4 = 0 ∨ j % 4 = 1 ∨ j % 4 = 2 ∨ j % 4 = 3 := by omega
    rcases hm with hm | hm | hm | hm
    · rw [show off + j = off + j / 4 * 4 by omega, c0]
      rw [show j = j / 4 * 4 by omega, d0] at hu
      exact hu
    · rw [show off + j = off + j / 4 * 4 + 1 by omega, c1]
      rw [show j = j / 4 * 4 + 1 by omega, d1] at hu
      exact hu
    · rw [show off + j = off + j / 4 * 4 + 2 by omega, c2]
      rw [show j = j / 4 * 4 + 2 by omega, d2] at hu
      exact hu
    · rw [show off + j = off + j / 4 * 4 + 3 by omega, c3]
      rw [show j = j / 4 * 4 + 3 by omega, d3] at hu
      exact hu

theorem vs_of_own {w : World} {base : Nat} {v : Value} {l : List Va} (h : w.ownsRow base 30 4 v l.length (cellsV l)) : ∃ ao cap, v = .slice ao l.length cap ∧ Vs w ao l := by
  obtain ⟨h1, h2⟩ := h
  rcases h2 with ⟨rfl, hn⟩ | ⟨g, cap, cur, rfl, hb, hg, hnc, hcm, hcs, htake⟩
  · have : l = [] := List.eq_nil_of_length_eq_zero hn
    subst this
    exact ⟨none, 0, rfl, fun h => by simp at h⟩
  · refine ⟨some ⟨g, 0, none⟩, cap, rfl, fun _ => ⟨g, 0, rfl, fun i hi => ?_⟩⟩
    obtain ⟨d0, d1, d2, d3⟩ := cellsV_at l i hi
    rw [← htake] at d0 d1 d2 d3
    have cc : ∀ j u, (cur.toList.take (l.length * 4))[j]? = some u → w.cell? ⟨g, j, none⟩ = some u := by
      intro j u hu
      rw [cell_of_row w g j cur 30 (0, 0) hg]
      rw [List.getElem?_take] at hu
      split at hu
      · simpa using hu
      · cases hu
    simp only [Nat.zero_add]
    exact ⟨cc _ _ d0, cc _ _ d1, cc _ _ d2, cc _ _ d3⟩

/-- Are two values the same? -/
def sameV (a b : Va) : Bool := a.k == b.k && (a.n == b.n && (a.m == b.m && (ByteArray.mk a.b.toArray).toList == (ByteArray.mk b.b.toArray).toList))
theorem sameV_iff (a b : Va) : sameV a b = true ↔ a = b := by
  obtain ⟨k, n, m, l⟩ := a
  obtain ⟨k', n', m', l'⟩ := b
  unfold sameV
  rw [Lib.toList_data, Lib.toList_data]
  simp
instance : DecidableEq Va := fun a b => decidable_of_iff (sameV a b = true) (sameV_iff a b)

end Go.Proofs.YtgapmofhnjfdiaaGreatDoor

namespace Go.Proofs.YtgapmofhnjfdiaaGreatDoor
open Go.ChangeShapes Go.WideShapes Go.ChangeAt Go.WideMaps Go.WideElems Go.RowKit Go.Shelf Go.Lib

theorem bytes40 : Tryz.prog.bytesOf 30 = 40 := by kernel_rfl

theorem cells4 {W : World} {a : Addr} {c0 c1 c2 c3 : Value} (h : W.cells? 0 a 4 = some [c0, c1, c2, c3]) : W.cell? (a.add 0) = some c0 ∧ W.cell? (a.add 1) = some c1 ∧ W.cell? (a.add 2) = some c2 ∧ W.cell? (a.add 3) = some c3 := by
  unfold World.cells? at h
  rw [if_pos (Nat.zero_le _)] at h
  have e : List.range 4 = [0, 1, 2, 3] := rfl
  rw [e] at h
  simp only [List.mapM_cons, List.mapM_nil] at h
  cases h0 : W.cell? (a.add 0) with
  | none => simp [h0] at h
  | some v0 =>
    cases h1 : W.cell? (a.add 1) with
    | none => simp [h0, h1] at h
    | some v1 =>
      cases h2 : W.cell? (a.add 2) with
      | none => simp [h0, h1, h2] at h
      | some v2 =>
        cases h3 : W.cell? (a.add 3) with
        | none => simp [h0, h1, h2, h3] at h
        | some v3 =>
          simp [h0, h1, h2, h3] at h
          obtain ⟨rfl, rfl, rfl, rfl⟩ := h
          exact ⟨rfl, rfl, rfl, rfl⟩

set_option maxRecDepth 100000 in
theorem vals_open {H : Type} {enc : TypeId × Value → H} {W : World} {a : Option Addr} {len cap fuel : Nat} {cs : List Value} {x : DataW H × List MemPlace}
    (hf : DataW.trod enc Tryz.prog W 0 (fun _ => true) true fuel 45 cs = some x) (hcs : cs = [.slice a len cap]) :
    ∃ l : List Va, (Vs W a l ∧ (a = none → l = []) ∧ l.length = len ∧ len ≤ cap ∧ ∀ v ∈ l, vin v) ∧ (cap = 0 ∨ ∃ es sp, x.1 = .slice es sp ∧ es.length + sp.length = cap) := by
  subst hcs
  have hc4 : Tryz.prog.cellsOf 30 = 4 := by kernel_rfl
  rcases Go.Deep.open_slice Tryz.underlying45 hf with ⟨hcs, _⟩ | ⟨y, l, c, m, n, D, Pl, hcs, _, hl, hm, hmm, hx, hel⟩
  · simp at hcs
    obtain ⟨rfl, rfl, rfl⟩ := hcs
    exact ⟨[], ⟨fun h => by simp at h, fun _ => rfl, rfl, Nat.le_refl _, fun v h => by simp at h⟩, .inl rfl⟩
  · simp at hcs
    obtain ⟨rfl, rfl, rfl⟩ := hcs
    have hmc : m = cap := by simpa using hmm
    rw [hc4] at hel
    have ex : ∀ i, i < len → ∃ v : Va, W.cells? 0 (y.add (i * 4)) 4 = some [.int .i64 v.k, .int .i64 v.n, .int .i64 v.m, .string ⟨v.b.toArray⟩] ∧ vin v := by
      intro i hi
      obtain ⟨cs', h1, h2⟩ := hel i (by omega)
      obtain ⟨v, rfl, hv, _, _⟩ := val_cells h2
      exact ⟨v, h1, hv⟩
    let f : Nat → Va := fun i => if h : i < len then (ex i h).choose else ⟨0, 0, 0, []⟩
    have hf : ∀ i (h : i < len), W.cells? 0 (y.add (i * 4)) 4 = some [.int .i64 (f i).k, .int .i64 (f i).n, .int .i64 (f i).m, .string ⟨(f i).b.toArray⟩] ∧ vin (f i) := by
      intro i h
      have : f i = (ex i h).choose := dif_pos h
      rw [this]
      exact (ex i h).choose_spec
    refine ⟨(List.range len).map f, ⟨?_, (fun h => by cases h), by simp, by omega, ?_⟩, .inr ⟨_, _, by rw [hx], by simp; omega⟩⟩
    · intro hp
      simp only [List.length_map, List.length_range] at hp
      obtain ⟨b, off, spot⟩ := y
      have h0 := cells4 (hf 0 hp).1
      have hspot : spot = none := by simpa [Addr.add] using World.cell?_spot h0.1
      subst hspot
      refine ⟨b, off, rfl, fun i hi => ?_⟩
      simp only [List.length_map, List.length_range] at hi
      obtain ⟨g0, g1, g2, g3⟩ := cells4 (hf i hi).1
      simp only [Addr.add_lit] at g0 g1 g2 g3
      simp only [List.getElem_map, List.getElem_range]
      exact ⟨g0, g1, g2, g3⟩
    · intro v hv
      simp only [List.mem_map, List.mem_range] at hv
      obtain ⟨i, hi, rfl⟩ := hv
      exact (hf i hi).2
end Go.Proofs.YtgapmofhnjfdiaaGreatDoor

namespace Go.Proofs.YtgapmofhnjfdiaaGreatDoor
open Go.RowKit Go.Shelf
attribute [local go_sem] cell?_more frozen?_more setCell_more more_lt more_more more_drew more_drewN setCell_drewN alloc_drewN

/-- Are two values the same? -/
def eqv (k n m : Int) (b : ByteArray) (k' n' m' : Int) (b' : ByteArray) : Bool := k == k' && (n == n' && (m == m' && b.toList == b'.toList))
theorem eqVb (k n m k' n' m' : Int) (b b' : ByteArray) (w : World) : (Op.equalIn 10000 30 (va k n m b) (va k' n' m' b')).run Tryz.prog w = .ok (eqv k n m b k' n' m' b') w := eqVa k n m k' n' m' b b' w
attribute [local go_sem high] eqVb

/-- The truth that a value stands for, and whether it stands for one. -/
def truN (k n m : Int) (b : ByteArray) : Int := if vrt k n m b = true ∧ k = 4 then n else 2
def truB (k n m : Int) (b : ByteArray) : Bool := vrt k n m b && (k == 0 || k == 4)

theorem tru_cases (k n m : Int) (b : ByteArray) :
    (eqv k n m b 0 0 0 ⟨#[]⟩ = true → truN k n m b = 2 ∧ truB k n m b = true) ∧
    (eqv k n m b 4 1 0 ⟨#[]⟩ = true → truN k n m b = 1 ∧ truB k n m b = true) ∧
    (eqv k n m b 4 0 0 ⟨#[]⟩ = true → truN k n m b = 0 ∧ truB k n m b = true) ∧
    (eqv k n m b 0 0 0 ⟨#[]⟩ = false → eqv k n m b 4 1 0 ⟨#[]⟩ = false → eqv k n m b 4 0 0 ⟨#[]⟩ = false → truN k n m b = 2 ∧ truB k n m b = false) := by
  unfold eqv
  rw [toList_nil]
  unfold truN truB vrt vft
  generalize b.data.toList = l
  refine ⟨?_, ?_, ?_, ?_⟩
  · intro h
    simp only [Bool.and_eq_true, beq_iff_eq] at h
    obtain ⟨rfl, rfl, rfl, rfl⟩ := h
    simp
  · intro h
    simp only [Bool.and_eq_true, beq_iff_eq] at h
    obtain ⟨rfl, rfl, rfl, rfl⟩ := h
    simp
  · intro h
    simp only [Bool.and_eq_true, beq_iff_eq] at h
    obtain ⟨rfl, rfl, rfl, rfl⟩ := h
    simp
  · intro h1 h2 h3
    by_cases h0 : k = 0
    · subst h0
      simp at h1 ⊢
      intro a b c
      exact h1 a b c
    · by_cases h4 : k = 4
      · subst h4
        simp at h2 h3
        simp
        by_cases hm : m = 0 ∧ l = []
        · obtain ⟨rfl, rfl⟩ := hm
          simp at h2 h3 ⊢
          exact ⟨fun h => by omega, h3, h2⟩
        · simp only [not_and] at hm
          constructor
          · intro h g; exact absurd g (hm h)
          · intro h g; exact absurd g (hm h)
      · simp [h0, h4]

set_option maxHeartbeats 2000000 in
theorem truth_any (k n m : Int) (b : ByteArray) (w : World) :
    Calls Tryz.prog 90 #[va k n m b] w fun e w' => e = .returned (.tuple #[.int .i64 (truN k n m b), .bool (truB k n m b)]) ∧ Grew w w' := by
  obtain ⟨t1, t2, t3, t4⟩ := tru_cases k n m b
  have O2 : ∀ W, Calls Tryz.prog 103 #[.int .i64 2] W fun e w' => e = .returned (va 0 0 0 ⟨#[]⟩) ∧ Grew W w' := fun W => of_any 2 W
  have O1 : ∀ W, Calls Tryz.prog 103 #[.int .i64 1] W fun e w' => e = .returned (va 4 1 0 ⟨#[]⟩) ∧ Grew W w' := fun W => of_any 1 W
  have O0 : ∀ W, Calls Tryz.prog 103 #[.int .i64 0] W fun e w' => e = .returned (va 4 0 0 ⟨#[]⟩) ∧ Grew W w' := fun W => of_any 0 W
  cases h2 : eqv k n m b 0 0 0 ⟨#[]⟩
  · cases h1 : eqv k n m b 4 1 0 ⟨#[]⟩
    · cases h0 : eqv k n m b 4 0 0 ⟨#[]⟩
      · obtain ⟨e1, e2⟩ := t4 h2 h1 h0
        rw [e1, e2]
        clear t1 t2 t3 t4 e1 e2
        go_enter Tryz.func90, Tryz.ntmps90
        go_wp2_with (first
          | (go_at_call_of 103 (Value.int IntKind.i64 2); refine (O2 _).mono ?_; rintro e w1 ⟨rfl, os1, n1, rfl⟩)
          | (go_at_call_of 103 (Value.int IntKind.i64 1); refine (O1 _).mono ?_; rintro e w1 ⟨rfl, os1, n1, rfl⟩)
          | (go_at_call_of 103 (Value.int IntKind.i64 0); refine (O0 _).mono ?_; rintro e w1 ⟨rfl, os1, n1, rfl⟩))
        all_goals go_ret2
        all_goals exact ⟨rfl, (by repeat (first | assumption | exact Grew.refl _ | apply Grew.drew | apply Grew.drewN | apply Grew.alloc | apply Grew.more))⟩
      · obtain ⟨e1, e2⟩ := t3 h0
        rw [e1, e2]
        clear t1 t2 t3 t4 e1 e2
        go_enter Tryz.func90, Tryz.ntmps90
        go_wp2_with (first
          | (go_at_call_of 103 (Value.int IntKind.i64 2); refine (O2 _).mono ?_; rintro e w1 ⟨rfl, os1, n1, rfl⟩)
          | (go_at_call_of 103 (Value.int IntKind.i64 1); refine (O1 _).mono ?_; rintro e w1 ⟨rfl, os1, n1, rfl⟩)
          | (go_at_call_of 103 (Value.int IntKind.i64 0); refine (O0 _).mono ?_; rintro e w1 ⟨rfl, os1, n1, rfl⟩))
        all_goals go_ret2
        all_goals exact ⟨rfl, (by repeat (first | assumption | exact Grew.refl _ | apply Grew.drew | apply Grew.drewN | apply Grew.alloc | apply Grew.more))⟩
    · obtain ⟨e1, e2⟩ := t2 h1
      rw [e1, e2]
      clear t1 t2 t3 t4 e1 e2
      go_enter Tryz.func90, Tryz.ntmps90
      go_wp2_with (first
        | (go_at_call_of 103 (Value.int IntKind.i64 2); refine (O2 _).mono ?_; rintro e w1 ⟨rfl, os1, n1, rfl⟩)
        | (go_at_call_of 103 (Value.int IntKind.i64 1); refine (O1 _).mono ?_; rintro e w1 ⟨rfl, os1, n1, rfl⟩)
        | (go_at_call_of 103 (Value.int IntKind.i64 0); refine (O0 _).mono ?_; rintro e w1 ⟨rfl, os1, n1, rfl⟩))
      all_goals go_ret2
      all_goals exact ⟨rfl, (by repeat (first | assumption | exact Grew.refl _ | apply Grew.drew | apply Grew.drewN | apply Grew.alloc | apply Grew.more))⟩
  · obtain ⟨e1, e2⟩ := t1 h2
    rw [e1, e2]
    clear t1 t2 t3 t4 e1 e2
    go_enter Tryz.func90, Tryz.ntmps90
    go_wp2_with (first
      | (go_at_call_of 103 (Value.int IntKind.i64 2); refine (O2 _).mono ?_; rintro e w1 ⟨rfl, os1, n1, rfl⟩)
      | (go_at_call_of 103 (Value.int IntKind.i64 1); refine (O1 _).mono ?_; rintro e w1 ⟨rfl, os1, n1, rfl⟩)
      | (go_at_call_of 103 (Value.int IntKind.i64 0); refine (O0 _).mono ?_; rintro e w1 ⟨rfl, os1, n1, rfl⟩))
    all_goals go_ret2
    all_goals exact ⟨rfl, (by repeat (first | assumption | exact Grew.refl _ | apply Grew.drew | apply Grew.drewN | apply Grew.alloc | apply Grew.more))⟩

end Go.Proofs.YtgapmofhnjfdiaaGreatDoor

namespace Go.Proofs.YtgapmofhnjfdiaaGreatDoor
open Go.RowKit Go.Shelf
attribute [local go_sem] cell?_more frozen?_more setCell_more more_lt more_more more_drew more_drewN setCell_drewN alloc_drewN

theorem eqVs (k n m k' n' m' : Int) (b b' : ByteArray) (w : World) : (Op.equalIn 10000 30 (va k n m b) (va k' n' m' b')).run Tryz.prog w = .ok (sameV ⟨k, n, m, b.data.toList⟩ ⟨k', n', m', b'.data.toList⟩) w := eqVa k n m k' n' m' b b' w
attribute [local go_sem high] eqVs

set_option maxHeartbeats 1000000 in
theorem rrow_any (ao : Option Addr) (cap : Nat) (l : List Va) (w : World) (hv : Vs w ao l) (hl : l.length ≤ 9223372036854775806) :
    Calls Tryz.prog 33 #[.slice ao l.length cap] w fun e w' => e = .returned (.bool (ckE l == 0)) ∧ Below w.heap.size w w' := by
  obtain ⟨R, hR⟩ : ∃ R, R = (ckE l == 0) := ⟨_, rfl⟩
  rw [← hR]
  have HR : Hid (R = (ckE l == 0)) := hR
  obtain ⟨n, hn⟩ : ∃ n, l.length = n := ⟨_, rfl⟩
  rw [hn] at hl ⊢
  have HN : Hid (l.length = n) := hn
  clear hn hR
  go_enter Tryz.func33, Tryz.ntmps33
  go_wp2
  go_loopw [3] (fun r wr => ∃ k : Nat, r = .int .i64 (k : Int) ∧ k ≤ n ∧ Below w.heap.size w wr ∧ Hid (∀ i (h : i < l.length), i < k → vr l[i] = true)) (fun r _ => n - (intOf r).toNat)
  case atStart => exact ⟨0, rfl, Nat.zero_le _, Below.refl _ _, fun i _ h => by omega⟩
  case round =>
    obtain ⟨k, rfl, hk, hB, hA⟩ := hrel
    have sB := hB.size
    by_cases hlt : k < n
    · have hlt' : (k : Int) < (n : Int) := by omega
      have k0 : (0 : Int) ≤ (k : Int) := by omega
      have hkl : k < l.length := by rw [HN.out]; exact hlt
      obtain ⟨b, off, rfl, hc⟩ := hv (by omega)
      obtain ⟨c0, c1, c2, c3⟩ := ((hc k hkl).later hB)
      have hg := (hc k hkl).lt
      have hg' : b < wr.heap.size := by omega
      have R1 : ∀ W, Calls Tryz.prog 46 #[vv l[k]] W fun e w' => e = .returned (.bool (vr l[k])) ∧ Below W.heap.size W w' := fun W => rright_any _ _ _ _ W
      obtain ⟨⟨vk, vn, vm, vb⟩, he⟩ : ∃ v : Va, v = l[k] := ⟨_, rfl⟩
      rw [← he] at c0 c1 c2 c3 R1
      have HV : Hid (Va.mk vk vn vm vb = l[k]) := he
      clear hc he
      cases hvr : vr ⟨vk, vn, vm, vb⟩
      · rw [hvr] at R1
        have HF : Hid (R = false) := by
          show R = false
          have hall : (l.all vr) = false := by
            rw [List.all_eq_false]
            exact ⟨l[k], List.getElem_mem _, by rw [← HV.out, hvr]; simp⟩
          rw [HR.out]
          unfold ckE
          rw [hall]
          by_cases h : 64 < l.length <;> simp [h]
        go_wp2_with (go_at_call 46; refine (R1 _).mono ?_; rintro e w2 ⟨rfl, hb2⟩)
        go_ret
        exact ⟨by rw [HF.out]; rfl, below_trans hB hb2⟩
      · rw [hvr] at R1
        go_wp2_with (go_at_call 46; refine (R1 _).mono ?_; rintro e w2 ⟨rfl, hb2⟩)
        go_roundw
        case rel =>
          refine ⟨k + 1, by go_num, by omega, below_trans hB hb2, fun i hi hik => ?_⟩
          by_cases h : i < k
          · exact hA.out i hi h
          · have : i = k := by omega
            subst this
            rw [← HV.out, hvr]
        case measure => simp [intOf]; omega
    · have hlt' : ¬ (k : Int) < (n : Int) := by omega
      have hall : (l.all vr) = true := by
        rw [List.all_eq_true]
        intro v hv'
        obtain ⟨i, hi, rfl⟩ := List.getElem_of_mem hv'
        exact hA.out i hi (by have := HN.out; omega)
      have hfin : R = decide ((n : Int) ≤ 64) := by
        rw [HR.out]
        have h1 := HN.out
        unfold ckE
        rw [hall]
        by_cases h : 64 < l.length
        · rw [if_pos h, decide_eq_false (by omega)]; rfl
        · rw [if_neg h, decide_eq_true (by omega)]; rfl
      have HF : Hid (R = decide ((n : Int) ≤ 64)) := hfin
      clear hall hfin
      go_wp2
      all_goals go_ret
      all_goals exact ⟨by rw [HF.out]; rfl, hB⟩
end Go.Proofs.YtgapmofhnjfdiaaGreatDoor
