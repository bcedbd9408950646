/-
  Toward CodecReads: what Lent and the two NewReaders give is memory of the call's own, each block another.
-/
import Derived.Test.YtdjilmcpkeckoaaDoorReadsP6
import Derived.Test.YtdjilmcpkeckoaaDoorLent
namespace Go.Proofs.YtdjilmcpkeckoaaDoor
open Go.RowKit

/-- A row of bytes of the call's own, whatever they are. -/
def RowQ (w : World) (g n : Nat) : Prop := ∃ cur : Array Value, w.heap[g]? = some (.cells cur 5 (0, 0)) ∧ ∀ i, i < n → ∃ y : UInt8, cur[i]? = some (.int .u8 (y.toNat : Int))
theorem RowQ.cell {w : World} {g n : Nat} (h : RowQ w g n) (i : Nat) (hi : i < n) : ∃ y : UInt8, w.cell? ⟨g, i, none⟩ = some (.int .u8 (y.toNat : Int)) := by
  obtain ⟨cur, hg, hc⟩ := h
  obtain ⟨y, hy⟩ := hc i hi
  exact ⟨y, by rw [cell_of_row w g i cur 5 (0, 0) hg]; exact hy⟩
theorem RowQ.free {w : World} {g n : Nat} (h : RowQ w g n) (i : Nat) : w.frozen? ⟨g, i, none⟩ = false := by
  obtain ⟨cur, hg, _⟩ := h
  exact rCells_free hg i
theorem RowQ.store {w : World} {g n : Nat} (h : RowQ w g n) (i : Nat) (y : UInt8) : RowQ (w.setCell ⟨g, i, none⟩ (.int .u8 (y.toNat : Int))) g n := by
  obtain ⟨cur, hg, hc⟩ := h
  refine ⟨_, row_setCell hg, fun j hj => ?_⟩
  obtain ⟨z, hz⟩ := hc j hj
  by_cases e : j = i
  · subst e
    refine ⟨y, ?_⟩
    have : j < cur.size := (Array.getElem?_eq_some_iff.1 hz).1
    simp [this]
  · refine ⟨z, ?_⟩
    rw [Array.getElem?_setIfInBounds_ne (by omega)]
    exact hz
theorem RowQ.lt {w : World} {g n : Nat} (h : RowQ w g n) : g < w.heap.size := by
  obtain ⟨cur, hg, _⟩ := h
  exact (Array.getElem?_eq_some_iff.1 hg).1
theorem RowQ.later {w w' : World} {g n : Nat} (h : RowQ w g n) (hb : Below w.heap.size w w') : RowQ w' g n := by
  obtain ⟨cur, hg, hc⟩ := id h
  exact ⟨cur, by rw [hb.block g h.lt]; exact hg, hc⟩
theorem rowQ_of_own {w : World} {base g cap n : Nat} {bs : List UInt8} (h : Own w base (.slice (some ⟨g, 0, none⟩) n cap) bs) : RowQ w g n := by
  obtain ⟨h1, h2⟩ := h
  rcases h2 with ⟨hv, _⟩ | ⟨g', cap', cur, hv, hb, hg, hnc, hcm, hcs, htake⟩
  · cases hv
  · cases hv
    refine ⟨cur, hg, fun i hi => ⟨bs[i], ?_⟩⟩
    have e := bv_at bs i hi
    rw [← htake, List.getElem?_take] at e
    split at e
    · simpa using e
    · cases e
theorem RowQ.less {w : World} {g n m : Nat} (h : RowQ w g n) (hm : m ≤ n) : RowQ w g m := by
  obtain ⟨cur, hg, hc⟩ := h
  exact ⟨cur, hg, fun i hi => hc i (by omega)⟩
theorem plus_oneQ (y : UInt8) : IntKind.u8.wrap ((y.toNat : Int) + 1) = ((y + 1).toNat : Int) := by
  rw [IntKind.wrap_u8, UInt8.toNat_add]
  have : (1 : UInt8).toNat = 1 := rfl
  rw [this]
  omega

set_option maxHeartbeats 400000 in
theorem lent_row (ao : Option Addr) (n cap : Nat) (bs : List UInt8) (w : World) (h : Rd w ao n cap bs) (hl : n ≤ 140737488351232) :
    Calls Tryd.prog 9 #[.slice ao n cap] w fun e w' => ∃ g c, e = .returned (.slice (some ⟨g, 0, none⟩) n c) ∧ w.heap.size ≤ g ∧ Rd w' (some ⟨g, 0, none⟩) n c bs ∧ RowQ w' g n ∧ Below w.heap.size w w' := by
  obtain ⟨i0, hi, hz0, hz1, hz2⟩ := info_parts Tryd.info5
  have hln := h.1
  have A1 : Below w.heap.size w (w.alloc (.cells #[] 5)) := (Below.refl _ _).alloc (Nat.le_refl _) _
  have hra := h.later A1
  have HN : Hid (bs.length = n) := hln
  clear hln
  go_enter Tryd.func9, Tryd.ntmps9
  go_wp2_with (at_builtin; refine wpList_append_from rfl (.tmp 4) (.tmp 5) 22 22 rfl w.heap.size 5 i0 (.int .u8 0) 1 1 Tryd.underlying22 hi hz0 hz1 hz2 rfl _ 0 [] rfl (own_made (base := w.heap.size) w #[] 0 (Nat.le_refl _) (by decide) rfl) _ n (bv bs) rfl (src_of_rd Tryd.underlying22 hra) (by unfold maxLen; omega) (by omega) (by simp) ?_)
  intro v2 w2 ho2 hgrow2
  have hO2 : Own w2 w.heap.size v2 bs := own_of ho2
  have b2 : Below w.heap.size w w2 := A1.grown hgrow2 (by simp) (fun k hk => by cases hk; exact Nat.le_refl _)
  have z2 := b2.size
  have hO2' : w2.ownsRow w.heap.size 5 1 v2 n (bv bs) := by have := hO2; unfold Own at this; rw [HN.out] at this; exact this
  clear ho2 hgrow2 A1 hra h
  go_wp2_with (at_builtin; refine wpList_append_own _ rfl (.tmp 7) (.tmp 8) 22 rfl w.heap.size 5 i0 (.int .u8 0) 1 1 Tryd.underlying22 hi hz0 hz1 hz2 rfl (by decide) _ _ _ rfl (World.ownsRow.alloc hO2' _) ⟨w2.heap.size, 0, none⟩ 2 2 [.int .u8 55, .int .u8 56] rfl rfl ?c1 ?c2 (by unfold maxLen; omega) (by omega) (by simp; omega) ?_)
  case c1 =>
    intro j u hj
    match j, hj with
    | 0, hj => simp at hj; subst hj; simp [Addr.add]
    | 1, hj => simp at hj; subst hj; simp [Addr.add]
  case c2 =>
    intro u hu
    simp at hu
    rcases hu with rfl | rfl <;> rfl
  intro v3 w3 ho3 hgrow3 _
  have b3 : Below w.heap.size w w3 := (b2.alloc (by omega) _).grown hgrow3 (by simp; omega) (fun k hk => (World.ownsRow.lt hO2 k hk).1)
  have hO3 : Own w3 w.heap.size v3 (bs ++ [55, 56]) := own_of (n := n + 2) (by rw [bv_append]; exact ho3)
  obtain ⟨g, c, u, hv3, hg, _, hk, R3⟩ := own_block hO3 (by simp)
  have hR := R3 w3 hk
  have hlen : (bs ++ [55, 56]).length = n + 2 := by simp; exact HN.out
  rw [hlen] at hv3 hR
  rw [hv3] at hO3 ⊢
  have hRow := (rowQ_of_own hO3).less (show n ≤ n + 2 by omega)
  have hM : Rd w3 (some ⟨g, 0, none⟩) n c bs := by
    have hm : Marked w3 g c bs := by unfold Marked; rw [HN.out]; exact hR
    have := hm.rd
    rw [HN.out] at this
    exact this
  have hcc := hR.2.1
  have hc0 : ¬ c = 0 := by omega
  have hn0 : (0 : Int) ≤ (n : Int) := by omega
  have hnc : (n : Int) ≤ (c : Int) := by omega
  clear ho3 hgrow3 hO3 R3 hk hO2 hO2' hv3
  go_wp2
  go_ret
  exact ⟨g, c, rfl, hg, hM, hRow, b3⟩

/-- A Reader at its start, whose row is of block B or later. -/
def FRdr (w : World) (p : Nat) (bs : List UInt8) (B : Nat) : Prop :=
  ∃ ao cap, w.heap[p]? = some (.cells (rCells ao bs.length cap 0 0) 57 (0, 0)) ∧ Rd w ao bs.length cap bs ∧ (ao = none ∨ ∃ g, ao = some ⟨g, 0, none⟩ ∧ g ≠ p ∧ B ≤ g)
def FRRdr (w : World) (p : Nat) (bs : List UInt8) (B : Nat) : Prop :=
  ∃ ao cap, w.heap[p]? = some (.cells (rrCells ao bs.length cap 0 0) 47 (0, 0)) ∧ Rd w ao bs.length cap bs ∧ (ao = none ∨ ∃ g, ao = some ⟨g, 0, none⟩ ∧ g ≠ p ∧ B ≤ g)
theorem FRdr.lt {w : World} {p B : Nat} {bs : List UInt8} (h : FRdr w p bs B) : p < w.heap.size := by
  obtain ⟨ao, cap, hb, _⟩ := h
  exact (Array.getElem?_eq_some_iff.1 hb).1
theorem FRRdr.lt {w : World} {p B : Nat} {bs : List UInt8} (h : FRRdr w p bs B) : p < w.heap.size := by
  obtain ⟨ao, cap, hb, _⟩ := h
  exact (Array.getElem?_eq_some_iff.1 hb).1
theorem FRdr.later {w w' : World} {p B : Nat} {bs : List UInt8} (h : FRdr w p bs B) (hb : Below w.heap.size w w') : FRdr w' p bs B := by
  obtain ⟨ao, cap, hc, hr, hg⟩ := id h
  exact ⟨ao, cap, by rw [hb.block p h.lt]; exact hc, hr.later hb, hg⟩
theorem FRRdr.later {w w' : World} {p B : Nat} {bs : List UInt8} (h : FRRdr w p bs B) (hb : Below w.heap.size w w') : FRRdr w' p bs B := by
  obtain ⟨ao, cap, hc, hr, hg⟩ := id h
  exact ⟨ao, cap, by rw [hb.block p h.lt]; exact hc, hr.later hb, hg⟩
/-- Behind stores into another block, an earlier one. -/
theorem FRdr.past {w w' : World} {p B g : Nat} {bs : List UInt8} (h : FRdr w p bs B) (hg : w.grownBy w' (some g)) (hp : p ≠ g) (hB : g < B) : Rdr w' p bs 0 0 := by
  obtain ⟨ao, cap, hc, hr, ho⟩ := id h
  refine ⟨ao, cap, ?_, hr.kept fun b off hao hlt => hg.block b hlt ?_, Nat.zero_le _, ?_⟩
  · rw [hg.block p h.lt (fun e => hp (Option.some.inj e))]
    exact hc
  · intro e
    obtain rfl := Option.some.inj e
    rcases ho with h0 | ⟨g', h0, _, hB'⟩
    · rw [h0] at hao; cases hao
    · rw [h0] at hao; cases hao; omega
  · rcases ho with h0 | ⟨g', h0, h1, _⟩
    · exact .inl h0
    · exact .inr ⟨g', h0, h1⟩
theorem FRRdr.past {w w' : World} {p B g : Nat} {bs : List UInt8} (h : FRRdr w p bs B) (hg : w.grownBy w' (some g)) (hp : p ≠ g) (hB : g < B) : RRdr w' p bs 0 0 := by
  obtain ⟨ao, cap, hc, hr, ho⟩ := id h
  refine ⟨ao, cap, ?_, hr.kept fun b off hao hlt => hg.block b hlt ?_, Nat.zero_le _, ?_⟩
  · rw [hg.block p h.lt (fun e => hp (Option.some.inj e))]
    exact hc
  · intro e
    obtain rfl := Option.some.inj e
    rcases ho with h0 | ⟨g', h0, _, hB'⟩
    · rw [h0] at hao; cases hao
    · rw [h0] at hao; cases hao; omega
  · rcases ho with h0 | ⟨g', h0, h1, _⟩
    · exact .inl h0
    · exact .inr ⟨g', h0, h1⟩

set_option maxHeartbeats 400000 in
theorem newReader_far (ao : Option Addr) (n cap : Nat) (bs : List UInt8) (w : World) (h : Rd w ao n cap bs) (hl : n ≤ 140737488351232) :
    Calls Tryd.prog 21 #[.slice ao n cap] w fun x w' => ∃ p, x = .returned (.pointer (some ⟨p, 0, none⟩)) ∧ w.heap.size ≤ p ∧ FRdr w' p bs w.heap.size ∧ Below w.heap.size w w' := by
  obtain ⟨i0, hi, hz0, hz1, hz2⟩ := info_parts Tryd.info5
  obtain rfl := h.1
  go_enter Tryd.func21, Tryd.ntmps21
  go_wp2_with (at_builtin; refine wpList_append_from rfl _ _ 22 22 rfl w.heap.size 5 i0 (.int .u8 0) 1 1 Tryd.underlying22 hi hz0 hz1 hz2 rfl _ 0 [] rfl (World.ownsRow_nil _ _ _ _) _ bs.length (bv bs) rfl (src_of_rd Tryd.underlying22 h) (by unfold maxLen; omega) (by omega) (Nat.le_refl _) ?_)
  intro v1 w1 ho1 hgrow
  have B1 : Below w.heap.size w w1 := (Below.refl _ _).grown hgrow (Nat.le_refl _) (fun k hk => by cases hk)
  have hO : Own w1 w.heap.size v1 bs := own_of ho1
  obtain ⟨a1, c1, rfl, hr1, hg1⟩ := hO.rd
  have s1 := B1.size
  clear ho1 hgrow
  clear hO h
  go_wp2
  go_ret
  have BA : Below w1.heap.size w1 (w1.alloc (.cells (rCells a1 bs.length c1 0 0) 57)) := (Below.refl _ _).alloc (Nat.le_refl _) _
  refine ⟨w1.heap.size, rfl, s1, ⟨a1, c1, heap_alloc_new w1 _, hr1.later BA, ?_⟩, B1.alloc s1 _⟩
  rcases hg1 with h | ⟨g, h, hge, hlt, _⟩
  · exact .inl h
  · exact .inr ⟨g, h, by omega, by omega⟩

set_option maxHeartbeats 400000 in
theorem rnewReader_far (ao : Option Addr) (n cap : Nat) (bs : List UInt8) (w : World) (h : Rd w ao n cap bs) (hl : n ≤ 140737488351232) :
    Calls Tryd.prog 22 #[.slice ao n cap] w fun x w' => ∃ p, x = .returned (.pointer (some ⟨p, 0, none⟩)) ∧ w.heap.size ≤ p ∧ FRRdr w' p bs w.heap.size ∧ Below w.heap.size w w' := by
  obtain ⟨i0, hi, hz0, hz1, hz2⟩ := info_parts Tryd.info5
  obtain rfl := h.1
  have A1 : Below w.heap.size w (w.alloc (.cells #[] 5)) := (Below.refl _ _).alloc (Nat.le_refl _) _
  have hra := h.later A1
  go_enter Tryd.func22, Tryd.ntmps22
  go_wp2_with (at_builtin; refine wpList_append_from rfl _ _ 22 22 rfl w.heap.size 5 i0 (.int .u8 0) 1 1 Tryd.underlying22 hi hz0 hz1 hz2 rfl _ 0 [] rfl (own_made (base := w.heap.size) w #[] 0 (Nat.le_refl _) (by decide) rfl) _ bs.length (bv bs) rfl (src_of_rd Tryd.underlying22 hra) (by unfold maxLen; omega) (by omega) (by simp) ?_)
  intro v1 w1 ho1 hgrow
  have B1 : Below w.heap.size w w1 := A1.grown hgrow (by simp) (fun k hk => by cases hk; exact Nat.le_refl _)
  have hO : Own w1 w.heap.size v1 bs := own_of ho1
  obtain ⟨a1, c1, rfl, hr1, hg1⟩ := hO.rd
  have s1 := B1.size
  clear ho1 hgrow A1 hra
  clear hO h
  go_wp2
  go_ret
  have BA : Below w1.heap.size w1 (w1.alloc (.cells (rrCells a1 bs.length c1 0 0) 47)) := (Below.refl _ _).alloc (Nat.le_refl _) _
  refine ⟨w1.heap.size, rfl, s1, ⟨a1, c1, heap_alloc_new w1 _, hr1.later BA, ?_⟩, B1.alloc s1 _⟩
  rcases hg1 with h | ⟨g, h, hge, hlt, _⟩
  · exact .inl h
  · exact .inr ⟨g, h, by omega, by omega⟩
end Go.Proofs.YtdjilmcpkeckoaaDoor
