/-
  Rows of values as they lie in memory; the contract of datum.checked.
-/
import Derived.Test.YtlfeficldhlbaaaGreatDoorVRight2
namespace Go.Proofs.YtlfeficldhlbaaaGreatDoor
open Go.RowKit Go.Shelf
attribute [local go_sem] cell?_more frozen?_more setCell_more more_lt more_more more_drew more_drewN setCell_drewN alloc_drewN

/-- A value lies in four cells of a block. -/
def At4 (w : World) (b o : Nat) (v : Va) : Prop :=
  w.cell? ⟨b, o, none⟩ = some (.int .i64 v.k) ∧ w.cell? ⟨b, o + 1, none⟩ = some (.int .i64 v.n) ∧ w.cell? ⟨b, o + 2, none⟩ = some (.int .i64 v.m) ∧ w.cell? ⟨b, o + 3, none⟩ = some (.string ⟨v.b.toArray⟩)
theorem At4.lt {w : World} {b o : Nat} {v : Va} (h : At4 w b o v) : b < w.heap.size := World.block_lt_of_cell? w _ h.1
theorem At4.later {w w' : World} {b o : Nat} {v : Va} (h : At4 w b o v) (hb : Below w.heap.size w w') : At4 w' b o v :=
  ⟨by rw [hb.cell (p := ⟨b, o, none⟩) h.lt]; exact h.1, by rw [hb.cell (p := ⟨b, o + 1, none⟩) h.lt]; exact h.2.1, by rw [hb.cell (p := ⟨b, o + 2, none⟩) h.lt]; exact h.2.2.1, by rw [hb.cell (p := ⟨b, o + 3, none⟩) h.lt]; exact h.2.2.2⟩

/-- A row of values lies behind an address. -/
def Vs (w : World) (ao : Option Addr) (l : List Va) : Prop :=
  0 < l.length → ∃ b off, ao = some ⟨b, off, none⟩ ∧ ∀ i (h : i < l.length), At4 w b (off + i * 4) l[i]
theorem Vs.later {w w' : World} {ao : Option Addr} {l : List Va} (h : Vs w ao l) (hb : Below w.heap.size w w') : Vs w' ao l := by
  intro hp
  obtain ⟨b, off, e, hc⟩ := h hp
  exact ⟨b, off, e, fun i hi => (hc i hi).later hb⟩

/-- A value that may be, as the program asks it. -/
def vr (v : Va) : Bool := vrt v.k v.n v.m ⟨v.b.toArray⟩
theorem vr_iff (v : Va) : vr v = true ↔ vok Lib.validD v := vrt_iff v.k v.n v.m ⟨v.b.toArray⟩
/-- A value as the program has it. -/
abbrev vv (v : Va) : Value := va v.k v.n v.m ⟨v.b.toArray⟩

/-- The error of a list that is no row. -/
def ckE (l : List Va) : Int := if 64 < l.length then 6 else if l.all vr then 0 else 1

end Go.Proofs.YtlfeficldhlbaaaGreatDoor
