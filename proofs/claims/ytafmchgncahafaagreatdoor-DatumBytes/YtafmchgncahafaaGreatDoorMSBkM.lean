/-
  Tokens as they lie in memory; the contract of lexer.tokenAt.
  A reader of bytes that lies still while other blocks are written; bytes are read as they were written.
-/
import Derived.Test.YtafmchgncahafaaGreatDoorMQLByte
import Derived.Test.YtafmchgncahafaaGreatDoorLTold
import Derived.Test.YtafmchgncahafaaGreatDoorMgLJumps
import Derived.Test.YtafmchgncahafaaGreatDoorVPut2
namespace Go.Proofs.YtafmchgncahafaaGreatDoor
open Go.RowKit Go.Shelf
attribute [local go_sem] cell?_more frozen?_more setCell_more more_lt more_more more_drew more_drewN setCell_drewN alloc_drewN

/-- Cells lie in a block of their own. -/
def Cbox (w : World) (p : Nat) (cs : Array Value) (ty : TypeId) : Prop := w.heap[p]? = some (.cells cs ty (0, 0))
theorem Cbox.lt {w : World} {p : Nat} {cs : Array Value} {ty : TypeId} (h : Cbox w p cs ty) : p < w.heap.size := by
  by_cases hp : p < w.heap.size
  · exact hp
  · unfold Cbox at h
    rw [Array.getElem?_eq_none (by omega)] at h
    cases h
theorem Cbox.later {w w' : World} {p : Nat} {cs : Array Value} {ty : TypeId} (h : Cbox w p cs ty) (hb : Below w.heap.size w w') : Cbox w' p cs ty := by
  unfold Cbox
  rw [hb.block p h.lt]
  exact h
theorem Cbox.at {w : World} {p : Nat} {cs : Array Value} {ty : TypeId} (h : Cbox w p cs ty) (j : Nat) : w.cell? ⟨p, j, none⟩ = cs[j]? := cell_of_row w p j _ _ (0, 0) h
theorem Cbox.free {w : World} {p : Nat} {cs : Array Value} {ty : TypeId} (h : Cbox w p cs ty) (j : Nat) : w.frozen? ⟨p, j, none⟩ = false := by
  unfold Cbox at h
  simp [World.frozen?, h]
theorem Cbox.new (w : World) (cs : Array Value) (ty : TypeId) : Cbox (w.alloc (.cells cs ty)) w.heap.size cs ty := by
  unfold Cbox
  show (w.heap.push _)[w.heap.size]? = _
  simp

end Go.Proofs.YtafmchgncahafaaGreatDoor

namespace Go.Proofs.YtafmchgncahafaaGreatDoor.Bk
open Go.RowKit Go.Proofs.YtafmchgncahafaaGreatDoor.Co
attribute [local go_sem] cell?_more frozen?_more setCell_more more_lt more_more more_drew more_drewN setCell_drewN alloc_drewN

theorem at4_set {w : World} {g o : Nat} {u v : Va} (h : At4 w g o u) : At4 ((((w.setCell ⟨g, o, none⟩ (.int .i64 v.k)).setCell ⟨g, o + 1, none⟩ (.int .i64 v.n)).setCell ⟨g, o + 2, none⟩ (.int .i64 v.m)).setCell ⟨g, o + 3, none⟩ (.string ⟨v.b.toArray⟩)) g o v := by
  obtain ⟨h0, h1, h2, h3⟩ := h
  refine ⟨?_, ?_, ?_, ?_⟩
  all_goals simp (maxDischargeDepth := 12) [go_sem, h0, h1, h2, h3]
theorem at4_off {w : World} {g o o' : Nat} {u : Va} (a b c d : Value) (h : At4 w g o u) (hne : o + 3 < o' ∨ o' + 3 < o) : At4 ((((w.setCell ⟨g, o', none⟩ a).setCell ⟨g, o' + 1, none⟩ b).setCell ⟨g, o' + 2, none⟩ c).setCell ⟨g, o' + 3, none⟩ d) g o u := by
  have e : ∀ (W : World) (x y : Nat) (z : Value), x ≠ y → (W.setCell ⟨g, y, none⟩ z).cell? ⟨g, x, none⟩ = W.cell? ⟨g, x, none⟩ := fun W x y z hxy => World.cell?_setCell_other W _ _ _ (by intro h; simp only [Addr.mk.injEq] at h; omega)
  obtain ⟨h0, h1, h2, h3⟩ := h
  refine ⟨?_, ?_, ?_, ?_⟩
  · rw [e _ _ _ _ (by omega), e _ _ _ _ (by omega), e _ _ _ _ (by omega), e _ _ _ _ (by omega)]; exact h0
  · rw [e _ _ _ _ (by omega), e _ _ _ _ (by omega), e _ _ _ _ (by omega), e _ _ _ _ (by omega)]; exact h1
  · rw [e _ _ _ _ (by omega), e _ _ _ _ (by omega), e _ _ _ _ (by omega), e _ _ _ _ (by omega)]; exact h2
  · rw [e _ _ _ _ (by omega), e _ _ _ _ (by omega), e _ _ _ _ (by omega), e _ _ _ _ (by omega)]; exact h3
theorem at4_grown {w w' : World} {p o : Nat} {v : Va} {row : Option Nat} (h : At4 w p o v) (hg : w.grownBy w' row) (hne : some p ≠ row) : At4 w' p o v := by
  have hb := hg.block p h.lt hne
  obtain ⟨h0, h1, h2, h3⟩ := h
  exact ⟨(World.cell?_of_block (a := ⟨p, o, none⟩) hb).trans h0, (World.cell?_of_block (a := ⟨p, o + 1, none⟩) hb).trans h1, (World.cell?_of_block (a := ⟨p, o + 2, none⟩) hb).trans h2, (World.cell?_of_block (a := ⟨p, o + 3, none⟩) hb).trans h3⟩

theorem cbox_grown {w w' : World} {p : Nat} {cs : Array Value} {ty : TypeId} {row : Option Nat} (h : Cbox w p cs ty) (hg : w.grownBy w' row) (hne : some p ≠ row) : Cbox w' p cs ty := by
  unfold Cbox
  rw [hg.block p h.lt hne]
  exact h
theorem heap_off (w : World) (g j b : Nat) (v : Value) (h : b ≠ g) : (w.setCell ⟨g, j, none⟩ v).heap[b]? = w.heap[b]? := heap_setCell_other w ⟨g, j, none⟩ b v h
theorem rdr_later {w w' : World} {p : Nat} {bs : List UInt8} {k e : Nat} (h : Rdr w p bs k e) (hb : Below w.heap.size w w') : Rdr w' p bs k e := by
  obtain ⟨ao, cap, hC, hR, hk, hne⟩ := h
  have hp : p < w.heap.size := by
    rcases Nat.lt_or_ge p w.heap.size with h' | h'
    · exact h'
    · rw [Array.getElem?_eq_none h'] at hC; cases hC
  exact ⟨ao, cap, by rw [hb.block p hp]; exact hC, hR.later hb, hk, hne⟩
theorem rdr_lt {w : World} {p : Nat} {bs : List UInt8} {k e : Nat} (h : Rdr w p bs k e) : p < w.heap.size := by
  obtain ⟨ao, cap, hC, _⟩ := h
  rcases Nat.lt_or_ge p w.heap.size with h' | h'
  · exact h'
  · rw [Array.getElem?_eq_none h'] at hC; cases hC
/-- A store into a block whose first cell is a whole number leaves a reader as it is. -/
theorem rdr_set {w : World} {p : Nat} {bs : List UInt8} {k e g j : Nat} {v : Value} (h : Rdr w p bs k e) (hg : g ≠ p) (hc : ∃ z, w.cell? ⟨g, 0, none⟩ = some (.int .i64 z)) : Rdr (w.setCell ⟨g, j, none⟩ v) p bs k e := by
  obtain ⟨ao, cap, hC, hR, hk, hne⟩ := h
  refine ⟨ao, cap, by rw [heap_off w g j p v (Ne.symm hg)]; exact hC, ?_, hk, hne⟩
  obtain ⟨h1, h2, h3, h4, h5⟩ := hR
  refine ⟨h1, h2, h3, h4, fun hn => ?_⟩
  obtain ⟨b, off, rfl, hcells⟩ := h5 hn
  refine ⟨b, off, rfl, fun i hi => ?_⟩
  have hoff : off = 0 := by
    rcases hne with h | ⟨g', h, _⟩
    · cases h
    · cases h; rfl
  subst hoff
  have hbg : b ≠ g := by
    rintro rfl
    have h0 := hcells 0 hn
    obtain ⟨z, hz⟩ := hc
    rw [Nat.zero_add, hz] at h0
    cases h0
  rw [← hcells i hi]
  exact World.cell?_of_block (heap_off w g j b v hbg)
/-- A reader beside two boxes whose first cells are whole numbers. -/
def RB (w : World) (p : Nat) (bs : List UInt8) (k e : Nat) (g1 g2 : Nat) : Prop :=
  Rdr w p bs k e ∧ (g1 ≠ p ∧ ∃ z, w.cell? ⟨g1, 0, none⟩ = some (.int .i64 z)) ∧ (g2 ≠ p ∧ ∃ z, w.cell? ⟨g2, 0, none⟩ = some (.int .i64 z))
theorem cell_set (w : World) (g j g' : Nat) (v : Value) (hv : j = 0 → ∃ z, v = .int .i64 z) (h : ∃ z, w.cell? ⟨g', 0, none⟩ = some (.int .i64 z)) : ∃ z, (w.setCell ⟨g, j, none⟩ v).cell? ⟨g', 0, none⟩ = some (.int .i64 z) := by
  obtain ⟨z, hz⟩ := h
  by_cases he : (⟨g, j, none⟩ : Addr) = ⟨g', 0, none⟩
  · have hj : j = 0 := by cases he; rfl
    have hgg : g = g' := by cases he; rfl
    subst hj hgg
    obtain ⟨y, rfl⟩ := hv rfl
    exact ⟨y, by simp [go_sem, hz]⟩
  · refine ⟨z, Eq.trans (World.cell?_setCell_other _ _ _ _ ?_) hz⟩
    intro h
    first | exact he h | exact he h.symm
theorem RB.set1 {w : World} {p : Nat} {bs : List UInt8} {k e g1 g2 j : Nat} {v : Value} (h : RB w p bs k e g1 g2) (hv : j = 0 → ∃ z, v = .int .i64 z) : RB (w.setCell ⟨g1, j, none⟩ v) p bs k e g1 g2 :=
  ⟨rdr_set h.1 h.2.1.1 h.2.1.2, ⟨h.2.1.1, cell_set _ _ _ _ _ hv h.2.1.2⟩, ⟨h.2.2.1, cell_set _ _ _ _ _ hv h.2.2.2⟩⟩
theorem RB.set2 {w : World} {p : Nat} {bs : List UInt8} {k e g1 g2 j : Nat} {v : Value} (h : RB w p bs k e g1 g2) (hv : j = 0 → ∃ z, v = .int .i64 z) : RB (w.setCell ⟨g2, j, none⟩ v) p bs k e g1 g2 :=
  ⟨rdr_set h.1 h.2.2.1 h.2.2.2, ⟨h.2.1.1, cell_set _ _ _ _ _ hv h.2.1.2⟩, ⟨h.2.2.1, cell_set _ _ _ _ _ hv h.2.2.2⟩⟩
theorem gb_of {w w' : World} {r : Option Nat} (h : Below w.heap.size w w') : w.grownBy w' r := ⟨h.os, h.tape, h.output, h.size, fun k hk _ => h.block k hk⟩
theorem gb_new {w w' : World} {r : Option Nat} (h : w.grownBy w' r) (g j : Nat) (v : Value) (hg : w.heap.size ≤ g) : w.grownBy (w'.setCell ⟨g, j, none⟩ v) r :=
  ⟨by rw [← h.os]; rfl, by rw [← h.tape]; rfl, by rw [← h.output]; rfl, by simpa using h.size, fun k hk hr => by rw [heap_off w' g j k v (by omega)]; exact h.block k hk hr⟩
theorem gb_step {a b c : World} {r : Option Nat} (h : a.grownBy b r) (k : b.grownBy c r) : a.grownBy c r := gb_trans h k
end Go.Proofs.YtafmchgncahafaaGreatDoor.Bk
