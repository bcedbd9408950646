/-
  The contract of the document's Reader's Text; and that a Reader stays as it was while the other one is called.
-/
import Derived.Test.YtdjilmcpkeckoaaDoorReadsP5
namespace Go.Proofs.YtdjilmcpkeckoaaDoor
open Go.RowKit

theorem rrText_any (p : Nat) (bs : List UInt8) (k e : Nat) (w : World) (h : RRdr w p bs k e) :
    Calls Tryd.prog 26 #[.pointer (some ⟨p, 0, none⟩)] w fun x w' => x = .returned (.string ⟨(rTxt bs k e).1.toArray⟩) ∧ RRdr w' p bs (rTxt bs k e).2.1 (rTxt bs k e).2.2 ∧ w.grownBy w' (some p) := by
  by_cases he : e = 0
  · subst he
    by_cases ht : (takeN (bs.drop k)).2.2 = 0
    · by_cases hz : numOf (takeN (bs.drop k)) < 0 ∨ 1048576 < numOf (takeN (bs.drop k))
      · exact rrText_range p bs k w h ht hz
      · obtain ⟨m, hm⟩ := Int.eq_ofNat_of_zero_le (show 0 ≤ numOf (takeN (bs.drop k)) by omega)
        by_cases hf : bs.length - k - (takeN (bs.drop k)).2.1 < m
        · exact rrText_few p bs k w h ht m hm (by omega) hf
        · exact rrText_ok p bs k w h ht m hm (by omega) hf
    · exact rrText_bad p bs k w h ht
  · exact rrText_set p bs k e w h he

/-- Bytes are read in no block whose first cell is a slice. -/
theorem Rd.other {w w' : World} {ao : Option Addr} {n cap q : Nat} {bs : List UInt8} {s : Option Addr} {l c : Nat} (h : Rd w ao n cap bs) (h0 : ao = none ∨ ∃ g, ao = some ⟨g, 0, none⟩) (hq : w.cell? ⟨q, 0, none⟩ = some (.slice s l c)) (hg : w.grownBy w' (some q)) : Rd w' ao n cap bs := by
  obtain ⟨h1, h2, h3, h4, h5⟩ := h
  refine ⟨h1, h2, h3, h4, fun hn => ?_⟩
  obtain ⟨b, off, rfl, hc⟩ := h5 hn
  refine ⟨b, off, rfl, fun i hi => ?_⟩
  have hoff : off = 0 := by
    rcases h0 with h | ⟨g, h⟩
    · cases h
    · cases h; rfl
  subst hoff
  have hb0 := hc 0 (by omega)
  have hne : b ≠ q := by
    intro e
    subst e
    rw [Nat.add_zero, hq] at hb0
    cases hb0
  have hlt : b < w.heap.size := World.block_lt_of_cell? w _ hb0
  rw [World.cell?_of_block (a := ⟨b, 0 + i, none⟩) (hg.block b hlt (fun e => hne (Option.some.inj e)))]
  exact hc i hi

theorem Rdr.beside {w w' : World} {p q : Nat} {bs bs' : List UInt8} {k e k' e' : Nat} (h : Rdr w p bs k e) (h' : RRdr w q bs' k' e') (hg : w.grownBy w' (some q)) (hpq : p ≠ q) (hp : p < w.heap.size) : Rdr w' p bs k e := by
  obtain ⟨ao, cap, hb, hr, hk, hgg⟩ := h
  obtain ⟨ao', cap', hb', _, _, _⟩ := h'
  refine ⟨ao, cap, ?_, hr.other ?_ (rrCell w hb').1 hg, hk, hgg⟩
  · rw [hg.block p hp (fun e => hpq (Option.some.inj e))]
    exact hb
  · rcases hgg with h | ⟨g, h, _⟩
    · exact .inl h
    · exact .inr ⟨g, h⟩
theorem RRdr.beside {w w' : World} {p q : Nat} {bs bs' : List UInt8} {k e k' e' : Nat} (h : RRdr w q bs k e) (h' : Rdr w p bs' k' e') (hg : w.grownBy w' (some p)) (hpq : p ≠ q) (hq : q < w.heap.size) : RRdr w' q bs k e := by
  obtain ⟨ao, cap, hb, hr, hk, hgg⟩ := h
  obtain ⟨ao', cap', hb', _, _, _⟩ := h'
  refine ⟨ao, cap, ?_, hr.other ?_ (rCell w hb').1 hg, hk, hgg⟩
  · rw [hg.block q hq (fun e => hpq (Option.some.inj e).symm)]
    exact hb
  · rcases hgg with h | ⟨g, h, _⟩
    · exact .inl h
    · exact .inr ⟨g, h⟩
end Go.Proofs.YtdjilmcpkeckoaaDoor
