/-
  Contracts that CodecWrites leans on: Text, Record and Number and the document's answers, each for every input at once.
-/
import Derived.Test.YtdjilmcpkeckoaaDoorFrm
import Derived.Test.YtdjilmcpkeckoaaDoorRef4
import Derived.Test.YtdjilmcpkeckoaaDoorLent
import Derived.SizedLaws
import Derived.Deep.RegionHeld3
import Derived.Deep.DrawnRows
namespace Go.Proofs.YtdjilmcpkeckoaaDoor
open Go.ChangeShapes Go.WideShapes Go.ChangeAt Go.WideMaps Go.WideElems Go.RowKit
open Go.ChangeMaps (open_string shut_string)

def textOut (s : ByteArray) : List UInt8 := if s.size ≤ 1048576 then textBytes s else []
def textErr (s : ByteArray) : Nat := if s.size ≤ 1048576 then 0 else 6
def recOut (bs : List UInt8) : List UInt8 := if bs.length ≤ 1048576 then recBytes bs else []
def recErr (bs : List UInt8) : Nat := if bs.length ≤ 1048576 then 0 else 6

theorem text_all (s : ByteArray) (w : World) (hs : s.size ≤ 9223372036854775807) :
    Calls Tryd.prog 10 #[.string s] w fun e w' => ∃ a c, e = .returned (.tuple #[.slice a (textOut s).length c, .int .i64 (textErr s : Int)]) ∧ Own w' w.heap.size (.slice a (textOut s).length c) (textOut s) ∧ Below w.heap.size w w' := by
  unfold textOut textErr
  by_cases h : s.size ≤ 1048576
  · simp only [h, if_true]
    refine (text_fits s w h).mono ?_
    rintro e w1 ⟨v, rfl, ho, hb⟩
    obtain ⟨a, c, rfl, _, _⟩ := ho.rd
    exact ⟨a, c, rfl, ho, hb⟩
  · simp only [h, if_false]
    refine (text_big s w (by omega) hs).mono ?_
    rintro e w1 ⟨rfl, rfl⟩
    exact ⟨none, 0, rfl, World.ownsRow_nil _ _ _ _, Below.refl _ _⟩

theorem record_all (ao : Option Addr) (n cap : Nat) (bs : List UInt8) (w : World) (hT : Tab w) (hr : Rd w ao n cap bs) :
    Calls Tryd.prog 12 #[.slice ao n cap] w fun e w' => ∃ a c, e = .returned (.tuple #[.slice a (recOut bs).length c, .int .i64 (recErr bs : Int)]) ∧ Own w' w.heap.size (.slice a (recOut bs).length c) (recOut bs) ∧ Below w.heap.size w w' := by
  have hn := hr.1
  have hm := hr.2.2.1
  have hc := hr.2.1
  unfold maxLen at hm
  unfold recOut recErr
  by_cases h : bs.length ≤ 1048576
  · simp only [h, if_true]
    refine (record_fits ao n cap bs w hT hr (by omega)).mono ?_
    rintro e w1 ⟨v, rfl, ho, hb⟩
    obtain ⟨a, c, rfl, _, _⟩ := ho.rd
    exact ⟨a, c, rfl, ho, hb⟩
  · simp only [h, if_false]
    refine (record_big ao n cap w (by omega) (by omega)).mono ?_
    rintro e w1 ⟨rfl, rfl⟩
    exact ⟨none, 0, rfl, World.ownsRow_nil _ _ _ _, Below.refl _ _⟩

theorem rrecord_all (ao : Option Addr) (n cap : Nat) (bs : List UInt8) (w : World) (hr : Rd w ao n cap bs) :
    Calls Tryd.prog 13 #[.slice ao n cap] w fun e w' => ∃ a c, e = .returned (.tuple #[.slice a (recOut bs).length c, .int .i64 (recErr bs : Int)]) ∧ Own w' w.heap.size (.slice a (recOut bs).length c) (recOut bs) ∧ Below w.heap.size w w' := by
  have hn := hr.1
  have hm := hr.2.2.1
  have hc := hr.2.1
  unfold maxLen at hm
  unfold recOut recErr
  by_cases h : bs.length ≤ 1048576
  · simp only [h, if_true]
    refine (rrecord_fits ao n cap bs w hr (by omega)).mono ?_
    rintro e w1 ⟨v, rfl, ho, hb⟩
    obtain ⟨a, c, rfl, _, _⟩ := ho.rd
    exact ⟨a, c, rfl, ho, hb⟩
  · simp only [h, if_false]
    refine (rrecord_big ao n cap w (by omega) (by omega)).mono ?_
    rintro e w1 ⟨rfl, rfl⟩
    exact ⟨none, 0, rfl, World.ownsRow_nil _ _ _ _, Below.refl _ _⟩

theorem num_all (n : Int) (w : World) (h0 : -9223372036854775808 ≤ n) (h1 : n ≤ 9223372036854775807) :
    Calls Tryd.prog 14 #[.int .i64 n] w fun e w' => ∃ a c, e = .returned (.slice a (numBytes n).length c) ∧ Own w' w.heap.size (.slice a (numBytes n).length c) (numBytes n) ∧ Below w.heap.size w w' := by
  refine (number_any n w h0 h1).mono ?_
  rintro e w1 ⟨v, rfl, ho, hb⟩
  obtain ⟨a, c, rfl, _, _⟩ := ho.rd
  exact ⟨a, c, rfl, ho, hb⟩
theorem rnum_all (n : Int) (w : World) (h0 : -9223372036854775808 ≤ n) (h1 : n ≤ 9223372036854775807) :
    Calls Tryd.prog 15 #[.int .i64 n] w fun e w' => ∃ a c, e = .returned (.slice a (numBytes n).length c) ∧ Own w' w.heap.size (.slice a (numBytes n).length c) (numBytes n) ∧ Below w.heap.size w w' := by
  refine (rnumber_any n w h0 h1).mono ?_
  rintro e w1 ⟨v, rfl, ho, hb⟩
  obtain ⟨a, c, rfl, _, _⟩ := ho.rd
  exact ⟨a, c, rfl, ho, hb⟩

/-- string(..) of a row of the call's own, in whatever world it is owned. -/
theorem str_own {W : World} {base : Nat} {a : Option Addr} {n c : Nat} {bs : List UInt8} (h : Own W base (.slice a n c) bs) : (convert 22 9 (.slice a n c)).run Tryd.prog W = .ok (.string ⟨bs.toArray⟩) W := by
  obtain ⟨a', c', hv, hr, _⟩ := h.rd
  cases hv
  exact run_string_of (P := Tryd.prog) 22 9 5 Tryd.underlying22 Tryd.underlying5 Tryd.underlying9 hr

theorem below_last {w w5 w7 w9 : World} {nq : Nat} (B5 : Below w.heap.size w w5) (b57 : Below w5.heap.size w5 w7) (b9 : Below (w7.drewN nq).heap.size (w7.drewN nq) w9) : Below w.heap.size w w9 := by
  have z5 := B5.size
  have z7 := b57.size
  exact (below_drewN (B5.trans (b57.mono z5)) nq).trans (b9.mono (show w.heap.size ≤ w7.heap.size by omega))

end Go.Proofs.YtdjilmcpkeckoaaDoor
