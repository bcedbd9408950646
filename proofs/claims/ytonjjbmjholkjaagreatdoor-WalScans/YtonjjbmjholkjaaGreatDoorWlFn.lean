/-
  What every claim of this seat shares: the listed table as the walks ask for it, and a start that meets the condition.
-/
import Derived.Test.YtonjjbmjholkjaaGreatDoorRows
import Derived.Test.YtonjjbmjholkjaaGreatDoorWlK
import Derived.ProofKit
import Derived.LaidMore
import Derived.OpenShut
import Derived.ShutString
import Derived.Stop.Joined
import Derived.Lib.LaidTab
namespace Go.Proofs.YtonjjbmjholkjaaGreatDoor
open Go.ChangeShapes Go.WideShapes Go.ChangeAt Go.WideMaps Go.WideElems Go.RowKit

theorem own : ownKnob Tryz.prog.godebug = none := by kernel_rfl
theorem laidOut : laidOutB Tryz.prog = true := by kernel_rfl
/-- The name of the program's one listed variable: its table of sums. -/
def sumsName : String := Rows.walNilRow.named.headD ""
theorem gSums : Tryz.prog.globalNamed sumsName = some 0 := by kernel_rfl
theorem tSums : (Tryz.prog.globals[0]?).map (·.type) = some 124 := by kernel_rfl

abbrev laid1 : List (String × DataW Unit) := Rows.walNilRow.laid

theorem door_met (os : Os) (args : Array Value) : laidMetH Tryz.prog laid1 ((World.doorLaid Tryz.prog 14 os).forCall (fun _ _ => 0) ⟨#[], args, []⟩).memory :=
  laidMetH_of_parts3 (fuel := 8) (laidMet_of_run' 8 (by kernel_rfl) (by kernel_rfl)) (by kernel_rfl) (by kernel_rfl)

theorem tab_cells : ∀ k : _root_.Fin 16, (tabN.map fun z : Nat => Value.int .u64 (z : Int)).toArray[k.val]? = some (.int .u64 ((tab k.val).toNat : Int)) := by
  intro k
  have e : ∀ k : _root_.Fin 16, (tab k.val).toNat = tabN.getD k.val 0 := by decide +kernel
  rw [e k]
  have hl : k.val < tabN.length := k.isLt
  simp [List.getD, hl]

theorem tab_of_laid {W : World} (h : laidMetH Tryz.prog laid1 W) : Tab W := by
  rw [MakeChecks.laidMetH_plain _ _ _ (by kernel_rfl)] at h
  have h' : laidMet Tryz.prog [(sumsName, Lib.tabData .u64 (tabN.map fun z : Nat => (z : Int)))] W := h
  have ht : Lib.TabIs Tryz.prog W sumsName .u64 (tabN.map fun z : Nat => (z : Int)) :=
    Lib.tabIs_of_head gSums tSums Tryz.underlying124 Tryz.underlying88 (by kernel_rfl) (by kernel_rfl) h'
  intro k hk
  have hc := World.var?_cell gSums ht k
  have e := tab_cells ⟨k, hk⟩
  rw [List.map_map] at hc
  exact hc.trans e

/-- A slice of bytes that came in: what it reads as. -/
theorem rd_open {H : Type} {enc : TypeId × Value → H} {W : World} {a : Option Addr} {len cap fuel : Nat} {cs : List Value} {x : DataW H × List MemPlace}
    (hf : DataW.trod enc Tryz.prog W 0 (fun _ => true) true fuel 22 cs = some x) (hcs : cs = [.slice a len cap]) :
    ∃ bs, Rd W a len cap bs ∧ (cap = 0 ∨ ∃ es sp, x.1 = .slice es sp ∧ es.length + sp.length = cap) := by
  subst hcs
  rcases open_ints Tryz.underlying22 Tryz.underlying5 (by kernel_rfl) hf with ⟨hcs, _⟩ | ⟨y, l, c, zs, hcs, _, hl, hm, hz, hx, hcell, hwz⟩
  · simp at hcs
    obtain ⟨rfl, rfl, rfl⟩ := hcs
    exact ⟨[], Rd.nil W, .inl rfl⟩
  · simp at hcs
    obtain ⟨rfl, rfl, rfl⟩ := hcs
    have hzl : zs.length = cap := by simpa using hz
    refine ⟨(zs.take len).map fun n => UInt8.ofNat n.toNat, ⟨by simp; omega, hl, hm, (fun h => by cases h), fun hn => ?_⟩, .inr ⟨_, _, by rw [hx], by simp [lits]; omega⟩⟩
    obtain ⟨b, off, spot⟩ := y
    have h0 := hcell 0 (by omega)
    have hspot : spot = none := by simpa [Addr.add] using World.cell?_spot h0
    subst hspot
    refine ⟨b, off, rfl, fun i hi => ?_⟩
    have hi' : i < len := by simp at hi; omega
    have hci := hcell i (by omega)
    rw [Addr.add_lit] at hci
    rw [hci]
    have hw := hwz zs[i] (List.getElem_mem (by omega))
    have hbd := bounds_u8 hw
    have hget : zs.getD i 0 = zs[i] := by simp [List.getD, show i < zs.length by omega]
    rw [hget]
    simp only [List.getElem_map, List.getElem_take]
    rw [UInt8.toNat_ofNat']
    congr 2
    omega
theorem bytes1 : Tryz.prog.bytesOf 5 = 1 := by kernel_rfl
end Go.Proofs.YtonjjbmjholkjaaGreatDoor
