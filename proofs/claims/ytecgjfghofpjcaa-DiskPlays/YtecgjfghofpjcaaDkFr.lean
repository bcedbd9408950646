/-
  What every claim of this seat shares: bytes, and an op, that come in.
-/
import Derived.Test.YtecgjfghofpjcaaRows
import Derived.Test.YtecgjfghofpjcaaDkW
import Derived.ProofKit
import Derived.OpenShut
import Derived.ChangeSame
import Derived.Lib.SmallJoins
namespace Go.Proofs.Ytecgjfghofpjcaa
open Go.ChangeShapes Go.WideShapes Go.ChangeAt Go.WideMaps Go.WideElems Go.RowKit

theorem own : ownKnob Try.prog.godebug = none := by kernel_rfl
theorem laidOut : laidOutB Try.prog = true := by kernel_rfl

/-- A slice of bytes that came in: what it reads as. -/
theorem rd_open {H : Type} {enc : TypeId × Value → H} {W : World} {a : Option Addr} {len cap fuel : Nat} {cs : List Value} {x : DataW H × List MemPlace}
    (hf : DataW.trod enc Try.prog W 0 (fun _ => true) true fuel 32 cs = some x) (hcs : cs = [.slice a len cap]) :
    ∃ bs, Rd W a len cap bs ∧ (cap = 0 ∨ ∃ es sp, x.1 = .slice es sp ∧ es.length + sp.length = cap) := by
  subst hcs
  rcases open_ints Try.underlying32 Try.underlying5 (by kernel_rfl) hf with ⟨hcs, _⟩ | ⟨y, l, c, zs, hcs, _, hl, hm, hz, hx, hcell, hwz⟩
  · simp at hcs
    obtain ⟨rfl, rfl, rfl⟩ := hcs
    exact ⟨[], Rd.nil W, .inl rfl⟩
  · simp at hcs
    obtain ⟨rfl, rfl, rfl⟩ := hcs
    have hzl : zs.length = cap := by simpa using hz
    refine ⟨(zs.take len).map fun n => UInt8.ofNat n.toNat, ⟨by simp; omega, hl, hm, (fun h => by cases h), fun hn => ?_⟩, .inr ⟨_, _, by rw [hx], by simp [lits]; omega⟩⟩
    obtain ⟨b, off, spot⟩ := y
    have h0 := hcell 0 (by omega)
    have hspot : spot = none := by simpa [Addr.add] using World.cell?_spot h0
    subst hspot
    refine ⟨b, off, rfl, fun i hi => ?_⟩
    have hi' : i < len := by simp at hi; omega
    have hci := hcell i (by omega)
    rw [Addr.add_lit] at hci
    rw [hci]
    have hw := hwz zs[i] (List.getElem_mem (by omega))
    have hbd := bounds_u8 hw
    have hget : zs.getD i 0 = zs[i] := by simp [List.getD, show i < zs.length by omega]
    rw [hget]
    simp only [List.getElem_map, List.getElem_take]
    rw [UInt8.toNat_ofNat']
    congr 2
    omega
theorem trod_struct5 {H : Type} {enc : TypeId × Value → H} {P : Program} {w : World} {base : Nat} {spare : Nat → Bool} {held : Bool} {t : TypeId} {f0 f1 f2 f3 f4 : Field} {fuel : Nat} {cs : List Value} {x : DataW H × List MemPlace} (ht : P.underlying t = some (.struct #[f0, f1, f2, f3, f4])) (h : DataW.trod enc P w base spare held fuel t cs = some x) :
    ∃ y0 y1 y2 y3 y4 n, x.1 = .agg [y0.1, y1.1, y2.1, y3.1, y4.1] ∧ cs.length = P.cellsOf t ∧ DataW.trod enc P w base spare held n f0.type ((cs.drop f0.offset).take (P.cellsOf f0.type)) = some y0 ∧
      DataW.trod enc P w base spare held n f1.type ((cs.drop f1.offset).take (P.cellsOf f1.type)) = some y1 ∧ DataW.trod enc P w base spare held n f2.type ((cs.drop f2.offset).take (P.cellsOf f2.type)) = some y2 ∧
      DataW.trod enc P w base spare held n f3.type ((cs.drop f3.offset).take (P.cellsOf f3.type)) = some y3 ∧ DataW.trod enc P w base spare held n f4.type ((cs.drop f4.offset).take (P.cellsOf f4.type)) = some y4 := by
  obtain ⟨xs, n, _, rfl, hl, hlen, hf⟩ := DataW.trod_struct ht h
  match xs, hlen with
  | [y0, y1, y2, y3, y4], _ => exact ⟨y0, y1, y2, y3, y4, n, by simp, hl, by simpa using hf 0 f0 rfl, by simpa using hf 1 f1 rfl, by simpa using hf 2 f2 rfl, by simpa using hf 3 f3 rfl, by simpa using hf 4 f4 rfl⟩

set_option maxRecDepth 100000 in
theorem open_op {H : Type} {enc : TypeId × Value → H} {W : World} {r : Reach} {b0 : Nat} {v : Value} {d : DataW H} {ps : List MemPlace} (hval : Value.okWide Try.prog W r b0 35 v)
    (hd : DataW.Trod enc Try.prog W 0 (fun _ => true) true 35 v d ps) : ∃ (kd n : Int) (ao : Option Addr) (m cap : Nat) (torn : Bool) (fo : Option Addr) (fn fc : Nat), v = .agg #[.int .i64 kd, .int .i64 n, .slice ao m cap, .bool torn, .slice fo fn fc] := by
  obtain ⟨cs, rfl, hsz⟩ := okWide_struct Try.underlying35 hval
  obtain ⟨fuel, hf⟩ := hd
  have hc : Try.prog.cellsOf 35 = 5 := by kernel_rfl
  rw [hc] at hsz
  obtain ⟨l⟩ := cs
  match l, hsz with
  | [c0, c1, c2, c3, c4], _ =>
    obtain ⟨y0, y1, y2, y3, y4, m, _, _, h0, h1, h2, h3, h4⟩ := trod_struct5 Try.underlying35 hf
    have d0 : Try.prog.cellsOf 3 = 1 := by kernel_rfl
    have d2 : Try.prog.cellsOf 32 = 1 := by kernel_rfl
    have d3 : Try.prog.cellsOf 4 = 1 := by kernel_rfl
    have d4 : Try.prog.cellsOf 33 = 1 := by kernel_rfl
    obtain ⟨a, ea, rfl, wa⟩ := DataW.trod_int Try.underlying3 h0
    obtain ⟨b, eb, rfl, wb⟩ := DataW.trod_int Try.underlying3 h1
    obtain ⟨ao, an, ac, e2⟩ := Go.Joins.slice_form Try.underlying32 h2
    obtain ⟨t, et, -⟩ := DataW.trod_bool Try.underlying4 h3
    obtain ⟨fo, fn, fc, e4⟩ := Go.Joins.slice_form Try.underlying33 h4
    rw [d0] at ea eb
    rw [d2] at e2
    rw [d3] at et
    rw [d4] at e4
    simp [Value.cells] at ea eb e2 et e4
    subst ea; subst eb; subst e2; subst et; subst e4
    exact ⟨_, _, _, _, _, _, _, _, _, rfl⟩
end Go.Proofs.Ytecgjfghofpjcaa
