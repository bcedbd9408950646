/-
  Acts that come in.
-/
import Derived.Test.YtonjjbmjholkjaaDoorWlFr
import Derived.SizedLaws
import Derived.Lib.SmallJoins
import Derived.Deep.Slices
namespace Go.Proofs.YtonjjbmjholkjaaDoor
open Go.ChangeShapes Go.WideShapes Go.ChangeAt Go.WideMaps Go.WideElems Go.RowKit Go.Shelf Go.Lib

theorem cells4 {W : World} {a : Addr} {l : List Value} (h : W.cells? 0 a 4 = some l) : ∀ j v, l[j]? = some v → W.cell? (a.add j) = some v := by
  unfold World.cells? at h
  rw [if_pos (Nat.zero_le _)] at h
  have e : List.range 4 = [0, 1, 2, 3] := rfl
  rw [e] at h
  simp only [List.mapM_cons, List.mapM_nil] at h
  cases h0 : W.cell? (a.add 0) with
  | none => simp [h0] at h
  | some v0 =>
    cases h1 : W.cell? (a.add 1) with
    | none => simp [h0, h1] at h
    | some v1 =>
      cases h2 : W.cell? (a.add 2) with
      | none => simp [h0, h1, h2] at h
      | some v2 =>
        cases h3 : W.cell? (a.add 3) with
        | none => simp [h0, h1, h2, h3] at h
        | some v3 =>
          simp [h0, h1, h2, h3] at h
          subst h
          intro j v hv
          match j, hv with
          | 0, hv => simp at hv; rw [h0, hv]
          | 1, hv => simp at hv; rw [h1, hv]
          | 2, hv => simp at hv; rw [h2, hv]
          | 3, hv => simp at hv; rw [h3, hv]
          | (j + 4), hv => simp at hv
def OqOk (W : World) (s : Oq) : Prop := Rd W s.ao s.m s.cap s.B ∧ wf64 s.kd ∧ wf64 s.n

theorem trod_structQ {H : Type} {enc : TypeId × Value → H} {P : Program} {w : World} {base : Nat} {spare : Nat → Bool} {held : Bool} {t : TypeId} {f0 f1 f2 f3 : Field} {fuel : Nat} {cs : List Value} {x : DataW H × List MemPlace} (ht : P.underlying t = some (.struct #[f0, f1, f2, f3])) (h : DataW.trod enc P w base spare held fuel t cs = some x) :
    ∃ y0 y1 y2 y3 n, x.1 = .agg [y0.1, y1.1, y2.1, y3.1] ∧ cs.length = P.cellsOf t ∧ DataW.trod enc P w base spare held n f0.type ((cs.drop f0.offset).take (P.cellsOf f0.type)) = some y0 ∧
      DataW.trod enc P w base spare held n f1.type ((cs.drop f1.offset).take (P.cellsOf f1.type)) = some y1 ∧ DataW.trod enc P w base spare held n f2.type ((cs.drop f2.offset).take (P.cellsOf f2.type)) = some y2 ∧ DataW.trod enc P w base spare held n f3.type ((cs.drop f3.offset).take (P.cellsOf f3.type)) = some y3 := by
  obtain ⟨xs, n, _, rfl, hl, hlen, hf⟩ := DataW.trod_struct ht h
  match xs, hlen with
  | [y0, y1, y2, y3], _ => exact ⟨y0, y1, y2, y3, n, by simp, hl, by simpa using hf 0 f0 rfl, by simpa using hf 1 f1 rfl, by simpa using hf 2 f2 rfl, by simpa using hf 3 f3 rfl⟩

set_option maxRecDepth 100000 in
theorem op_cells {H : Type} {enc : TypeId × Value → H} {W : World} {fuel : Nat} {cs : List Value} {x : DataW H × List MemPlace}
    (hf : DataW.trod enc Tryd.prog W 0 (fun _ => true) true fuel 35 cs = some x) : ∃ s : Oq, cs = s.cells.toList ∧ OqOk W s := by
  obtain ⟨y0, y1, y2, y3, m, _, hl, h0, h1, h2, h3⟩ := trod_structQ Tryd.underlying35 hf
  have hc : Tryd.prog.cellsOf 35 = 4 := by kernel_rfl
  rw [hc] at hl
  match cs, hl with
  | [c0, c1, c2, c3], _ =>
    have d0 : Tryd.prog.cellsOf 3 = 1 := by kernel_rfl
    have d2 : Tryd.prog.cellsOf 33 = 1 := by kernel_rfl
    have d3 : Tryd.prog.cellsOf 4 = 1 := by kernel_rfl
    obtain ⟨a, ea, -, wa⟩ := DataW.trod_int Tryd.underlying3 h0
    obtain ⟨b, eb, -, wb⟩ := DataW.trod_int Tryd.underlying3 h1
    obtain ⟨ao, an, ac, e2⟩ := Go.Joins.slice_form Tryd.underlying33 h2
    obtain ⟨t, et, -⟩ := DataW.trod_bool Tryd.underlying4 h3
    rw [d0] at ea eb
    rw [d2] at e2 h2
    rw [d3] at et
    simp at ea eb e2 et
    subst ea; subst eb; subst e2; subst et
    obtain ⟨bs, hr, -⟩ := rd_open (a := ao) (len := an) (cap := ac) h2 (by simp)
    exact ⟨⟨a, b, ao, an, ac, t, bs⟩, rfl, hr, bounds_i64 wa, bounds_i64 wb⟩

set_option maxRecDepth 100000 in
theorem ops_open {H : Type} {enc : TypeId × Value → H} {W : World} {a : Option Addr} {len cap fuel : Nat} {cs : List Value} {x : DataW H × List MemPlace}
    (hf : DataW.trod enc Tryd.prog W 0 (fun _ => true) true fuel 22 cs = some x) (hcs : cs = [.slice a len cap]) :
    ∃ ss : List Oq, ss.length = len ∧ OqW W a ss ∧ len ≤ 9223372036854775807 := by
  subst hcs
  have hc4 : Tryd.prog.cellsOf 35 = 4 := by kernel_rfl
  rcases Go.Deep.open_slice Tryd.underlying22 hf with ⟨hcs, _⟩ | ⟨y, l, c, m, n, D, Pl, hcs, _, hl, hm, hmm, hx, hel⟩
  · simp at hcs
    obtain ⟨rfl, rfl, rfl⟩ := hcs
    exact ⟨[], rfl, ⟨fun h => by simp at h, fun i h => by simp at h⟩, by omega⟩
  · simp at hcs
    obtain ⟨rfl, rfl, rfl⟩ := hcs
    have hmc : m = cap := by simpa using hmm
    rw [hc4] at hel
    have ex : ∀ i, i < len → ∃ v : Oq, W.cells? 0 (y.add (i * 4)) 4 = some v.cells.toList ∧ OqOk W v := by
      intro i hi
      obtain ⟨cs', h1, h2⟩ := hel i (by omega)
      obtain ⟨v, rfl, hv⟩ := op_cells h2
      exact ⟨v, h1, hv⟩
    let f : Nat → Oq := fun i => if h : i < len then (ex i h).choose else ⟨0, 0, none, 0, 0, false, []⟩
    have hf : ∀ i (h : i < len), W.cells? 0 (y.add (i * 4)) 4 = some (f i).cells.toList ∧ OqOk W (f i) := by
      intro i h
      have : f i = (ex i h).choose := dif_pos h
      rw [this]
      exact (ex i h).choose_spec
    have hlen : len ≤ 9223372036854775807 := by unfold maxLen at hm; omega
    refine ⟨(List.range len).map f, by simp, ⟨?_, ?_⟩, hlen⟩
    · intro hp
      simp only [List.length_map, List.length_range] at hp
      obtain ⟨b, off, spot⟩ := y
      have h0 := cells4 (hf 0 hp).1 0 _ rfl
      have hspot : spot = none := by simpa [Addr.add] using World.cell?_spot h0
      subst hspot
      refine ⟨b, off, World.block_lt_of_cell? W _ h0, rfl, fun i hi j v hv => ?_⟩
      simp only [List.length_map, List.length_range] at hi
      simp only [List.getElem_map, List.getElem_range] at hv
      have g := cells4 (hf i hi).1 j v (by simpa using hv)
      simp only [Addr.add_lit] at g
      exact g
    · intro i hi
      simp only [List.length_map, List.length_range] at hi
      simp only [List.getElem_map, List.getElem_range]
      exact (hf i hi).2
end Go.Proofs.YtonjjbmjholkjaaDoor
