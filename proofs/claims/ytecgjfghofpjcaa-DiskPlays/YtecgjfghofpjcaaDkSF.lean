/-
  Six arguments of a row; ops and fates that come in.
-/
import Derived.Test.YtecgjfghofpjcaaDkFr
import Derived.Test.YtecgjfghofpjcaaDkS1
import Derived.Carry
import Derived.SliceStrings
import Derived.Deep.Slices
namespace Go.Proofs.Ytecgjfghofpjcaa
open Go.ChangeShapes Go.WideShapes Go.ChangeAt Go.WideMaps Go.WideElems Go.RowKit Go.Shelf Go.Lib

theorem trodAll_five {H : Type} {enc : TypeId × Value → H} {P : Program} {w : World} {base : Nat} {spare : Nat → Bool} {held : Bool} {t0 t1 t2 t3 t4 : TypeId} {args : Array Value} {ds : List (DataW H)} {ps : List MemPlace} (h : DataW.TrodAll enc P w base spare held [t0, t1, t2, t3, t4] args.toList ds ps) :
    ∃ v0 v1 v2 v3 v4 d0 d1 d2 d3 d4 p0 p1 p2 p3 p4, args = #[v0, v1, v2, v3, v4] ∧ ds = [d0, d1, d2, d3, d4] ∧ ps = p0 ++ (p1 ++ p2 ++ p3 ++ p4) ∧ DataW.Trod enc P w base spare held t0 v0 d0 p0 ∧ DataW.Trod enc P w base spare held t1 v1 d1 p1 ∧ DataW.Trod enc P w base spare held t2 v2 d2 p2 ∧ DataW.Trod enc P w base spare held t3 v3 d3 p3 ∧ DataW.Trod enc P w base spare held t4 v4 d4 p4 := by
  obtain ⟨v0, vs, d0, es, p0, q, ha, rfl, rfl, h0, hr⟩ := trodAll_cons h
  have hr' : DataW.TrodAll enc P w base spare held [t1, t2, t3, t4] vs.toArray.toList es q := by simpa using hr
  obtain ⟨v1, v2, v3, v4, d1, d2, d3, d4, p1, p2, p3, p4, hv, rfl, rfl, h1, h2, h3, h4⟩ := trodAll_four hr'
  refine ⟨v0, v1, v2, v3, v4, d0, d1, d2, d3, d4, p0, p1, p2, p3, p4, ?_, rfl, rfl, h0, h1, h2, h3, h4⟩
  have e : vs = [v1, v2, v3, v4] := by simpa using congrArg Array.toList hv
  rw [e] at ha
  exact Array.toList_inj.1 ha
theorem trodAll_mk5 {H : Type} {enc : TypeId × Value → H} {P : Program} {w : World} {base : Nat} {spare : Nat → Bool} {held : Bool} {t0 t1 t2 t3 t4 : TypeId} {v0 v1 v2 v3 v4 : Value} {d0 d1 d2 d3 d4 : DataW H} {p0 p1 p2 p3 p4 : List MemPlace} (h0 : DataW.Trod enc P w base spare held t0 v0 d0 p0) (h1 : DataW.Trod enc P w base spare held t1 v1 d1 p1)
    (h2 : DataW.Trod enc P w base spare held t2 v2 d2 p2) (h3 : DataW.Trod enc P w base spare held t3 v3 d3 p3) (h4 : DataW.Trod enc P w base spare held t4 v4 d4 p4) : DataW.TrodAll enc P w base spare held [t0, t1, t2, t3, t4] [v0, v1, v2, v3, v4] [d0, d1, d2, d3, d4] (p0 ++ (p1 ++ (p2 ++ (p3 ++ p4)))) :=
  ⟨p0, p1 ++ (p2 ++ (p3 ++ p4)), h0, trodAll_mk4 h1 h2 h3 h4, rfl⟩
theorem trodAll_six {H : Type} {enc : TypeId × Value → H} {P : Program} {w : World} {base : Nat} {spare : Nat → Bool} {held : Bool} {t0 t1 t2 t3 t4 t5 : TypeId} {args : Array Value} {ds : List (DataW H)} {ps : List MemPlace} (h : DataW.TrodAll enc P w base spare held [t0, t1, t2, t3, t4, t5] args.toList ds ps) :
    ∃ v0 v1 v2 v3 v4 v5 d0 d1 d2 d3 d4 d5 p0 p1 p2 p3 p4 p5, args = #[v0, v1, v2, v3, v4, v5] ∧ ds = [d0, d1, d2, d3, d4, d5] ∧ ps = p0 ++ (p1 ++ (p2 ++ p3 ++ p4 ++ p5)) ∧ DataW.Trod enc P w base spare held t0 v0 d0 p0 ∧ DataW.Trod enc P w base spare held t1 v1 d1 p1 ∧ DataW.Trod enc P w base spare held t2 v2 d2 p2 ∧ DataW.Trod enc P w base spare held t3 v3 d3 p3 ∧ DataW.Trod enc P w base spare held t4 v4 d4 p4 ∧ DataW.Trod enc P w base spare held t5 v5 d5 p5 := by
  obtain ⟨v0, vs, d0, es, p0, q, ha, rfl, rfl, h0, hr⟩ := trodAll_cons h
  have hr' : DataW.TrodAll enc P w base spare held [t1, t2, t3, t4, t5] vs.toArray.toList es q := by simpa using hr
  obtain ⟨v1, v2, v3, v4, v5, d1, d2, d3, d4, d5, p1, p2, p3, p4, p5, hv, rfl, rfl, h1, h2, h3, h4, h5⟩ := trodAll_five hr'
  refine ⟨v0, v1, v2, v3, v4, v5, d0, d1, d2, d3, d4, d5, p0, p1, p2, p3, p4, p5, ?_, rfl, rfl, h0, h1, h2, h3, h4, h5⟩
  have e : vs = [v1, v2, v3, v4, v5] := by simpa using congrArg Array.toList hv
  rw [e] at ha
  exact Array.toList_inj.1 ha
theorem trodAll_mk6 {H : Type} {enc : TypeId × Value → H} {P : Program} {w : World} {base : Nat} {spare : Nat → Bool} {held : Bool} {t0 t1 t2 t3 t4 t5 : TypeId} {v0 v1 v2 v3 v4 v5 : Value} {d0 d1 d2 d3 d4 d5 : DataW H} {p0 p1 p2 p3 p4 p5 : List MemPlace} (h0 : DataW.Trod enc P w base spare held t0 v0 d0 p0) (h1 : DataW.Trod enc P w base spare held t1 v1 d1 p1)
    (h2 : DataW.Trod enc P w base spare held t2 v2 d2 p2) (h3 : DataW.Trod enc P w base spare held t3 v3 d3 p3) (h4 : DataW.Trod enc P w base spare held t4 v4 d4 p4) (h5 : DataW.Trod enc P w base spare held t5 v5 d5 p5) : DataW.TrodAll enc P w base spare held [t0, t1, t2, t3, t4, t5] [v0, v1, v2, v3, v4, v5] [d0, d1, d2, d3, d4, d5] (p0 ++ (p1 ++ (p2 ++ (p3 ++ (p4 ++ p5))))) :=
  ⟨p0, p1 ++ (p2 ++ (p3 ++ (p4 ++ p5))), h0, trodAll_mk5 h1 h2 h3 h4 h5, rfl⟩

theorem fs_open {H : Type} {enc : TypeId × Value → H} {W : World} {a : Option Addr} {len cap fuel : Nat} {cs : List Value} {x : DataW H × List MemPlace}
    (hf : DataW.trod enc Try.prog W 0 (fun _ => true) true fuel 33 cs = some x) (hcs : cs = [.slice a len cap]) : ∃ zs : List Int, Fs W a len zs := by
  subst hcs
  rcases open_ints Try.underlying33 Try.underlying3 (by kernel_rfl) hf with ⟨hcs, _⟩ | ⟨y, l, c, zs, hcs, _, hl, hm, hz, hx, hcell, hwz⟩
  · simp at hcs
    obtain ⟨rfl, rfl, rfl⟩ := hcs
    exact ⟨[], rfl, fun h => by omega⟩
  · simp at hcs
    obtain ⟨rfl, rfl, rfl⟩ := hcs
    have hzl : zs.length = cap := by simpa using hz
    refine ⟨zs.take len, by simp; omega, fun hp => ?_⟩
    obtain ⟨b, off, spot⟩ := y
    have h0 := hcell 0 (by omega)
    have hspot : spot = none := by simpa [Addr.add] using World.cell?_spot h0
    subst hspot
    refine ⟨b, off, rfl, fun i hi => ?_⟩
    simp only [List.length_take] at hi
    have hci := hcell i (by omega)
    rw [Addr.add_lit] at hci
    rw [hci, List.getElem_take]
    simp [List.getD, show i < zs.length by omega]
theorem cells5 {W : World} {a : Addr} {l : List Value} (hl : l.length = 5) (h : W.cells? 0 a 5 = some l) : ∀ j v, l[j]? = some v → W.cell? (a.add j) = some v := by
  unfold World.cells? at h
  rw [if_pos (Nat.zero_le _)] at h
  have e : List.range 5 = [0, 1, 2, 3, 4] := rfl
  rw [e] at h
  simp only [List.mapM_cons, List.mapM_nil] at h
  cases h0 : W.cell? (a.add 0) with
  | none => simp [h0] at h
  | some v0 =>
    cases h1 : W.cell? (a.add 1) with
    | none => simp [h0, h1] at h
    | some v1 =>
      cases h2 : W.cell? (a.add 2) with
      | none => simp [h0, h1, h2] at h
      | some v2 =>
        cases h3 : W.cell? (a.add 3) with
        | none => simp [h0, h1, h2, h3] at h
        | some v3 =>
          cases h4 : W.cell? (a.add 4) with
          | none => simp [h0, h1, h2, h3, h4] at h
          | some v4 =>
            simp [h0, h1, h2, h3, h4] at h
            subst h
            intro j v hv
            match j, hv with
            | 0, hv => simp at hv; rw [h0, hv]
            | 1, hv => simp at hv; rw [h1, hv]
            | 2, hv => simp at hv; rw [h2, hv]
            | 3, hv => simp at hv; rw [h3, hv]
            | 4, hv => simp at hv; rw [h4, hv]
            | (j + 5), hv => simp at hv
def OdOk (W : World) (s : Od) : Prop := Rd W s.ao s.m s.cap s.B ∧ wf64 s.kd ∧ wf64 s.n

set_option maxRecDepth 100000 in
theorem op_cells {H : Type} {enc : TypeId × Value → H} {W : World} {fuel : Nat} {cs : List Value} {x : DataW H × List MemPlace}
    (hf : DataW.trod enc Try.prog W 0 (fun _ => true) true fuel 35 cs = some x) : ∃ s : Od, cs = s.cells.toList ∧ OdOk W s := by
  obtain ⟨y0, y1, y2, y3, y4, m, _, hl, h0, h1, h2, h3, h4⟩ := trod_struct5 Try.underlying35 hf
  have hc : Try.prog.cellsOf 35 = 5 := by kernel_rfl
  rw [hc] at hl
  match cs, hl with
  | [c0, c1, c2, c3, c4], _ =>
    have d0 : Try.prog.cellsOf 3 = 1 := by kernel_rfl
    have d2 : Try.prog.cellsOf 32 = 1 := by kernel_rfl
    have d3 : Try.prog.cellsOf 4 = 1 := by kernel_rfl
    have d4 : Try.prog.cellsOf 33 = 1 := by kernel_rfl
    obtain ⟨a, ea, rfl, wa⟩ := DataW.trod_int Try.underlying3 h0
    obtain ⟨b, eb, rfl, wb⟩ := DataW.trod_int Try.underlying3 h1
    obtain ⟨ao, an, ac, e2⟩ := Go.Joins.slice_form Try.underlying32 h2
    obtain ⟨t, et, -⟩ := DataW.trod_bool Try.underlying4 h3
    obtain ⟨fo, fn, fc, e4⟩ := Go.Joins.slice_form Try.underlying33 h4
    rw [d0] at ea eb
    rw [d2] at e2 h2
    rw [d3] at et
    rw [d4] at e4
    simp at ea eb e2 et e4
    subst ea; subst eb; subst e2; subst et; subst e4
    obtain ⟨bs, hr, -⟩ := rd_open (a := ao) (len := an) (cap := ac) h2 (by simp)
    exact ⟨⟨a, b, ao, an, ac, t, fo, fn, fc, bs⟩, rfl, hr, bounds_i64 wa, bounds_i64 wb⟩

set_option maxRecDepth 100000 in
theorem ops_open {H : Type} {enc : TypeId × Value → H} {W : World} {a : Option Addr} {len cap fuel : Nat} {cs : List Value} {x : DataW H × List MemPlace}
    (hf : DataW.trod enc Try.prog W 0 (fun _ => true) true fuel 22 cs = some x) (hcs : cs = [.slice a len cap]) :
    ∃ ss : List Od, ss.length = len ∧ OpsW W a ss ∧ len ≤ 9223372036854775807 := by
  subst hcs
  have hc5 : Try.prog.cellsOf 35 = 5 := by kernel_rfl
  rcases Go.Deep.open_slice Try.underlying22 hf with ⟨hcs, _⟩ | ⟨y, l, c, m, n, D, Pl, hcs, _, hl, hm, hmm, hx, hel⟩
  · simp at hcs
    obtain ⟨rfl, rfl, rfl⟩ := hcs
    exact ⟨[], rfl, ⟨fun h => by simp at h, fun i h => by simp at h⟩, by omega⟩
  · simp at hcs
    obtain ⟨rfl, rfl, rfl⟩ := hcs
    have hmc : m = cap := by simpa using hmm
    rw [hc5] at hel
    have ex : ∀ i, i < len → ∃ v : Od, W.cells? 0 (y.add (i * 5)) 5 = some v.cells.toList ∧ OdOk W v := by
      intro i hi
      obtain ⟨cs', h1, h2⟩ := hel i (by omega)
      obtain ⟨v, rfl, hv⟩ := op_cells h2
      exact ⟨v, h1, hv⟩
    let f : Nat → Od := fun i => if h : i < len then (ex i h).choose else ⟨0, 0, none, 0, 0, false, none, 0, 0, []⟩
    have hf : ∀ i (h : i < len), W.cells? 0 (y.add (i * 5)) 5 = some (f i).cells.toList ∧ OdOk W (f i) := by
      intro i h
      have : f i = (ex i h).choose := dif_pos h
      rw [this]
      exact (ex i h).choose_spec
    have hlen : len ≤ 9223372036854775807 := by unfold maxLen at hm; omega
    refine ⟨(List.range len).map f, by simp, ⟨?_, ?_⟩, hlen⟩
    · intro hp
      simp only [List.length_map, List.length_range] at hp
      obtain ⟨b, off, spot⟩ := y
      have h0 := cells5 rfl (hf 0 hp).1 0 _ rfl
      have hspot : spot = none := by simpa [Addr.add] using World.cell?_spot h0
      subst hspot
      refine ⟨b, off, World.block_lt_of_cell? W _ h0, rfl, fun i hi j v hv => ?_⟩
      simp only [List.length_map, List.length_range] at hi
      simp only [List.getElem_map, List.getElem_range] at hv
      have g := cells5 rfl (hf i hi).1 j v (by simpa using hv)
      simp only [Addr.add_lit] at g
      exact g
    · intro i hi
      simp only [List.length_map, List.length_range] at hi
      simp only [List.getElem_map, List.getElem_range]
      exact (hf i hi).2
end Go.Proofs.Ytecgjfghofpjcaa
