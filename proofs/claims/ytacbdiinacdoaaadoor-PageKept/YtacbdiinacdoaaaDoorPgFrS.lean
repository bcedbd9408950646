/-
  Steps that come in.
-/
import Derived.Test.YtacbdiinacdoaaaDoorPgFrm
import Derived.SizedLaws
import Derived.Lib.SmallJoins
import Derived.Deep.Slices
namespace Go.Proofs.YtacbdiinacdoaaaDoor
open Go.ChangeShapes Go.WideShapes Go.ChangeAt Go.WideMaps Go.WideElems Go.RowKit Go.Shelf Go.Lib

theorem weights_all {H : Type} {P : Program} {e : TypeId} {n : Nat} : ∀ {l : List (DataW H)} {d : DataW H}, d ∈ l → n ∈ d.weights P e → n ∈ DataW.weightsAll P e l
  | a :: l, d, hd, hn => by
    simp only [DataW.weightsAll, List.mem_append]
    rcases List.mem_cons.1 hd with rfl | hd
    · exact .inl hn
    · exact .inr (weights_all hd hn)
/-- As long as a weight at most. -/
def LeW {H : Type} (d : DataW H) (T : TypeId) (n : Nat) : Prop := ∃ k, n ≤ k ∧ (k = 0 ∨ k ∈ d.weights Tryd.prog T)
theorem trod_struct3 {H : Type} {enc : TypeId × Value → H} {P : Program} {w : World} {base : Nat} {spare : Nat → Bool} {held : Bool} {t : TypeId} {f0 f1 f2 : Field} {fuel : Nat} {cs : List Value} {x : DataW H × List MemPlace} (ht : P.underlying t = some (.struct #[f0, f1, f2])) (h : DataW.trod enc P w base spare held fuel t cs = some x) :
    ∃ y0 y1 y2 n, x.1 = .agg [y0.1, y1.1, y2.1] ∧ cs.length = P.cellsOf t ∧ DataW.trod enc P w base spare held n f0.type ((cs.drop f0.offset).take (P.cellsOf f0.type)) = some y0 ∧
      DataW.trod enc P w base spare held n f1.type ((cs.drop f1.offset).take (P.cellsOf f1.type)) = some y1 ∧ DataW.trod enc P w base spare held n f2.type ((cs.drop f2.offset).take (P.cellsOf f2.type)) = some y2 := by
  obtain ⟨xs, n, _, rfl, hl, hlen, hf⟩ := DataW.trod_struct ht h
  match xs, hlen with
  | [y0, y1, y2], _ => exact ⟨y0, y1, y2, n, by simp, hl, by simpa using hf 0 f0 rfl, by simpa using hf 1 f1 rfl, by simpa using hf 2 f2 rfl⟩
theorem list3 {cs : List Value} (h : cs.length = 3) : ∃ c0 c1 c2, cs = [c0, c1, c2] := by
  match cs, h with
  | [c0, c1, c2], _ => exact ⟨c0, c1, c2, rfl⟩
theorem cells3 {W : World} {a : Addr} {c0 c1 c2 : Value} (h : W.cells? 0 a 3 = some [c0, c1, c2]) : W.cell? (a.add 0) = some c0 ∧ W.cell? (a.add 1) = some c1 ∧ W.cell? (a.add 2) = some c2 := by
  unfold World.cells? at h
  rw [if_pos (Nat.zero_le _)] at h
  have e : List.range 3 = [0, 1, 2] := rfl
  rw [e] at h
  simp only [List.mapM_cons, List.mapM_nil] at h
  cases h0 : W.cell? (a.add 0) with
  | none => simp [h0] at h
  | some v0 =>
    cases h1 : W.cell? (a.add 1) with
    | none => simp [h0, h1] at h
    | some v1 =>
      cases h2 : W.cell? (a.add 2) with
      | none => simp [h0, h1, h2] at h
      | some v2 =>
        simp [h0, h1, h2] at h
        obtain ⟨rfl, rfl, rfl⟩ := h
        exact ⟨rfl, rfl, rfl⟩
def s3s (s : Sp) : List Value := [.int .i64 s.kd, .int .i64 s.sl, .slice s.ao s.n s.cap]
def SpOk (W : World) (s : Sp) : Prop := Rd W s.ao s.n s.cap s.b ∧ wf64 s.sl

set_option maxRecDepth 100000 in
theorem step_cells {H : Type} {enc : TypeId × Value → H} {W : World} {fuel : Nat} {cs : List Value} {x : DataW H × List MemPlace}
    (hf : DataW.trod enc Tryd.prog W 0 (fun _ => true) true fuel 48 cs = some x) :
    ∃ s : Sp, cs = s3s s ∧ SpOk W s ∧ LeW x.1 48 s.n := by
  obtain ⟨y0, y1, y2, m, hx, hl, h0, h1, h2⟩ := trod_struct3 Tryd.underlying48 hf
  have hc : Tryd.prog.cellsOf 48 = 3 := by kernel_rfl
  rw [hc] at hl
  obtain ⟨c0, c1, c2, rfl⟩ := list3 hl
  obtain ⟨a, ea, ey0, wa⟩ := DataW.trod_int Tryd.underlying3 h0
  obtain ⟨b, eb, ey1, wb⟩ := DataW.trod_int Tryd.underlying3 h1
  obtain ⟨so, sl, sc, es⟩ := Go.Joins.slice_form Tryd.underlying22 h2
  have c1' : Tryd.prog.cellsOf 3 = 1 := by kernel_rfl
  have c2' : Tryd.prog.cellsOf 22 = 1 := by kernel_rfl
  rw [c1'] at ea eb
  rw [c2'] at es h2
  simp at ea eb es
  subst ea; subst eb; subst es
  obtain ⟨bs, hr, hz⟩ := rd_open (a := so) (len := sl) (cap := sc) h2 (by simp)
  have bb := bounds_i64 wb
  have h2' : sl ≤ sc := hr.2.1
  refine ⟨⟨a, b, so, sl, sc, bs⟩, rfl, ⟨hr, bb⟩, ⟨sc, h2', ?_⟩⟩
  rcases hz with h | ⟨es, sp, hd, hl⟩
  · exact .inl h
  · right
    have e1 : sc ∈ y2.1.weights Tryd.prog 22 := by
      rw [hd]
      simp only [DataW.weights, Tryd.underlying22, List.mem_cons]
      left
      rw [bytes1]
      omega
    rw [hx]
    simp [DataW.weights, Tryd.underlying48, DataW.weightsEach, e1]
theorem bytesSt : Tryd.prog.bytesOf 48 = 40 := by kernel_rfl

set_option maxRecDepth 100000 in
theorem steps_open {H : Type} {enc : TypeId × Value → H} {W : World} {a : Option Addr} {len cap fuel : Nat} {cs : List Value} {x : DataW H × List MemPlace}
    (hf : DataW.trod enc Tryd.prog W 0 (fun _ => true) true fuel 45 cs = some x) (hcs : cs = [.slice a len cap]) :
    ∃ ss : List Sp, (0 < ss.length → ∃ b off, b < W.heap.size ∧ a = some ⟨b, off, none⟩ ∧ ∀ i (h : i < ss.length), At3 W b (off + i * 3) ss[i]) ∧ ss.length = len ∧ (∀ i (h : i < ss.length), SpOk W ss[i] ∧ LeW x.1 45 ss[i].n) ∧ LeW x.1 45 (len * 40) := by
  subst hcs
  have hc3 : Tryd.prog.cellsOf 48 = 3 := by kernel_rfl
  rcases Go.Deep.open_slice Tryd.underlying45 hf with ⟨hcs, _⟩ | ⟨y, l, c, m, n, D, Pl, hcs, _, hl, hm, hmm, hx, hel⟩
  · simp at hcs
    obtain ⟨rfl, rfl, rfl⟩ := hcs
    exact ⟨[], fun h => by simp at h, rfl, (fun i h => by simp at h), ⟨0, by simp, .inl rfl⟩⟩
  · simp at hcs
    obtain ⟨rfl, rfl, rfl⟩ := hcs
    have hmc : m = cap := by simpa using hmm
    rw [hc3] at hel
    have ex : ∀ i, i < len → ∃ v : Sp, W.cells? 0 (y.add (i * 3)) 3 = some (s3s v) ∧ SpOk W v ∧ LeW (D i) 48 v.n := by
      intro i hi
      obtain ⟨cs', h1, h2⟩ := hel i (by omega)
      obtain ⟨v, rfl, hv⟩ := step_cells h2
      exact ⟨v, h1, hv⟩
    let f : Nat → Sp := fun i => if h : i < len then (ex i h).choose else ⟨0, 0, none, 0, 0, []⟩
    have hf : ∀ i (h : i < len), W.cells? 0 (y.add (i * 3)) 3 = some (s3s (f i)) ∧ SpOk W (f i) ∧ LeW (D i) 48 (f i).n := by
      intro i h
      have : f i = (ex i h).choose := dif_pos h
      rw [this]
      exact (ex i h).choose_spec
    refine ⟨(List.range len).map f, ?_, by simp, ?_, ?_⟩
    · intro hp
      simp only [List.length_map, List.length_range] at hp
      obtain ⟨b, off, spot⟩ := y
      have h0 := cells3 (hf 0 hp).1
      have hspot : spot = none := by simpa [Addr.add] using World.cell?_spot h0.1
      subst hspot
      refine ⟨b, off, World.block_lt_of_cell? W _ h0.1, rfl, fun i hi => ?_⟩
      simp only [List.length_map, List.length_range] at hi
      obtain ⟨g0, g1, g2⟩ := cells3 (hf i hi).1
      simp only [Addr.add_lit] at g0 g1 g2
      simp only [List.getElem_map, List.getElem_range]
      exact ⟨g0, g1, g2⟩
    · intro i hi
      simp only [List.length_map, List.length_range] at hi
      simp only [List.getElem_map, List.getElem_range]
      refine ⟨(hf i hi).2.1, ?_⟩
      obtain ⟨k, h1, h2⟩ := (hf i hi).2.2
      refine ⟨k, h1, ?_⟩
      rcases h2 with h2 | h2
      · exact .inl h2
      · right
        rw [hx]
        simp only [DataW.weights, Tryd.underlying45, List.mem_cons, List.mem_append]
        exact .inr (.inl (weights_all (d := D i) (List.mem_map.2 ⟨i, by simp; omega, rfl⟩) h2))
    · refine ⟨cap * 40, by omega, .inr ?_⟩
      rw [hx]
      simp only [DataW.weights, Tryd.underlying45, List.mem_cons]
      left
      rw [bytesSt]
      congr 1
      simp
      omega
end Go.Proofs.YtacbdiinacdoaaaDoor
