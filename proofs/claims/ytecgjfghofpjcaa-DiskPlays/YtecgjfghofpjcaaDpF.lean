/-
  Ops that come in, with their fates and their sizes.
-/
import Derived.Test.YtecgjfghofpjcaaDkSF
import Derived.SizedLaws
namespace Go.Proofs.Ytecgjfghofpjcaa
open Go.ChangeShapes Go.WideShapes Go.ChangeAt Go.WideMaps Go.WideElems Go.RowKit Go.Shelf Go.Lib

theorem bytes1 : Try.prog.bytesOf 5 = 1 := by kernel_rfl
theorem bytes8 : Try.prog.bytesOf 3 = 8 := by kernel_rfl
theorem weights_all {H : Type} {P : Program} {e : TypeId} {n : Nat} : ∀ {l : List (DataW H)} {d : DataW H}, d ∈ l → n ∈ d.weights P e → n ∈ DataW.weightsAll P e l
  | a :: l, d, hd, hn => by
    simp only [DataW.weightsAll, List.mem_append]
    rcases List.mem_cons.1 hd with rfl | hd
    · exact .inl hn
    · exact .inr (weights_all hd hn)
/-- As long as a weight at most. -/
def LeW {H : Type} (d : DataW H) (T : TypeId) (n : Nat) : Prop := ∃ k, n ≤ k ∧ (k = 0 ∨ k ∈ d.weights Try.prog T)

theorem fs_openW {H : Type} {enc : TypeId × Value → H} {W : World} {a : Option Addr} {len cap fuel : Nat} {cs : List Value} {x : DataW H × List MemPlace}
    (hf : DataW.trod enc Try.prog W 0 (fun _ => true) true fuel 33 cs = some x) (hcs : cs = [.slice a len cap]) : ∃ zs : List Int, Fs W a len zs ∧ len ≤ cap ∧ (a = none → len = 0) ∧ (cap = 0 ∨ ∃ es sp, x.1 = .slice es sp ∧ es.length + sp.length = cap) := by
  subst hcs
  rcases open_ints Try.underlying33 Try.underlying3 (by kernel_rfl) hf with ⟨hcs, _⟩ | ⟨y, l, c, zs, hcs, _, hl, hm, hz, hx, hcell, hwz⟩
  · simp at hcs
    obtain ⟨rfl, rfl, rfl⟩ := hcs
    exact ⟨[], ⟨rfl, fun h => by omega⟩, Nat.le_refl _, fun _ => rfl, .inl rfl⟩
  · simp at hcs
    obtain ⟨rfl, rfl, rfl⟩ := hcs
    have hzl : zs.length = cap := by simpa using hz
    refine ⟨zs.take len, ⟨by simp; omega, fun hp => ?_⟩, hl, fun e => (by cases e), .inr ⟨_, _, by rw [hx], by simp [lits]; omega⟩⟩
    obtain ⟨b, off, spot⟩ := y
    have h0 := hcell 0 (by omega)
    have hspot : spot = none := by simpa [Addr.add] using World.cell?_spot h0
    subst hspot
    refine ⟨b, off, rfl, fun i hi => ?_⟩
    simp only [List.length_take] at hi
    have hci := hcell i (by omega)
    rw [Addr.add_lit] at hci
    rw [hci, List.getElem_take]
    simp [List.getD, show i < zs.length by omega]

def OdF (W : World) (s : Od) : Prop := Rd W s.ao s.m s.cap s.B ∧ wf64 s.kd ∧ wf64 s.n ∧ ∃ zs, Fs W s.fo s.fn zs ∧ s.fn ≤ s.fc ∧ (s.fo = none → s.fn = 0)

set_option maxRecDepth 100000 in
theorem opF_cells {H : Type} {enc : TypeId × Value → H} {W : World} {fuel : Nat} {cs : List Value} {x : DataW H × List MemPlace}
    (hf : DataW.trod enc Try.prog W 0 (fun _ => true) true fuel 35 cs = some x) : ∃ s : Od, cs = s.cells.toList ∧ OdF W s ∧ LeW x.1 35 s.m ∧ LeW x.1 35 (s.fn * 8) := by
  obtain ⟨y0, y1, y2, y3, y4, m, hx, hl, h0, h1, h2, h3, h4⟩ := trod_struct5 Try.underlying35 hf
  have hc : Try.prog.cellsOf 35 = 5 := by kernel_rfl
  rw [hc] at hl
  match cs, hl with
  | [c0, c1, c2, c3, c4], _ =>
    have d0 : Try.prog.cellsOf 3 = 1 := by kernel_rfl
    have d2 : Try.prog.cellsOf 32 = 1 := by kernel_rfl
    have d3 : Try.prog.cellsOf 4 = 1 := by kernel_rfl
    have d4 : Try.prog.cellsOf 33 = 1 := by kernel_rfl
    obtain ⟨a, ea, ey0, wa⟩ := DataW.trod_int Try.underlying3 h0
    obtain ⟨b, eb, ey1, wb⟩ := DataW.trod_int Try.underlying3 h1
    obtain ⟨ao, an, ac, e2⟩ := Go.Joins.slice_form Try.underlying32 h2
    obtain ⟨t, et, ey3⟩ := DataW.trod_bool Try.underlying4 h3
    obtain ⟨fo, fn, fc, e4⟩ := Go.Joins.slice_form Try.underlying33 h4
    rw [d0] at ea eb
    rw [d2] at e2 h2
    rw [d3] at et
    rw [d4] at e4 h4
    simp at ea eb e2 et e4
    subst ea; subst eb; subst e2; subst et; subst e4
    obtain ⟨bs, hr, hz2⟩ := rd_open (a := ao) (len := an) (cap := ac) h2 (by simp)
    obtain ⟨zs, hfs, hfc, hfn, hz4⟩ := fs_openW (a := fo) (len := fn) (cap := fc) h4 (by simp)
    refine ⟨⟨a, b, ao, an, ac, t, fo, fn, fc, bs⟩, rfl, ⟨hr, bounds_i64 wa, bounds_i64 wb, zs, hfs, hfc, hfn⟩, ⟨ac, hr.2.1, ?_⟩, ⟨fc * 8, Nat.mul_le_mul_right _ hfc, ?_⟩⟩
    · rcases hz2 with h | ⟨es, sp, hd, hl⟩
      · exact .inl h
      · right
        have e1 : ac ∈ y2.1.weights Try.prog 32 := by
          rw [hd]
          simp only [DataW.weights, Try.underlying32, List.mem_cons]
          left
          rw [bytes1]
          omega
        rw [hx]
        simp [DataW.weights, Try.underlying35, DataW.weightsEach, e1]
    · rcases hz4 with h | ⟨es, sp, hd, hl⟩
      · exact .inl (by rw [h])
      · right
        have e1 : fc * 8 ∈ y4.1.weights Try.prog 33 := by
          rw [hd]
          simp only [DataW.weights, Try.underlying33, List.mem_cons]
          left
          rw [bytes8]
          rw [hl]
        rw [hx]
        simp [DataW.weights, Try.underlying35, DataW.weightsEach, e1]

theorem bytesOp : Try.prog.bytesOf 35 = 72 := by kernel_rfl

/-- Ops that can be read, each of a size that may be. -/
def OpsF (w : World) (ao : Option Addr) (ss : List Od) : Prop :=
  (0 < ss.length → ∃ b off, b < w.heap.size ∧ ao = some ⟨b, off, none⟩ ∧ ∀ i (h : i < ss.length), At5 w b (off + i * 5) ss[i]) ∧ ∀ i (h : i < ss.length), OdF w ss[i]

set_option maxRecDepth 100000 in
theorem opsF_open {H : Type} {enc : TypeId × Value → H} {W : World} {a : Option Addr} {len cap fuel : Nat} {cs : List Value} {x : DataW H × List MemPlace}
    (hf : DataW.trod enc Try.prog W 0 (fun _ => true) true fuel 22 cs = some x) (hcs : cs = [.slice a len cap]) :
    ∃ ss : List Od, ss.length = len ∧ OpsF W a ss ∧ LeW x.1 22 (len * 72) ∧ ∀ i (h : i < ss.length), LeW x.1 22 ss[i].m ∧ LeW x.1 22 (ss[i].fn * 8) := by
  subst hcs
  have hc5 : Try.prog.cellsOf 35 = 5 := by kernel_rfl
  rcases Go.Deep.open_slice Try.underlying22 hf with ⟨hcs, _⟩ | ⟨y, l, c, m, n, D, Pl, hcs, _, hl, hm, hmm, hx, hel⟩
  · simp at hcs
    obtain ⟨rfl, rfl, rfl⟩ := hcs
    exact ⟨[], rfl, ⟨fun h => by simp at h, fun i h => by simp at h⟩, ⟨0, by simp, .inl rfl⟩, fun i h => by simp at h⟩
  · simp at hcs
    obtain ⟨rfl, rfl, rfl⟩ := hcs
    have hmc : m = cap := by simpa using hmm
    rw [hc5] at hel
    have ex : ∀ i, i < len → ∃ v : Od, W.cells? 0 (y.add (i * 5)) 5 = some v.cells.toList ∧ OdF W v ∧ LeW (D i) 35 v.m ∧ LeW (D i) 35 (v.fn * 8) := by
      intro i hi
      obtain ⟨cs', h1, h2⟩ := hel i (by omega)
      obtain ⟨v, rfl, hv⟩ := opF_cells h2
      exact ⟨v, h1, hv⟩
    let f : Nat → Od := fun i => if h : i < len then (ex i h).choose else ⟨0, 0, none, 0, 0, false, none, 0, 0, []⟩
    have hf : ∀ i (h : i < len), W.cells? 0 (y.add (i * 5)) 5 = some (f i).cells.toList ∧ OdF W (f i) ∧ LeW (D i) 35 (f i).m ∧ LeW (D i) 35 ((f i).fn * 8) := by
      intro i h
      have : f i = (ex i h).choose := dif_pos h
      rw [this]
      exact (ex i h).choose_spec
    have up : ∀ i n, i < len → LeW (D i) 35 n → LeW x.1 22 n := by
      rintro i n hi ⟨k, h1, h2⟩
      refine ⟨k, h1, ?_⟩
      rcases h2 with h2 | h2
      · exact .inl h2
      · right
        rw [hx]
        simp only [DataW.weights, Try.underlying22, List.mem_cons, List.mem_append]
        exact .inr (.inl (weights_all (d := D i) (List.mem_map.2 ⟨i, by simp; omega, rfl⟩) h2))
    refine ⟨(List.range len).map f, by simp, ⟨?_, ?_⟩, ⟨cap * 72, by omega, .inr ?_⟩, ?_⟩
    · intro hp
      simp only [List.length_map, List.length_range] at hp
      obtain ⟨b, off, spot⟩ := y
      have h0 := cells5 rfl (hf 0 hp).1 0 _ rfl
      have hspot : spot = none := by simpa [Addr.add] using World.cell?_spot h0
      subst hspot
      refine ⟨b, off, World.block_lt_of_cell? W _ h0, rfl, fun i hi j v hv => ?_⟩
      simp only [List.length_map, List.length_range] at hi
      simp only [List.getElem_map, List.getElem_range] at hv
      have g := cells5 rfl (hf i hi).1 j v (by simpa using hv)
      simp only [Addr.add_lit] at g
      exact g
    · intro i hi
      simp only [List.length_map, List.length_range] at hi
      simp only [List.getElem_map, List.getElem_range]
      exact (hf i hi).2.1
    · rw [hx]
      simp only [DataW.weights, Try.underlying22, List.mem_cons]
      left
      rw [bytesOp]
      congr 1
      simp
      omega
    · intro i hi
      simp only [List.length_map, List.length_range] at hi
      simp only [List.getElem_map, List.getElem_range]
      exact ⟨up i _ hi (hf i hi).2.2.1, up i _ hi (hf i hi).2.2.2⟩
end Go.Proofs.Ytecgjfghofpjcaa
