/-
  Lists of values that come in.
-/
import Derived.Test.YtkfnmblfaaabkaaGreatDoorVFrm2
import Derived.Test.YtkfnmblfaaabkaaGreatDoorVRows
namespace Go.Proofs.YtkfnmblfaaabkaaGreatDoor
open Go.ChangeShapes Go.WideShapes Go.ChangeAt Go.WideMaps Go.WideElems Go.RowKit Go.Shelf Go.Lib

theorem bytes40 : Tryz.prog.bytesOf 25 = 40 := by kernel_rfl

theorem cells4 {W : World} {a : Addr} {c0 c1 c2 c3 : Value} (h : W.cells? 0 a 4 = some [c0, c1, c2, c3]) : W.cell? (a.add 0) = some c0 ∧ W.cell? (a.add 1) = some c1 ∧ W.cell? (a.add 2) = some c2 ∧ W.cell? (a.add 3) = some c3 := by
  unfold World.cells? at h
  rw [if_pos (Nat.zero_le _)] at h
  have e : List.range 4 = [0, 1, 2, 3] := rfl
  rw [e] at h
  simp only [List.mapM_cons, List.mapM_nil] at h
  cases h0 : W.cell? (a.add 0) with
  | none => simp [h0] at h
  | some v0 =>
    cases h1 : W.cell? (a.add 1) with
    | none => simp [h0, h1] at h
    | some v1 =>
      cases h2 : W.cell? (a.add 2) with
      | none => simp [h0, h1, h2] at h
      | some v2 =>
        cases h3 : W.cell? (a.add 3) with
        | none => simp [h0, h1, h2, h3] at h
        | some v3 =>
          simp [h0, h1, h2, h3] at h
          obtain ⟨rfl, rfl, rfl, rfl⟩ := h
          exact ⟨rfl, rfl, rfl, rfl⟩

set_option maxRecDepth 100000 in
theorem vals_open {H : Type} {enc : TypeId × Value → H} {W : World} {a : Option Addr} {len cap fuel : Nat} {cs : List Value} {x : DataW H × List MemPlace}
    (hf : DataW.trod enc Tryz.prog W 0 (fun _ => true) true fuel 22 cs = some x) (hcs : cs = [.slice a len cap]) :
    ∃ l : List Va, (Vs W a l ∧ (a = none → l = []) ∧ l.length = len ∧ len ≤ cap ∧ ∀ v ∈ l, vin v) ∧ (cap = 0 ∨ ∃ es sp, x.1 = .slice es sp ∧ es.length + sp.length = cap) := by
  subst hcs
  have hc4 : Tryz.prog.cellsOf 25 = 4 := by kernel_rfl
  rcases Go.Deep.open_slice Tryz.underlying22 hf with ⟨hcs, _⟩ | ⟨y, l, c, m, n, D, Pl, hcs, _, hl, hm, hmm, hx, hel⟩
  · simp at hcs
    obtain ⟨rfl, rfl, rfl⟩ := hcs
    exact ⟨[], ⟨fun h => by simp at h, fun _ => rfl, rfl, Nat.le_refl _, fun v h => by simp at h⟩, .inl rfl⟩
  · simp at hcs
    obtain ⟨rfl, rfl, rfl⟩ := hcs
    have hmc : m = cap := by simpa using hmm
    rw [hc4] at hel
    have ex : ∀ i, i < len → ∃ v : Va, W.cells? 0 (y.add (i * 4)) 4 = some [.int .i64 v.k, .int .i64 v.n, .int .i64 v.m, .string ⟨v.b.toArray⟩] ∧ vin v := by
      intro i hi
      obtain ⟨cs', h1, h2⟩ := hel i (by omega)
      obtain ⟨v, rfl, hv, _, _⟩ := val_cells h2
      exact ⟨v, h1, hv⟩
    let f : Nat → Va := fun i => if h : i < len then (ex i h).choose else ⟨0, 0, 0, []⟩
    have hf : ∀ i (h : i < len), W.cells? 0 (y.add (i * 4)) 4 = some [.int .i64 (f i).k, .int .i64 (f i).n, .int .i64 (f i).m, .string ⟨(f i).b.toArray⟩] ∧ vin (f i) := by
      intro i h
      have : f i = (ex i h).choose := dif_pos h
      rw [this]
      exact (ex i h).choose_spec
    refine ⟨(List.range len).map f, ⟨?_, (fun h => by cases h), by simp, by omega, ?_⟩, .inr ⟨_, _, by rw [hx], by simp; omega⟩⟩
    · intro hp
      simp only [List.length_map, List.length_range] at hp
      obtain ⟨b, off, spot⟩ := y
      have h0 := cells4 (hf 0 hp).1
      have hspot : spot = none := by simpa [Addr.add] using World.cell?_spot h0.1
      subst hspot
      refine ⟨b, off, rfl, fun i hi => ?_⟩
      simp only [List.length_map, List.length_range] at hi
      obtain ⟨g0, g1, g2, g3⟩ := cells4 (hf i hi).1
      simp only [Addr.add_lit] at g0 g1 g2 g3
      simp only [List.getElem_map, List.getElem_range]
      exact ⟨g0, g1, g2, g3⟩
    · intro v hv
      simp only [List.mem_map, List.mem_range] at hv
      obtain ⟨i, hi, rfl⟩ := hv
      exact (hf i hi).2
end Go.Proofs.YtkfnmblfaaabkaaGreatDoor
