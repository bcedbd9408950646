/-
  Lists of the document's tokens that come in, and what the bound on the input's bulk gives.
-/
import Derived.Test.YtoadhfcjegfanaaGreatDoorMCLFrm
import Derived.Test.YtoadhfcjegfanaaGreatDoorLJoin
namespace Go.Proofs.YtoadhfcjegfanaaGreatDoor
open Go.ChangeShapes Go.WideShapes Go.ChangeAt Go.WideMaps Go.WideElems Go.RowKit Go.Shelf Go.Lib

theorem bulk_one {H : Type} (d : DataW H) : 1 ≤ Rows.uptoBulk d := by
  cases d with
  | lit l => cases l <;> simp [Rows.uptoBulk]
  | nil => simp [Rows.uptoBulk]
  | ptr d => simp [Rows.uptoBulk]
  | slice elems spare => simp [Rows.uptoBulk]
  | agg parts => simp [Rows.uptoBulk]
  | iface t d => simp [Rows.uptoBulk]
  | map entries => simp [Rows.uptoBulk]
  | held h => simp [Rows.uptoBulk]
theorem bulk_all {H : Type} {l : List (DataW H)} (hk : Rows.uptoSmall H l = true) : Rows.uptoBulkAll l ≤ 1048576 := of_decide_eq_true hk
def vin (v : Va) : Prop := (-9223372036854775808 ≤ v.n ∧ v.n ≤ 9223372036854775807) ∧ (-9223372036854775808 ≤ v.m ∧ v.m ≤ 9223372036854775807)
/-- A sum over a list's elements is at most the bulk of the readings, if each is. -/
theorem bulk_sum {H : Type} (D : Nat → DataW H) (f : Nat → Nat) (n : Nat) (h : ∀ i, i < n → f i ≤ Rows.uptoBulk (D i)) : ((List.range n).map f).sum ≤ Rows.uptoBulkAll ((List.range n).map D) := by
  have key : ∀ l : List Nat, (∀ i ∈ l, i < n) → (l.map f).sum ≤ Rows.uptoBulkAll (l.map D) := by
    intro l
    induction l with
    | nil => intro _; simp [Rows.uptoBulkAll]
    | cons a l ih =>
      intro hl
      have h1 := h a (hl a (by simp))
      have h2 := ih fun i hi => hl i (by simp [hi])
      simp only [List.map_cons, List.sum_cons, Rows.uptoBulkAll]
      omega
  exact key _ fun i hi => List.mem_range.1 hi

set_option maxRecDepth 100000 in
theorem val_cells5 {H : Type} {enc : TypeId × Value → H} {W : World} {fuel : Nat} {cs : List Value} {x : DataW H × List MemPlace}
    (hf : DataW.trod enc Tryz.prog W 0 (fun _ => true) true fuel 27 cs = some x) :
    ∃ v : Va, cs = [.int .i64 v.k, .int .i64 v.n, .int .i64 v.m, .string ⟨v.b.toArray⟩] ∧ vin v ∧ (-9223372036854775808 ≤ v.k ∧ v.k ≤ 9223372036854775807) ∧ v.b.length + 1 ≤ Rows.uptoBulk x.1 := by
  obtain ⟨y0, y1, y2, y3, m, hx, hl, h0, h1, h2, h3⟩ := Go.Joins.trod_struct4 Tryz.underlying27 hf
  have hc : Tryz.prog.cellsOf 27 = 4 := by kernel_rfl
  rw [hc] at hl
  match cs, hl with
  | [c0, c1, c2, c3], _ =>
    obtain ⟨a, ea, rfl, wa⟩ := DataW.trod_int Tryz.underlying3 h0
    obtain ⟨b, eb, rfl, wb⟩ := DataW.trod_int Tryz.underlying3 h1
    obtain ⟨c, ec, rfl, wc⟩ := DataW.trod_int Tryz.underlying3 h2
    obtain ⟨s, es, rfl, ws⟩ := DataW.trod_string Tryz.underlying9 h3
    have c1' : Tryz.prog.cellsOf 3 = 1 := by kernel_rfl
    have c2' : Tryz.prog.cellsOf 9 = 1 := by kernel_rfl
    rw [c1'] at ea eb ec
    rw [c2'] at es
    simp at ea eb ec es
    subst ea; subst eb; subst ec; subst es
    refine ⟨⟨a, b, c, s.data.toList⟩, rfl, ⟨in_i64 wb, in_i64 wc⟩, in_i64 wa, ?_⟩
    rw [hx]
    simp [Rows.uptoBulk, Rows.uptoBulkAll]
    omega
theorem cells7 {W : World} {a : Addr} {c0 c1 c2 c3 c4 c5 c6 : Value} (h : W.cells? 0 a 7 = some [c0, c1, c2, c3, c4, c5, c6]) : W.cell? (a.add 0) = some c0 ∧ W.cell? (a.add 1) = some c1 ∧ W.cell? (a.add 2) = some c2 ∧ W.cell? (a.add 3) = some c3 ∧ W.cell? (a.add 4) = some c4 ∧ W.cell? (a.add 5) = some c5 ∧ W.cell? (a.add 6) = some c6 := by
  unfold World.cells? at h
  rw [if_pos (Nat.zero_le _)] at h
  have e : List.range 7 = [0, 1, 2, 3, 4, 5, 6] := rfl
  rw [e] at h
  simp only [List.mapM_cons, List.mapM_nil] at h
  cases h0 : W.cell? (a.add 0) with
  | none => simp [h0] at h
  | some v0 =>
    cases h1 : W.cell? (a.add 1) with
    | none => simp [h0, h1] at h
    | some v1 =>
      cases h2 : W.cell? (a.add 2) with
      | none => simp [h0, h1, h2] at h
      | some v2 =>
        cases h3 : W.cell? (a.add 3) with
        | none => simp [h0, h1, h2, h3] at h
        | some v3 =>
          cases h4 : W.cell? (a.add 4) with
          | none => simp [h0, h1, h2, h3, h4] at h
          | some v4 =>
            cases h5 : W.cell? (a.add 5) with
            | none => simp [h0, h1, h2, h3, h4, h5] at h
            | some v5 =>
              cases h6 : W.cell? (a.add 6) with
              | none => simp [h0, h1, h2, h3, h4, h5, h6] at h
              | some v6 =>
                simp [h0, h1, h2, h3, h4, h5, h6] at h
                obtain ⟨rfl, rfl, rfl, rfl, rfl, rfl, rfl⟩ := h
                exact ⟨rfl, rfl, rfl, rfl, rfl, rfl, rfl⟩

set_option maxRecDepth 100000 in
theorem tok_cells {H : Type} {enc : TypeId × Value → H} {W : World} {fuel : Nat} {cs : List Value} {x : DataW H × List MemPlace}
    (hf : DataW.trod enc Tryz.prog W 0 (fun _ => true) true fuel 31 cs = some x) :
    ∃ t : Ti, cs = (ics t).toList ∧ vin t.v ∧ t.t.length + 1 ≤ Rows.uptoBulk x.1 := by
  obtain ⟨y0, y1, y2, y3, m, hx, hl, h0, h1, h2, h3⟩ := Go.Joins.trod_struct4 Tryz.underlying31 hf
  have hc : Tryz.prog.cellsOf 31 = 7 := by kernel_rfl
  rw [hc] at hl
  match cs, hl with
  | [c0, c1, c2, c3, c4, c5, c6], _ =>
    obtain ⟨a, ea, rfl, wa⟩ := DataW.trod_int Tryz.underlying3 h0
    obtain ⟨s, es, rfl, ws⟩ := DataW.trod_string Tryz.underlying9 h1
    obtain ⟨v, ev, vi, _, _⟩ := val_cells5 h2
    obtain ⟨b, eb, rfl, wb⟩ := DataW.trod_int Tryz.underlying3 h3
    have c1' : Tryz.prog.cellsOf 3 = 1 := by kernel_rfl
    have c2' : Tryz.prog.cellsOf 9 = 1 := by kernel_rfl
    have c4' : Tryz.prog.cellsOf 27 = 4 := by kernel_rfl
    rw [c1'] at ea eb
    rw [c2'] at es
    rw [c4'] at ev
    simp at ea eb es ev
    obtain ⟨e1, e2, e3, e4⟩ := ev
    subst ea; subst eb; subst es; subst e1; subst e2; subst e3; subst e4
    refine ⟨⟨a, s.data.toList, v, b⟩, rfl, vi, ?_⟩
    rw [hx]
    simp [Rows.uptoBulk, Rows.uptoBulkAll]
    omega

theorem bulk_len (l : List Ti) : l.length ≤ (l.map (fun t => t.t.length + 1)).sum := by
  induction l with
  | nil => simp
  | cons a l ih => simp only [List.length_cons, List.map_cons, List.sum_cons]; omega

set_option maxRecDepth 100000 in
theorem toks_open {H : Type} {enc : TypeId × Value → H} {W : World} {a : Option Addr} {len cap fuel : Nat} {cs : List Value} {x : DataW H × List MemPlace}
    (hf : DataW.trod enc Tryz.prog W 0 (fun _ => true) true fuel 22 cs = some x) (hcs : cs = [.slice a len cap]) :
    ∃ l : List Ti, (Tw W a l ∧ l.length = len ∧ len ≤ cap ∧ (∀ v ∈ l, vin v.v) ∧ (l.map (fun t => t.t.length + 1)).sum ≤ Rows.uptoBulk x.1) ∧ (cap = 0 ∨ ∃ es sp, x.1 = .slice es sp ∧ es.length + sp.length = cap) := by
  subst hcs
  have hc7 : Tryz.prog.cellsOf 31 = 7 := by kernel_rfl
  rcases Go.Deep.open_slice Tryz.underlying22 hf with ⟨hcs, _⟩ | ⟨y, l, c, m, n, D, Pl, hcs, _, hl, hm, hmm, hx, hel⟩
  · simp at hcs
    obtain ⟨rfl, rfl, rfl⟩ := hcs
    exact ⟨[], ⟨fun h => by simp at h, rfl, Nat.le_refl _, (fun v h => by simp at h), by simp⟩, .inl rfl⟩
  · simp at hcs
    obtain ⟨rfl, rfl, rfl⟩ := hcs
    have hmc : m = cap := by simpa using hmm
    rw [hc7] at hel
    have ex : ∀ i, i < len → ∃ v : Ti, W.cells? 0 (y.add (i * 7)) 7 = some (ics v).toList ∧ vin v.v ∧ v.t.length + 1 ≤ Rows.uptoBulk (D i) := by
      intro i hi
      obtain ⟨cs', h1, h2⟩ := hel i (by omega)
      obtain ⟨v, rfl, hv, hb⟩ := tok_cells h2
      exact ⟨v, h1, hv, hb⟩
    let f : Nat → Ti := fun i => if h : i < len then (ex i h).choose else ⟨0, [], ⟨0, 0, 0, []⟩, 0⟩
    have hf : ∀ i (h : i < len), W.cells? 0 (y.add (i * 7)) 7 = some (ics (f i)).toList ∧ vin (f i).v ∧ (f i).t.length + 1 ≤ Rows.uptoBulk (D i) := by
      intro i h
      have : f i = (ex i h).choose := dif_pos h
      rw [this]
      exact (ex i h).choose_spec
    refine ⟨(List.range len).map f, ⟨?_, by simp, by omega, ?_, ?_⟩, .inr ⟨_, _, by rw [hx], by simp; omega⟩⟩
    · intro hp
      simp only [List.length_map, List.length_range] at hp
      obtain ⟨b, off, spot⟩ := y
      have h0 := cells7 (hf 0 hp).1
      have hspot : spot = none := by simpa [Addr.add] using World.cell?_spot h0.1
      subst hspot
      refine ⟨b, off, rfl, fun i hi => ?_⟩
      simp only [List.length_map, List.length_range] at hi
      obtain ⟨g0, g1, g2, g3, g4, g5, g6⟩ := cells7 (hf i hi).1
      simp only [Addr.add_lit] at g0 g1 g2 g3 g4 g5 g6
      simp only [List.getElem_map, List.getElem_range]
      exact ⟨g0, g1, g2, g3, g4, g5, g6⟩
    · intro v hv
      simp only [List.mem_map, List.mem_range] at hv
      obtain ⟨i, hi, rfl⟩ := hv
      exact (hf i hi).2.1
    · rw [hx]
      have := bulk_sum D (fun i => (f i).t.length + 1) len fun i hi => (hf i hi).2.2
      simp only [Rows.uptoBulk, List.map_map]
      have e : ((List.range len).map ((fun t : Ti => t.t.length + 1) ∘ f)) = (List.range len).map (fun i => (f i).t.length + 1) := rfl
      rw [e]
      omega
end Go.Proofs.YtoadhfcjegfanaaGreatDoor
