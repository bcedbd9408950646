/-
  Maps from pages to texts: what a lookup tells, what a store and a delete leave.
-/
import Derived.Test.YtecgjfghofpjcaaDkJ
namespace Go.Proofs.Ytecgjfghofpjcaa
open Go.RowKit Go.Maps

theorem Try.zeroS (w : World) : (zeroValue 9).run Try.prog w = .ok (.string ⟨#[]⟩) w := by
  obtain ⟨i0, hi, hz0, hz1, hz2⟩ := info_parts (show (Try.prog.info? 9).map (fun i => (i.zero, i.size, i.bytes)) = some (some (.string ⟨#[]⟩), 1, 16) by kernel_rfl)
  simp [zeroValue, typeInfo, hi, hz0]

/-- The map in block b tells f; it has n entries at most. -/
def MS (W : World) (b n : Nat) (f : Pf) : Prop :=
  PfOk f ∧ ∃ D : DataW Unit, W.ownsMap Try.prog 3 (plainElem Try.prog 9) b n D ∧ Maps.IsMap D ∧ ∀ x, wf64 x → Maps.has D (.int .i64 x) = (f x).isSome ∧ D.atKey (.int .i64 x) (.lit (.string [])) = .lit (.string ((f x).getD []))

theorem MS.later {W W' : World} {b n : Nat} {f : Pf} (h : MS W b n f) (hb : W'.heap[b]? = W.heap[b]?) : MS W' b n f := by
  obtain ⟨h0, D, ⟨es, clock, h1, h1'⟩, h2, h3⟩ := h
  exact ⟨h0, D, ⟨es, clock, by rw [hb, h1], h1'⟩, h2, h3⟩

theorem MS.lt {W : World} {b n : Nat} {f : Pf} (h : MS W b n f) : b < W.heap.size := by
  obtain ⟨_, D, h1, h2, h3⟩ := h
  exact h1.lt

theorem MS.mono {W : World} {b n n' : Nat} {f : Pf} (h : MS W b n f) (hn : n ≤ n') : MS W b n' f := by
  obtain ⟨h0, D, h1, h2, h3⟩ := h
  exact ⟨h0, D, h1.mono hn, h2, h3⟩

theorem MS.ext {W : World} {b n : Nat} {f f' : Pf} (h : MS W b n f) (h0' : PfOk f') (he : ∀ x, wf64 x → f x = f' x) : MS W b n f' := by
  obtain ⟨_, D, h1, h2, h3⟩ := h
  exact ⟨h0', D, h1, h2, fun x hx => by rw [← he x hx]; exact h3 x hx⟩

theorem MS.made {W : World} {b : Nat} (h : W.heap[b]? = some (.map #[] 0)) : MS W b 0 none' := by
  refine ⟨fun x bs e => by (cases e), .map [], ?_, ?_, fun x hx => ⟨rfl, rfl⟩⟩
  · have := World.ownsMap_made W Try.prog 3 (plainElem (H := Unit) Try.prog 9)
    obtain ⟨es, clock, h1, h1'⟩ := this
    rw [heap_alloc_new] at h1
    cases h1
    exact ⟨_, _, h, h1'⟩
  · exact ⟨[], rfl⟩

theorem MS.ne {W : World} {b n L : Nat} {f : Pf} {cs : Array Value} {t : TypeId} {fr : Nat × Nat} (h : MS W b n f) (hL : W.heap[L]? = some (.cells cs t fr)) : b ≠ L := by
  rintro rfl
  obtain ⟨_, D, ⟨es, clock, h1, _⟩, _⟩ := h
  rw [hL] at h1
  cases h1

theorem MS.ncell {W : World} {b n L o : Nat} {v : Value} {f : Pf} (h : MS W b n f) (hL : W.cell? ⟨L, o, none⟩ = some v) : L ≠ b := by
  rintro rfl
  obtain ⟨_, D, ⟨es, clock, h1, _⟩, _⟩ := h
  simp [World.cell?, h1] at hL

set_option maxRecDepth 100000 in
theorem plainS_inv {v : Value} {z : DataW Unit × List MemPlace} (h : plainElem Try.prog 9 v = some z) : ∃ s : ByteArray, v = .string s ∧ z = (.lit (.string s.data.toList), []) := by
  have he := Try.underlying9
  unfold plainElem at h
  rw [he] at h
  cases v with
  | string s =>
    dsimp only at h
    split at h
    · exact ⟨s, rfl, (Option.some.inj h).symm⟩
    · cases h
  | _ => cases h

theorem MS.look {W : World} {b n : Nat} {f : Pf} (h : MS W b n f) (x : Int) (hx : wf64 x) :
    (Instr.lookup 45 (.map (some b)) (.int .i64 x) true).run Try.prog W = .ok (.tuple #[.string ⟨((f x).getD []).toArray⟩, .bool (f x).isSome]) W := by
  obtain ⟨h0, D, h1, h2, h3⟩ := h
  obtain ⟨v, ps, hrun, hv⟩ := h1.look_ok (t := 45) (Maps.int_keyed Try.underlying3) Try.underlying45 (Try.zeroS W) (plainElem_string Try.underlying9 (s := ⟨#[]⟩) (by decide)) (Maps.keyOf_int_mk Try.underlying3 (wf_lit hx))
  obtain ⟨h4, h5⟩ := h3 x hx
  rw [show (⟨#[]⟩ : ByteArray).data.toList = [] from rfl, h5] at hv
  obtain ⟨s, rfl, hs⟩ := plainS_inv hv
  rw [hrun, h4]
  have e : s = ⟨((f x).getD []).toArray⟩ := by
    have h6 := congrArg Prod.fst hs
    simp at h6
    cases s
    rename_i d
    simp at h6
    rw [h6]
  rw [e]

theorem chg_of_turned {w w' : World} {b : Nat} (h : w.mapTurned w' b) : Chg (fun k => k = b) w w' := by
  have g := h.grown
  exact (chg_of_grown g).mono (fun k _ e => Option.some.inj e)

/-- A store, as a run. -/
theorem MS.store {W : World} {b n : Nat} {f : Pf} (h : MS W b n f) (hn : n < 9223372036854775807) (x : Int) (hx : wf64 x) (r : List UInt8) (hr : r.length = 512) :
    ∃ W', (Instr.mapUpdate 45 (.map (some b)) (.int .i64 x) (.string ⟨r.toArray⟩)).run Try.prog W = .ok () W' ∧ MS W' b (n + 1) (put f x r) ∧ Chg (fun k => k = b) W W' := by
  obtain ⟨h0, D, h1, h2, h3⟩ := h
  obtain ⟨W', q1, q2, q3⟩ := h1.store (t := 45) (Maps.int_keyed Try.underlying3) Try.underlying45 (by unfold maxLen; omega) (Maps.keyOf_int_mk Try.underlying3 (wf_lit hx)) (plainElem_string Try.underlying9 (s := ⟨r.toArray⟩) (by show r.toArray.size ≤ maxLen; simp [hr, maxLen]))
  refine ⟨W', q1, ⟨fun y bs e => ?_, _, q2, h2.put _ _, fun y hy => ?_⟩, chg_of_turned q3⟩
  · unfold put at e
    by_cases e1 : y = x
    · simp only [e1, if_true] at e; cases e; exact hr
    · simp only [e1, if_false] at e; exact h0 y bs e
  · unfold put
    by_cases e : y = x
    · subst e
      have hk : WideAt.IsKeyLit (Lit.int .i64 y) := trivial
      rw [if_pos rfl, Maps.has_put_same h2 hk, Maps.atKey_put_same h2 hk]
      exact ⟨rfl, rfl⟩
    · have hne : Lit.int .i64 y ≠ Lit.int .i64 x := fun h => e (by cases h; rfl)
      rw [if_neg e, Maps.has_put_other hne, Maps.atKey_put_other hne]
      exact h3 y hy

def del (f : Pf) (x : Int) : Pf := fun y => if y = x then none else f y

/-- A delete, as a run. -/
theorem MS.drop {W : World} {b n : Nat} {f : Pf} (h : MS W b n f) (x : Int) (hx : wf64 x) (ty : TypeId) :
    ∃ W', (Builtin.delete_ #[45, 3] ty #[.map (some b), .int .i64 x]).run Try.prog W = .ok (.tuple #[]) W' ∧ MS W' b n (del f x) ∧ Chg (fun k => k = b) W W' := by
  obtain ⟨h0, D, h1, h2, h3⟩ := h
  obtain ⟨W', q1, q2, q3⟩ := h1.drop (t := 45) (Maps.int_keyed Try.underlying3) Try.underlying45 (Maps.keyOf_int_mk Try.underlying3 (wf_lit hx)) ty
  refine ⟨W', q1, ⟨fun y bs e => ?_, _, q2, h2.del _, fun y hy => ?_⟩, chg_of_turned q3⟩
  · unfold del at e
    split at e
    · cases e
    · exact h0 y bs e
  · unfold del
    by_cases e : y = x
    · subst e
      rw [if_pos rfl, Maps.has_del_same, Maps.atKey_del_same]
      exact ⟨rfl, rfl⟩
    · have hne : Lit.int .i64 y ≠ Lit.int .i64 x := fun h => e (by cases h; rfl)
      rw [if_neg e, Maps.has_del_other hne, Maps.atKey_del_other hne]
      exact h3 y hy

/-- How many there are: none, where none is there. -/
theorem MS.len {W : World} {b n : Nat} {f : Pf} (h : MS W b n f) :
    ∃ m : Nat, (∀ ty, (Builtin.len_ #[45] ty #[.map (some b)]).run Try.prog W = .ok (.int .i64 (m : Int)) W) ∧ (m = 0 → ∀ x, wf64 x → f x = none) := by
  obtain ⟨h0, D, h1, ⟨es, rfl⟩, h3⟩ := h
  refine ⟨_, h1.len (t := 45) Try.underlying45, fun hm x hx => ?_⟩
  rw [size_eq] at hm
  have e := (h3 x hx).1
  rw [List.eq_nil_of_length_eq_zero hm, has_eq] at e
  cases hf : f x with
  | none => rfl
  | some r => rw [hf] at e; cases e
end Go.Proofs.Ytecgjfghofpjcaa
