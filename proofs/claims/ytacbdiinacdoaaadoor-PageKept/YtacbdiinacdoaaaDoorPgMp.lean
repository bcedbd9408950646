/-
  A map from slots to texts that the law keeps: what a lookup tells, what a store and a delete leave.
-/
import Derived.Test.YtacbdiinacdoaaaDoorPgX
import Derived.Test.YtacbdiinacdoaaaDoorPgK
import Derived.Maps.Own
import Derived.Maps.OwnSet
import Derived.Maps.Views
namespace Go.Proofs.YtacbdiinacdoaaaDoor
open Go.RowKit Go.Shelf

theorem Tryd.zero9 (w : World) : (zeroValue 9).run Tryd.prog w = .ok (.string ⟨#[]⟩) w := by
  obtain ⟨i0, hi, hz0, hz1, hz2⟩ := info_parts (show (Tryd.prog.info? 9).map (fun i => (i.zero, i.size, i.bytes)) = some (some (.string ⟨#[]⟩), 1, 16) by kernel_rfl)
  simp [zeroValue, typeInfo, hi, hz0]

def wf64 (x : Int) : Prop := -9223372036854775808 ≤ x ∧ x ≤ 9223372036854775807
theorem wf_lit {x : Int} (h : wf64 x) : (Lit.int .i64 x).wf = true := by
  obtain ⟨h1, h2⟩ := h
  have e1 : IntKind.i64.min = -9223372036854775808 := by decide
  have e2 : IntKind.i64.max = 9223372036854775807 := by decide
  simp only [Lit.wf, e1, e2, Bool.and_eq_true, decide_eq_true_eq]
  exact ⟨h1, h2⟩
/-- The map in block b tells f. -/
def MW (W : World) (b n : Nat) (f : Int → Option (List UInt8)) : Prop :=
  ∃ D : DataW Unit, W.ownsMap Tryd.prog 3 (plainElem Tryd.prog 9) b n D ∧ Maps.IsMap D ∧ ∀ x, wf64 x → Maps.has D (.int .i64 x) = (f x).isSome ∧ D.atKey (.int .i64 x) (.lit (.string [])) = .lit (.string (sb (f x)))
theorem MW.later {W W' : World} {b n : Nat} {f : Int → Option (List UInt8)} (h : MW W b n f) (hb : Below W.heap.size W W') : MW W' b n f := by
  obtain ⟨D, h1, h2, h3⟩ := h
  exact ⟨D, h1.kept (grown_of_below hb) (by simp), h2, h3⟩
theorem MW.lt {W : World} {b n : Nat} {f : Int → Option (List UInt8)} (h : MW W b n f) : b < W.heap.size := by
  obtain ⟨D, h1, h2, h3⟩ := h
  exact h1.lt
theorem MW.ext {W : World} {b n : Nat} {f f' : Int → Option (List UInt8)} (h : MW W b n f) (he : ∀ x, wf64 x → f x = f' x) : MW W b n f' := by
  obtain ⟨D, h1, h2, h3⟩ := h
  exact ⟨D, h1, h2, fun x hx => by rw [← he x hx]; exact h3 x hx⟩
theorem plainElem_string_inv {v : Value} {z : DataW Unit × List MemPlace} (h : plainElem Tryd.prog 9 v = some z) : ∃ s : ByteArray, v = .string s ∧ z = (.lit (.string s.data.toList), []) := by
  have he := Tryd.underlying9
  unfold plainElem at h
  rw [he] at h
  cases v <;> simp at h
  exact ⟨_, rfl, h.2.symm⟩
theorem MW.look {W : World} {b n : Nat} {f : Int → Option (List UInt8)} (h : MW W b n f) (x : Int) (hx : wf64 x) :
    (Instr.lookup 46 (.map (some b)) (.int .i64 x) true).run Tryd.prog W = .ok (.tuple #[.string ⟨(sb (f x)).toArray⟩, .bool (f x).isSome]) W := by
  obtain ⟨D, h1, h2, h3⟩ := h
  obtain ⟨v, ps, hrun, hv⟩ := h1.look_ok (t := 46) (Maps.int_keyed Tryd.underlying3) Tryd.underlying46 (Tryd.zero9 W) (plainElem_string Tryd.underlying9 (s := ⟨#[]⟩) (by decide)) (Maps.keyOf_int_mk Tryd.underlying3 (wf_lit hx))
  obtain ⟨h4, h5⟩ := h3 x hx
  rw [show (⟨#[]⟩ : ByteArray).data.toList = [] from rfl, h5] at hv
  obtain ⟨s, rfl, hs⟩ := plainElem_string_inv hv
  rw [hrun, h4]
  have e : s = ⟨(sb (f x)).toArray⟩ := by
    have h6 := congrArg Prod.fst hs
    simp at h6
    cases s
    rename_i d
    simp at h6
    rw [h6]
  rw [e]
/-- Behind a store. -/
theorem MW.put {W' : World} {b n' : Nat} {f : Int → Option (List UInt8)} {D : DataW Unit} (hD : Maps.IsMap D) (h3 : ∀ x, wf64 x → Maps.has D (.int .i64 x) = (f x).isSome ∧ D.atKey (.int .i64 x) (.lit (.string [])) = .lit (.string (sb (f x)))) (x : Int) (r : List UInt8)
    (h : W'.ownsMap Tryd.prog 3 (plainElem Tryd.prog 9) b n' (D.put (.int .i64 x) (.lit (.string r)))) : MW W' b n' (fun y => if y = x then some r else f y) := by
  refine ⟨_, h, hD.put _ _, fun y hy => ?_⟩
  dsimp only
  by_cases e : y = x
  · subst e
    have hk : WideAt.IsKeyLit (Lit.int .i64 y) := trivial
    rw [if_pos rfl, Maps.has_put_same hD hk, Maps.atKey_put_same hD hk]
    exact ⟨rfl, rfl⟩
  · have hne : Lit.int .i64 y ≠ Lit.int .i64 x := fun h => e (by cases h; rfl)
    rw [if_neg e, Maps.has_put_other hne, Maps.atKey_put_other hne]
    exact h3 y hy
theorem MW.del {W' : World} {b n' : Nat} {f : Int → Option (List UInt8)} {D : DataW Unit} (hD : Maps.IsMap D) (h3 : ∀ x, wf64 x → Maps.has D (.int .i64 x) = (f x).isSome ∧ D.atKey (.int .i64 x) (.lit (.string [])) = .lit (.string (sb (f x)))) (x : Int)
    (h : W'.ownsMap Tryd.prog 3 (plainElem Tryd.prog 9) b n' (D.del (.int .i64 x))) : MW W' b n' (fun y => if y = x then none else f y) := by
  refine ⟨_, h, hD.del _, fun y hy => ?_⟩
  dsimp only
  by_cases e : y = x
  · subst e
    rw [if_pos rfl, Maps.has_del_same, Maps.atKey_del_same]
    exact ⟨rfl, rfl⟩
  · have hne : Lit.int .i64 y ≠ Lit.int .i64 x := fun h => e (by cases h; rfl)
    rw [if_neg e, Maps.has_del_other hne, Maps.atKey_del_other hne]
    exact h3 y hy
end Go.Proofs.YtacbdiinacdoaaaDoor
