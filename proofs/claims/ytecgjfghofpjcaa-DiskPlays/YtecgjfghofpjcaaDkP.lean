/-
  Maps from pages to contents: what a lookup tells, what a store leaves, which keys there are.
-/
import Derived.Test.YtecgjfghofpjcaaDkB
import Derived.Maps.Own
import Derived.Maps.OwnSet
import Derived.Maps.Views
import Derived.Maps.Range
import Derived.Sort.KeysCollected
namespace Go.Proofs.Ytecgjfghofpjcaa
open Go.RowKit Go.Maps Go.Sort

/-- How a content reads: as the text of its bytes. -/
noncomputable def Rc (v : Value) : Option (DataW Unit × List MemPlace) :=
  open Classical in if h : ∃ bs : List UInt8, bs.length = 512 ∧ v = .agg (bv bs).toArray then some (.lit (.string h.choose), []) else none

theorem bv_inj {a b : List UInt8} (h : bv a = bv b) : a = b := by
  have hl : a.length = b.length := by have := congrArg List.length h; simpa [bv] using this
  refine List.ext_getElem hl (fun i h1 h2 => ?_)
  have e1 := bv_at a i h1
  rw [h, bv_at b i h2] at e1
  simp at e1
  exact UInt8.toNat_inj.1 (by omega)

theorem rc_of {bs : List UInt8} (h : bs.length = 512) : Rc (.agg (bv bs).toArray) = some (.lit (.string bs), []) := by
  unfold Rc
  have hh : ∃ bs' : List UInt8, bs'.length = 512 ∧ Value.agg (bv bs).toArray = .agg (bv bs').toArray := ⟨bs, h, rfl⟩
  rw [dif_pos hh]
  have e := hh.choose_spec.2
  generalize hh.choose = c at e
  simp only [Value.agg.injEq] at e
  have e' : bv bs = bv c := by have := congrArg Array.toList e; simpa using this
  rw [bv_inj e']

theorem rc_inv {v : Value} {z : DataW Unit × List MemPlace} (h : Rc v = some z) : ∃ bs : List UInt8, bs.length = 512 ∧ v = .agg (bv bs).toArray ∧ z = (.lit (.string bs), []) := by
  unfold Rc at h
  split at h
  · rename_i hh
    have h1 := hh.choose_spec
    generalize hh.choose = c at h1 h
    cases h
    exact ⟨c, h1.1, h1.2, rfl⟩
  · cases h

def z512 : List UInt8 := List.replicate 512 0

theorem z512_len : z512.length = 512 := List.length_replicate

theorem bv_z512 : (bv z512).toArray = Array.replicate 512 (.int .u8 0) := by
  unfold z512 bv
  rw [List.map_replicate, List.toArray_replicate]
  rfl

theorem Try.zeroC (w : World) : (zeroValue 80).run Try.prog w = .ok (.agg (bv z512).toArray) w := by
  obtain ⟨i0, hi, hz0, hz1, hz2⟩ := info_parts (show (Try.prog.info? 80).map (fun i => (i.zero, i.size, i.bytes)) = some (some (.agg (Array.replicate 512 (.int .u8 0))), 512, 512) by kernel_rfl)
  rw [bv_z512]
  simp [zeroValue, typeInfo, hi, hz0]

def wf64 (x : Int) : Prop := -9223372036854775808 ≤ x ∧ x ≤ 9223372036854775807

theorem wf_lit {x : Int} (h : wf64 x) : (Lit.int .i64 x).wf = true := by
  obtain ⟨h1, h2⟩ := h
  have e1 : IntKind.i64.min = -9223372036854775808 := by decide
  have e2 : IntKind.i64.max = 9223372036854775807 := by decide
  simp only [Lit.wf, e1, e2, Bool.and_eq_true, decide_eq_true_eq]
  exact ⟨h1, h2⟩

/-- A function from pages to contents. -/
abbrev Pf := Int → Option (List UInt8)

def PfOk (f : Pf) : Prop := ∀ x bs, f x = some bs → bs.length = 512

/-- The map in block b tells f; it has n entries at most. -/
def MO (W : World) (b n : Nat) (f : Pf) : Prop :=
  PfOk f ∧ ∃ D : DataW Unit, W.ownsMap Try.prog 3 Rc b n D ∧ Maps.IsMap D ∧ ∀ x, wf64 x → Maps.has D (.int .i64 x) = (f x).isSome ∧ D.atKey (.int .i64 x) (.lit (.string z512)) = .lit (.string ((f x).getD z512))

theorem MO.later {W W' : World} {b n : Nat} {f : Pf} (h : MO W b n f) (hb : W'.heap[b]? = W.heap[b]?) : MO W' b n f := by
  obtain ⟨h0, D, ⟨es, clock, h1, h1'⟩, h2, h3⟩ := h
  exact ⟨h0, D, ⟨es, clock, by rw [hb, h1], h1'⟩, h2, h3⟩

theorem MO.lt {W : World} {b n : Nat} {f : Pf} (h : MO W b n f) : b < W.heap.size := by
  obtain ⟨_, D, h1, h2, h3⟩ := h
  exact h1.lt

theorem MO.mono {W : World} {b n n' : Nat} {f : Pf} (h : MO W b n f) (hn : n ≤ n') : MO W b n' f := by
  obtain ⟨h0, D, h1, h2, h3⟩ := h
  exact ⟨h0, D, h1.mono hn, h2, h3⟩

theorem MO.made {W : World} {b : Nat} (h : W.heap[b]? = some (.map #[] 0)) : MO W b 0 (fun _ => none) := by
  refine ⟨fun x bs e => by (cases e), .map [], ?_, ?_, fun x hx => ⟨rfl, rfl⟩⟩
  · have := World.ownsMap_made W Try.prog 3 Rc
    obtain ⟨es, clock, h1, h1'⟩ := this
    rw [heap_alloc_new] at h1
    cases h1
    exact ⟨_, _, h, h1'⟩
  · exact ⟨[], rfl⟩

theorem MO.ne {W : World} {b n L : Nat} {f : Pf} {cs : Array Value} {t : TypeId} {fr : Nat × Nat} (h : MO W b n f) (hL : W.heap[L]? = some (.cells cs t fr)) : b ≠ L := by
  rintro rfl
  obtain ⟨_, D, ⟨es, clock, h1, _⟩, _⟩ := h
  rw [hL] at h1
  cases h1

theorem MO.look {W : World} {b n : Nat} {f : Pf} (h : MO W b n f) (x : Int) (hx : wf64 x) :
    (Instr.lookup 69 (.map (some b)) (.int .i64 x) true).run Try.prog W = .ok (.tuple #[.agg (bv ((f x).getD z512)).toArray, .bool (f x).isSome]) W := by
  obtain ⟨h0, D, h1, h2, h3⟩ := h
  obtain ⟨v, ps, hrun, hv⟩ := h1.look_ok (t := 69) (Maps.int_keyed Try.underlying3) Try.underlying69 (Try.zeroC W) (rc_of z512_len) (Maps.keyOf_int_mk Try.underlying3 (wf_lit hx))
  obtain ⟨h4, h5⟩ := h3 x hx
  rw [h5] at hv
  obtain ⟨bs, hl, rfl, hs⟩ := rc_inv hv
  rw [hrun, h4]
  have e : (f x).getD z512 = bs := by simpa using congrArg Prod.fst hs
  rw [e]

theorem MO.look1 {W : World} {b n : Nat} {f : Pf} (h : MO W b n f) (x : Int) (hx : wf64 x) :
    (Instr.lookup 69 (.map (some b)) (.int .i64 x) false).run Try.prog W = .ok (.agg (bv ((f x).getD z512)).toArray) W := by
  obtain ⟨h0, D, h1, h2, h3⟩ := h
  obtain ⟨v, ps, hrun, hv⟩ := h1.lookup (t := 69) (Maps.int_keyed Try.underlying3) Try.underlying69 (Try.zeroC W) (rc_of z512_len) (Maps.keyOf_int_mk Try.underlying3 (wf_lit hx))
  obtain ⟨h4, h5⟩ := h3 x hx
  rw [h5] at hv
  obtain ⟨bs, hl, rfl, hs⟩ := rc_inv hv
  rw [hrun]
  have e : (f x).getD z512 = bs := by simpa using congrArg Prod.fst hs
  rw [e]

/-- Behind a store. -/
theorem MO.put {W' : World} {b n' : Nat} {f : Pf} {D : DataW Unit} (h0 : PfOk f) (hD : Maps.IsMap D) (h3 : ∀ x, wf64 x → Maps.has D (.int .i64 x) = (f x).isSome ∧ D.atKey (.int .i64 x) (.lit (.string z512)) = .lit (.string ((f x).getD z512))) (x : Int) (r : List UInt8) (hr : r.length = 512)
    (h : W'.ownsMap Try.prog 3 Rc b n' (D.put (.int .i64 x) (.lit (.string r)))) : MO W' b n' (fun y => if y = x then some r else f y) := by
  refine ⟨fun y bs e => ?_, _, h, hD.put _ _, fun y hy => ?_⟩
  · by_cases e1 : y = x
    · simp only [e1, if_true] at e; cases e; exact hr
    · simp only [e1, if_false] at e; exact h0 y bs e
  dsimp only
  by_cases e : y = x
  · subst e
    have hk : WideAt.IsKeyLit (Lit.int .i64 y) := trivial
    rw [if_pos rfl, Maps.has_put_same hD hk, Maps.atKey_put_same hD hk]
    exact ⟨rfl, rfl⟩
  · have hne : Lit.int .i64 y ≠ Lit.int .i64 x := fun h => e (by cases h; rfl)
    rw [if_neg e, Maps.has_put_other hne, Maps.atKey_put_other hne]
    exact h3 y hy

/-- A store, as a run. -/
theorem MO.store {W : World} {b n : Nat} {f : Pf} (h : MO W b n f) (hn : n < 9223372036854775807) (x : Int) (hx : wf64 x) (r : List UInt8) (hr : r.length = 512) :
    ∃ W', (Instr.mapUpdate 69 (.map (some b)) (.int .i64 x) (.agg (bv r).toArray)).run Try.prog W = .ok () W' ∧ MO W' b (n + 1) (fun y => if y = x then some r else f y) ∧ W.grownBy W' (some b) := by
  obtain ⟨h0, D, h1, h2, h3⟩ := h
  obtain ⟨W', q1, q2, q3⟩ := h1.update (t := 69) (Maps.int_keyed Try.underlying3) Try.underlying69 (by unfold maxLen; omega) (Maps.keyOf_int_mk Try.underlying3 (wf_lit hx)) (rc_of hr)
  exact ⟨W', q1, MO.put h0 h2 h3 x r hr q2, q3⟩
end Go.Proofs.Ytecgjfghofpjcaa
