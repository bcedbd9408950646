/-
  The sorted keys of a map from pages to contents.
-/
import Derived.Test.YtecgjfghofpjcaaDkP
import Derived.Shelf.SlIterI.Nil
import Derived.Shelf.SortM.Plain
import Derived.Shelf.SortM.SortNone
import Derived.Ground.GgzProg
import Derived.Ground.SlgmProg
namespace Go.Proofs.Ytecgjfghofpjcaa
open Go.RowKit Go.Maps Go.Sort Go.Shelf

/-- The keys of f, rising. -/
def KeysOf (f : Pf) (ks : List Int) : Prop := ks.Pairwise (· < ·) ∧ (∀ x, x ∈ ks ↔ wf64 x ∧ (f x).isSome = true)

/-- What a map's keys, sorted, are. -/
theorem keysOf_sorted {W : World} {b n : Nat} {f : Pf} {D : DataW Unit} (h1 : W.ownsMap Try.prog 3 Rc b n D) (h3 : ∀ x, wf64 x → Maps.has D (.int .i64 x) = (f x).isSome) {ss : List Int} (hp : ss.Perm (intKeys D)) : KeysOf f (ss.mergeSort (fun x y => decide (x ≤ y))) := by
  obtain ⟨es, clock, q1, F, q3, q4⟩ := id h1
  have K := Maps.int_keyed Try.underlying3
  obtain ⟨es', rfl, hpw, hk⟩ := h1.entries K
  have hkk : ∀ p ∈ es', ∃ x, p.1 = .int .i64 x ∧ wf64 x := by
    intro p hp
    cases q4
    obtain ⟨x, hx, rfl⟩ := List.mem_map.1 (mem_sorted.1 hp)
    obtain ⟨y, hy⟩ := F.reads x hx
    rw [WideElems.rg_of hy]
    have := WideElems.rd_key hy
    obtain ⟨z, e1, e2, e3⟩ := Maps.keyOf_i64 Try.underlying3 this
    have e4 : IntKind.i64.min = -9223372036854775808 := by decide
    have e5 : IntKind.i64.max = 9223372036854775807 := by decide
    simp only [Lit.wf, e4, e5, Bool.and_eq_true, decide_eq_true_eq] at e3
    exact ⟨z, e2, e3⟩
  have hnd : (intKeys (.map es')).Nodup := by
    unfold intKeys
    refine List.pairwise_map.2 (hpw.imp_of_mem fun {p q} hp' hq' hne e => hne ?_)
    obtain ⟨a, ha, -⟩ := hkk p hp'
    obtain ⟨c, hc, -⟩ := hkk q hq'
    rw [ha, hc] at e ⊢
    exact congrArg _ e
  have tr : ∀ a b c : Int, decide (a ≤ b) = true → decide (b ≤ c) = true → decide (a ≤ c) = true := fun a b c h1 h2 => by simp only [decide_eq_true_eq] at *; omega
  have to : ∀ a b : Int, (decide (a ≤ b) || decide (b ≤ a)) = true := fun a b => by simp only [Bool.or_eq_true, decide_eq_true_eq]; omega
  have hsrt := List.pairwise_mergeSort (le := fun x y => decide (x ≤ y)) tr to ss
  have hperm := (List.mergeSort_perm ss (fun x y => decide (x ≤ y))).trans hp
  have hnd2 : (ss.mergeSort (fun x y => decide (x ≤ y))).Nodup := hperm.nodup_iff.2 hnd
  refine ⟨?_, fun x => ?_⟩
  · refine (hsrt.and hnd2).imp (fun {a c} h => ?_)
    have h1 := h.1
    have h2 := h.2
    simp only [decide_eq_true_eq] at h1
    omega
  · rw [hperm.mem_iff]
    unfold intKeys
    rw [List.mem_map]
    constructor
    · rintro ⟨p, hp', rfl⟩
      obtain ⟨a, ha, hw⟩ := hkk p hp'
      rw [ha]
      refine ⟨hw, ?_⟩
      show (f a).isSome = true
      rw [← h3 a hw, has_eq, List.any_eq_true]
      exact ⟨p, hp', by rw [ha]; simp [Lit.sameKey]⟩
    · rintro ⟨hw, hx⟩
      rw [← h3 x hw, has_eq, List.any_eq_true] at hx
      obtain ⟨p, hp', hs⟩ := hx
      obtain ⟨a, ha, -⟩ := hkk p hp'
      rw [ha] at hs
      exact ⟨p, hp', by rw [ha]; simp [Lit.sameKey] at hs; first | exact hs | exact hs.symm⟩

shelf_lay_g SlLaysZI.n7 Ggz 7 at Try 56 as Try.keysA
shelf_lay_g SlLaysZI.n6 Ggz 6 at Try 55 as Try.sortedA
shelf_lay_g SlLaysM.n5 Slgm 5 at Try 62 as Try.sortA

theorem sortsA (m : Nat) : AnyZI.SortsIn Try.prog Try.sortedA_ren Fence.wide m :=
  ⟨fun blk off cap ss W hH hblk hsz => callsIn_wide.2 (AnyM.slices_Sort_int Try.sortA blk off cap ss W hH hblk hsz),
   fun p cap W => callsIn_wide.2 (AnyM.slices_Sort_int_none Try.sortA p cap W)⟩


theorem keysK (mb : Option Nat) (W : World) : Calls Try.prog 56 #[.map mb] W fun e w' => e = .returned (.func (.func 63) #[] #[.pointer (some ⟨W.heap.size, 0, none⟩)]) ∧ w' = W.alloc (.cells #[.map mb] 69) :=
  (callsIn_wide (n := 5)).1 (AnyZI.keys_in Try.keysA Fence.wide 5 trivial rfl mb W)

set_option maxHeartbeats 1000000 in
/-- slices.Sorted(maps.Keys(m)), behind maps.Keys. -/
theorem sortedK {b n : Nat} {f : Pf} (W : World) (hM : MO W b n f) (hn : n ≤ 17592186044416) :
    Calls Try.prog 55 #[.func (.func 63) #[] #[.pointer (some ⟨W.heap.size, 0, none⟩)]] (W.alloc (.cells #[.map (some b)] 69)) fun e w' => ∃ (v : Value) (ks : List Int), e = .returned v ∧ KeysOf f ks ∧
      w'.ownsRow W.heap.size 3 1 v ks.length (ks.map encZ) ∧ ks.length ≤ n ∧ Below W.heap.size W w' := by
  obtain ⟨h0, D, hown, h2, h3⟩ := hM
  have hsz := hown.size_le
  have hseq : SeqGives Fence.wide 2 Try.prog 63 #[.pointer (some ⟨W.heap.size, 0, none⟩)] encZ (fun ss => ss.Perm (intKeys D)) (Maps.size D) (W.alloc (.cells #[.map (some b)] 69)) :=
    AnyZI.keys_gives (ρ := Try.keysA_ren) { Try.keysA with } Fence.wide _ trivial rfl (by omega) W.heap.size b n D _ (by simp) (by simp) (by
      obtain ⟨es, clock, hb, Ft, hs, hD⟩ := hown
      exact ⟨es, clock, (Below.heap_alloc _ _ b (Array.getElem?_eq_some_iff.1 hb).1).trans hb, Ft, hs, hD⟩)
  have cS := AnyZI.sorted_in Try.sortedA Fence.wide 5 trivial trivial trivial trivial rfl (by omega) (sortsA _) (enters_of Try.func62 (by kernel_rfl) rfl) 63 #[.pointer (some ⟨W.heap.size, 0, none⟩)] trivial (enters_of Try.func63 (by kernel_rfl) rfl) _ (Maps.size D) (by unfold maxLen; omega) (by omega) _ hseq
  change CallsIn _ _ Try.prog 55 _ _ _ at cS
  refine ((callsIn_wide (n := 5)).1 cS).mono ?_
  rintro e w' ⟨v, ss, rfl, hS, hrow, -, hb⟩
  have hl : (ss.mergeSort (fun x y => decide (x ≤ y))).length = ss.length := List.length_mergeSort _
  have hl2 : ss.length ≤ n := by
    rw [hS.length_eq]
    obtain ⟨es, rfl⟩ := h2
    simpa [intKeys, Maps.size] using hsz
  refine ⟨v, _, rfl, keysOf_sorted hown (fun x hx => (h3 x hx).1) hS, by rw [hl]; exact ownsRow_base_a hrow (by simp), by rw [hl]; exact hl2, ((Below.refl _ W).alloc (Nat.le_refl _) _).trans (hb.mono (by simp))⟩
end Go.Proofs.Ytecgjfghofpjcaa
