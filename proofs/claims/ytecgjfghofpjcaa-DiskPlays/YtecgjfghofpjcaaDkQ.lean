/-
  The contracts of disk's pages.
-/
import Derived.Test.YtecgjfghofpjcaaDkK
import Derived.Test.YtecgjfghofpjcaaDkCr
import Derived.Deep.MidRow
namespace Go.Proofs.Ytecgjfghofpjcaa
open Go.RowKit Go.Maps

/-- Pages in the block P, with the maps mo (sure) and mf (written since the last sync). -/
structure Pg (w : World) (P mo mf no nf : Nat) (count : Int) (old fresh : Pf) : Prop where
  b : w.heap[P]? = some (.cells #[.int .i64 count, .map (some mo), .map (some mf)] 71 (0, 0))
  o : MO w mo no old
  f : MO w mf nf fresh
  ne : mo ≠ mf

theorem Pg.kept {w w' : World} {P mo mf no nf : Nat} {count : Int} {old fresh : Pf} (h : Pg w P mo mf no nf count old fresh) (h1 : w'.heap[P]? = w.heap[P]?) (h2 : w'.heap[mo]? = w.heap[mo]?) (h3 : w'.heap[mf]? = w.heap[mf]?) : Pg w' P mo mf no nf count old fresh :=
  ⟨by rw [h1, h.b], h.o.later h2, h.f.later h3, h.ne⟩

def none' : Pf := fun _ => none

theorem newPages_any (count : Int) (w : World) :
    Calls Try.prog 11 #[.int .i64 count] w fun e w' => ∃ P, e = .returned (.pointer (some ⟨P, 0, none⟩)) ∧ (∃ mo mf, Pg w' P mo mf 0 0 count none' none' ∧ w.heap.size ≤ mo ∧ w.heap.size ≤ mf) ∧ w.heap.size ≤ P ∧ Below w.heap.size w w' := by
  have hmm := @run_makeMap Try.prog
  go_enter Try.func11, Try.ntmps11
  go_wp2
  go_ret
  have e1 : w.heap.size < (w.alloc (.map #[] 0)).heap.size := by simp
  have s1 : (w.alloc (.map #[] 0)).heap.size = w.heap.size + 1 := by simp
  have m1 := heap_alloc_new w (.map #[] 0)
  have m2 := heap_alloc_new (w.alloc (.map #[] 0)) (.map #[] 0)
  rw [s1] at m2
  have k1 := fun o => Below.heap_alloc (w.alloc (.map #[] 0)) o w.heap.size e1
  have s2 : ((w.alloc (.map #[] 0)).alloc (.map #[] 0)).heap.size = w.heap.size + 1 + 1 := by simp
  have k2 := fun o k h => Below.heap_alloc ((w.alloc (.map #[] 0)).alloc (.map #[] 0)) o k h
  have m3 := fun o => heap_alloc_new ((w.alloc (.map #[] 0)).alloc (.map #[] 0)) o
  rw [s2] at m3
  exact ⟨_, rfl, ⟨w.heap.size, w.heap.size + 1, ⟨m3 _, MO.made ((k2 _ _ (by rw [s2]; omega)).trans ((k1 _).trans m1)), MO.made ((k2 _ _ (by rw [s2]; omega)).trans m2), by omega⟩, Nat.le_refl _, by omega⟩, by omega, (((Below.refl _ w).alloc (Nat.le_refl _) _).alloc (by simp) _).alloc (by simp; omega) _⟩

theorem phas_any (P mo mf no nf : Nat) (count : Int) (old fresh : Pf) (page : Int) (w : World) (h : Pg w P mo mf no nf count old fresh) :
    Calls Try.prog 50 #[.pointer (some ⟨P, 0, none⟩), .int .i64 page] w fun e w' => e = .returned (.bool (decide (0 ≤ page) && decide (page < count))) ∧ w' = w := by
  have c0 : w.cell? ⟨P, 0, none⟩ = some (.int .i64 count) := bl_cell h.b 0 _ rfl
  clear h
  by_cases h0 : 0 ≤ page
  · go_enter Try.func50, Try.ntmps50
    go_wp2
    go_ret
    exact ⟨by simp [h0], rfl⟩
  · go_enter Try.func50, Try.ntmps50
    go_wp2
    go_ret
    exact ⟨by simp; intro; omega, rfl⟩

theorem tmod3 (x : Int) : (wrap64 (x.tmod 3 + 3)).tmod 3 = x % 3 := by
  have h1 : -3 < x.tmod 3 ∧ x.tmod 3 < 3 ∧ (x.tmod 3 - x) % 3 = 0 := by
    rcases Int.le_total 0 x with h | h
    · rw [Int.tmod_eq_emod_of_nonneg h]; omega
    · have e : x.tmod 3 = -((-x) % 3) := by
        rw [show x = -(-x) by omega, Int.neg_tmod, Int.tmod_eq_emod_of_nonneg (by omega)]; simp
      rw [e]; omega
  obtain ⟨h1, h2, h3⟩ := h1
  generalize x.tmod 3 = y at *
  have e : wrap64 (y + 3) = y + 3 := by unfold wrap64; omega
  rw [e, Int.tmod_eq_emod_of_nonneg (by omega)]
  omega

theorem fateAt_any (ao : Option Addr) (n cap : Nat) (fs : List Int) (i : Nat) (w : World) (hn : fs.length = n) (hc : ∀ b off, ao = some ⟨b, off, none⟩ → ∀ j (h : j < fs.length), w.cell? ⟨b, off + j, none⟩ = some (.int .i64 fs[j])) (hao : 0 < n → ∃ b off, ao = some ⟨b, off, none⟩) :
    Calls Try.prog 57 #[.slice ao n cap, .int .i64 (i : Int)] w fun e w' => e = .returned (.int .i64 ((fs[i]?.getD 0) % 3)) ∧ w' = w := by
  by_cases hi : i < n
  · obtain ⟨b, off, rfl⟩ := hao (by omega)
    have c0 := hc b off rfl i (by omega)
    have e0 : (fs[i]?.getD 0) = fs[i] := by rw [List.getElem?_eq_getElem (by omega)]; rfl
    rw [e0]
    generalize fs[i] = x at *
    clear hc hao hn e0
    have h1 : (i : Int) < (n : Int) := by omega
    go_enter Try.func57, Try.ntmps57
    go_wp2
    go_ret
    exact ⟨ret_int (tmod3 x), rfl⟩
  · have e0 : (fs[i]?.getD 0) = 0 := by rw [List.getElem?_eq_none (by omega)]; rfl
    rw [e0]
    clear hc hao hn e0
    go_enter Try.func57, Try.ntmps57
    go_wp2
    go_ret
    exact ⟨rfl, rfl⟩

theorem ownsRow_slice {w : World} {base n size : Nat} {e : TypeId} {v : Value} {xs : List Value} (h : w.ownsRow base e size v n xs) : ∃ ao cap, v = .slice ao n cap := by
  rcases h.2 with ⟨rfl, rfl⟩ | ⟨g, cap, cur, rfl, _⟩
  · exact ⟨none, 0, rfl⟩
  · exact ⟨_, cap, rfl⟩

theorem keysOf_none {ks : List Int} (h : KeysOf none' ks) : ks = [] := by
  cases ks with
  | nil => rfl
  | cons a t => have := (h.2 a).1 (List.mem_cons_self ..); simp [none'] at this

set_option maxRecDepth 20000 in
/-- A crash where nothing was written since the last sync. -/
theorem pcrash_none (P mo mf no nf : Nat) (count : Int) (old : Pf) (fs : Value) (w : World) (h : Pg w P mo mf no nf count old none') (hnf : nf ≤ 17592186044416) :
    Calls Try.prog 41 #[.pointer (some ⟨P, 0, none⟩), fs] w fun e w' => (∃ v, e = .returned v) ∧ (∃ mf', Pg w' P mo mf' no 0 count old none' ∧ w.heap.size ≤ mf') ∧ Chg (fun k => k = P) w w' := by
  have hPl := bl_lt h.b
  have c2 : w.cell? ⟨P, 2, none⟩ = some (.map (some mf)) := bl_cell h.b 2 _ rfl
  have CK := keysK (some mf) w
  have CS := sortedK w h.f hnf
  have hmm := @run_makeMap Try.prog
  have HP : Hid (Pg w P mo mf no nf count old none') := h
  clear h
  go_enter Try.func41, Try.ntmps41
  go_wp2_with (first
    | (go_at_call 56; refine CK.mono ?_; rintro e w1 ⟨rfl, rfl⟩)
    | (go_at_call 55; refine CS.mono ?_; rintro e w2 ⟨v, ks, rfl, hk, hrow, -, hb⟩; obtain rfl := keysOf_none hk; obtain ⟨ao, cap, rfl⟩ := ownsRow_slice hrow))
  clear CK CS
  have HP2 := HP.out.kept (hb.block P hPl) (hb.block mo HP.out.o.lt) (hb.block mf HP.out.f.lt)
  have d2 : w2.cell? ⟨P, 2, none⟩ = some (.map (some mf)) := bl_cell HP2.b 2 _ rfl
  have f2 := bl_open HP2.b 2
  have hP2 := bl_lt HP2.b
  have e2 : (w2.alloc (.map #[] 0)).heap[P]? = w2.heap[P]? := Below.heap_alloc _ _ _ hP2
  have d3 : (w2.alloc (.map #[] 0)).cell? ⟨P, 2, none⟩ = some (.map (some mf)) := by rw [World.cell?_of_block (w := w2) (a := ⟨P, 2, none⟩) e2]; exact d2
  have f3 : (w2.alloc (.map #[] 0)).frozen? ⟨P, 2, none⟩ = false := by rw [World.frozen?_of_block (w := w2) (a := ⟨P, 2, none⟩) e2]; exact f2
  have FIN : Hid ((∃ mf', Pg ((w2.alloc (.map #[] 0)).setCell ⟨P, 2, none⟩ (.map (some w2.heap.size))) P mo mf' no 0 count old none' ∧ w.heap.size ≤ mf') ∧ Chg (fun k => k = P) w ((w2.alloc (.map #[] 0)).setCell ⟨P, 2, none⟩ (.map (some w2.heap.size)))) := by
    have hb3 : Below w2.heap.size w2 (w2.alloc (.map #[] 0)) := (Below.refl _ _).alloc (Nat.le_refl _) _
    have hoL := HP2.o.lt
    have hN := heap_alloc_new w2 (.map #[] 0)
    refine ⟨⟨w2.heap.size, ⟨bl_set (e2.trans HP2.b) 2 _, HP2.o.later ((Below.heap_setCell _ _ _ _ (HP2.o.ne HP2.b)).trans (hb3.block _ hoL)), MO.made ((Below.heap_setCell _ _ _ _ (fun e => ?_)).trans hN), fun e => ?_⟩, hb.size⟩, ?_⟩
    · simp at e; omega
    · omega
    · exact ((chg_of_below (S := fun k => k = P) hb).trans (chg_of_below (S := fun k => k = P) hb3) (fun _ _ e => e) (fun _ _ e => e)).trans (chg_set _ _ _ _) (fun _ _ e => e) (fun _ _ e => e)
  clear HP2 hP2 e2 hrow hk hb d2 f2
  refine wp_loop_rounds 1 ?_
  rw [rounds_succ]
  go_wp2
  go_end0
  exact ⟨⟨_, rfl⟩, FIN.out⟩
end Go.Proofs.Ytecgjfghofpjcaa
