/-
  The contract of pages' sync.
-/
import Derived.Test.YtecgjfghofpjcaaDkY
namespace Go.Proofs.Ytecgjfghofpjcaa
open Go.RowKit Go.Maps

/-- A new map for what is written. -/
theorem pg_anew {w : World} {P mo no : Nat} {count : Int} {old : Pf} {m : Value} (hb : w.heap[P]? = some (.cells #[.int .i64 count, .map (some mo), m] 71 (0, 0))) (ho : MO w mo no old) :
    Pg ((w.alloc (.map #[] 0)).setCell ⟨P, 2, none⟩ (.map (some w.heap.size))) P mo w.heap.size no 0 count old none' ∧ Chg (fun k => k = P) w ((w.alloc (.map #[] 0)).setCell ⟨P, 2, none⟩ (.map (some w.heap.size))) ∧ w.heap.size < ((w.alloc (.map #[] 0)).setCell ⟨P, 2, none⟩ (.map (some w.heap.size))).heap.size := by
  have hP := bl_lt hb
  have hb3 : Below w.heap.size w (w.alloc (.map #[] 0)) := (Below.refl _ _).alloc (Nat.le_refl _) _
  have hoL := ho.lt
  have hN := heap_alloc_new w (.map #[] 0)
  have e2 : (w.alloc (.map #[] 0)).heap[P]? = w.heap[P]? := Below.heap_alloc _ _ _ hP
  refine ⟨⟨bl_set (e2.trans hb) 2 _, ho.later ((Below.heap_setCell _ _ _ _ (ho.ne hb)).trans (hb3.block _ hoL)), MO.made ((Below.heap_setCell _ _ _ _ (fun e => ?_)).trans hN), fun e => ?_⟩, ?_, ?_⟩
  · simp at e; omega
  · omega
  · exact (chg_of_below (S := fun k => k = P) hb3).trans (chg_set _ _ _ _) (fun _ _ e => e) (fun _ _ e => e)
  · simp [World.setCell]

set_option maxRecDepth 20000 in
theorem psync_any (P mo mf no nf : Nat) (count : Int) (old fresh : Pf) (w : World) (h : Pg w P mo mf no nf count old fresh) (hroom : no + nf ≤ 9223372036854775807) :
    Calls Try.prog 47 #[.pointer (some ⟨P, 0, none⟩)] w fun e w' => (∃ v, e = .returned v) ∧ (∃ mf', Pg w' P mo mf' (no + nf) 0 count (over fresh old) none' ∧ w.heap.size ≤ mf' ∧ mf' < w'.heap.size) ∧ Chg (fun k => k = P ∨ k = mo) w w' := by
  have hPl := bl_lt h.b
  have c1 : w.cell? ⟨P, 1, none⟩ = some (.map (some mo)) := bl_cell h.b 1 _ rfl
  have c2 : w.cell? ⟨P, 2, none⟩ = some (.map (some mf)) := bl_cell h.b 2 _ rfl
  have CC := copy_any mo mf no nf old fresh w.drew h.o h.f h.ne hroom
  have hmm := @run_makeMap Try.prog
  have HP : Hid (Pg w P mo mf no nf count old fresh) := h
  have hoP : mo ≠ P := h.o.ne h.b
  clear h
  go_enter Try.func47, Try.ntmps47
  go_wp2
  go_region_held2 (fun W => W.cell? ⟨P, 1, none⟩ = some (.map (some mo)) ∧ W.cell? ⟨P, 2, none⟩ = some (.map (some mf))) (first | go_keep | exact ⟨hC3.cell (fun e => hoP e.symm) c1, hC3.cell (fun e => hoP e.symm) c2⟩)
    ((go_at_call 60; refine CC.mono ?_; rintro e w3 ⟨⟨v3, rfl⟩, hM3, hC3⟩))
  have hC4 : Chg (fun k => k = mo) w w3 := ⟨hC3.os, hC3.tape, hC3.output, hC3.size, hC3.block⟩
  have hb4 : w3.heap[P]? = _ := (hC4.block P hPl (fun e => hoP e.symm)).trans HP.out.b
  obtain ⟨A1, A2, A3⟩ := pg_anew hb4 hM3
  have f2 := bl_open hb4 2
  have d2 : w3.cell? ⟨P, 2, none⟩ = some (.map (some mf)) := bl_cell hb4 2 _ rfl
  have hP3 := bl_lt hb4
  have e2 : (w3.alloc (.map #[] 0)).heap[P]? = w3.heap[P]? := Below.heap_alloc _ _ _ hP3
  have d3 : (w3.alloc (.map #[] 0)).cell? ⟨P, 2, none⟩ = some (.map (some mf)) := by rw [World.cell?_of_block (w := w3) (a := ⟨P, 2, none⟩) e2]; exact d2
  have f3 : (w3.alloc (.map #[] 0)).frozen? ⟨P, 2, none⟩ = false := by rw [World.frozen?_of_block (w := w3) (a := ⟨P, 2, none⟩) e2]; exact f2
  have FIN : Hid (_ ∧ _ ∧ _) := ⟨A1, (hC4.trans (T := fun k => k = P ∨ k = mo) A2 (fun _ _ e => .inr e) (fun _ _ e => .inl e)), A3⟩
  have hs3 := hC4.size
  clear A1 A2 A3 hM3 hC3 hC4 hb4 d2 f2 e2 hP3 CC
  go_wp2
  go_end0
  exact ⟨⟨_, rfl⟩, ⟨_, FIN.out.1, hs3, FIN.out.2.2⟩, FIN.out.2.1⟩
end Go.Proofs.Ytecgjfghofpjcaa
