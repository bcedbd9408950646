/-
  The contract of longstoplaw12.knows: whatever lies in memory, it answers true.
-/
import Derived.Test.YtaghbkjjindjfaaDoorPgI
import Derived.Lib.SlBytesConst
namespace Go.Proofs.YtaghbkjjindjfaaDoor
open Go.RowKit Go.Shelf

set_option maxHeartbeats 400000 in
theorem num_any (n : Int) (w : World) : Calls Tryd.prog 24 #[.int .i64 n] w fun e w' => e = .returned (.int .i64 n) ∧ w = w' := by
  go_enter Tryd.func24, Tryd.ntmps24
  go_wp2
  go_ret
  exact ⟨rfl, rfl⟩

theorem fits_nil : fits [] := by decide
theorem fits_a : fits [some [97]] := by decide
theorem pg_nil : pg (pageL []) = some [] := pg_page [] fits_nil (by decide)
theorem pg_a : pg (pageL [some [97]]) = some [some [97]] := pg_page _ fits_a (by decide)

set_option maxRecDepth 20000 in
set_option maxHeartbeats 4000000 in
theorem knows_any (w : World) (hT : Tab w) : Calls Tryd.prog 17 #[] w fun e w' => e = .returned (.bool true) ∧ Below w.heap.size w w' := by
  have C0 := new_any w hT
  have cv := fun W => Lib.run_convert_bytes_const (P := Tryd.prog) W 22 5 #[.int .u8 97] 1 1 Tryd.underlying22 Tryd.underlying5
  simp only [List.size_toArray, List.length_cons, List.length_nil, Nat.zero_add, Nat.reduceAdd] at cv
  go_enter Tryd.func17, Tryd.ntmps17
  go_wp2_with fail
  refine C0.mono ?_
  rintro e w1 ⟨g, rfl, hg, hP, b1⟩
  clear C0
  have A2 := (Below.refl w1.heap.size w1).alloc (Nat.le_refl _) (.cells #[.int .u8 97] 5 (1, 2))
  have hP2 := (hP.page fits_nil).later A2
  have hr2 : Rd (w1.alloc (.cells #[.int .u8 97] 5 (1, 2))) (some ⟨w1.heap.size, 0, none⟩) 1 1 [97] := by
    refine ⟨rfl, Nat.le_refl _, by decide, (fun e => by cases e), fun _ => ⟨w1.heap.size, 0, rfl, fun i hi => ?_⟩⟩
    have h0 : i = 0 := by simp at hi; omega
    subst h0
    rw [cell_of_row _ w1.heap.size (0 + 0) _ _ _ (heap_alloc_new w1 _)]
    rfl
  have hB2 : Below w.heap.size w (w1.alloc (.cells #[.int .u8 97] 5 (1, 2))) := b1.alloc b1.size _
  have C1 := insert_any _ _ _ _ _ _ _ [97] _ (hT.later hB2 hT.pos) hP2 hr2 (by omega)
  rw [pg_nil] at C1
  have e1 : insP (some []) [97] = some [some [97]] := by decide
  have e2 : insE (some []) [97] = 0 := by decide
  have e3 : insK (some []) [97] = 0 := by decide
  rw [e1, e2, e3] at C1
  clear hP hP2 hr2 b1 A2 hg e1 e2 e3
  go_wp2_with fail
  refine C1.mono ?_
  rintro e w3 ⟨v, rfl, ⟨gp, rfl, hgp, hP3⟩, b3⟩
  clear C1
  have hB3 := hB2.trans (b3.mono hB2.size)
  have hR3 := hP3.page fits_a
  have hT3 := hT.later hB3 hT.pos
  have CG := get_any _ _ _ _ 0 w3 hT3 hR3
  rw [pg_a] at CG
  have e4 : getS (some [some [97]]) 0 = some [97] := by decide
  rw [e4] at CG
  clear hB2 b3 hgp hP3 e4
  go_wp2_with fail
  refine CG.mono ?_
  rintro e w4 ⟨ag, cg, rfl, hO4, b4⟩
  clear CG
  obtain ⟨ao4, cap4, hv4, hR4, _⟩ := hO4.rd
  cases hv4
  have q4 := run_string_of (P := Tryd.prog) 22 9 5 Tryd.underlying22 Tryd.underlying5 Tryd.underlying9 hR4
  have hB4 := hB3.trans (b4.mono hB3.size)
  have CM := roomN_any _ _ _ _ w4 (hT3.later b4 hT3.pos) (hR3.later b4)
  have CL := fun W (h : Below w4.heap.size w4 W) => slotsN_any _ _ _ _ W ((hT3.later b4 hT3.pos).later h (hT3.later b4 hT3.pos).pos) ((hR3.later b4).later h)
  have CI := fun W (h : Below w4.heap.size w4 W) => right_any _ _ _ _ W ((hT3.later b4 hT3.pos).later h (hT3.later b4 hT3.pos).pos) ((hR3.later b4).later h)
  rw [pg_a] at CM
  simp only [pg_a] at CL CI
  clear hO4
  go_wp2_with (go_at_call 24; refine (num_any _ _).mono ?_; rintro e w' ⟨rfl, rfl⟩)
  refine CM.mono ?_
  rintro e w5 ⟨rfl, b5⟩
  have eM : roomP (some [some [97]]) = 497 := by decide
  rw [eM]
  clear eM CM
  go_wp2_with fail
  refine (CL w5 b5).mono ?_
  rintro e w6 ⟨rfl, b6⟩
  go_wp2_with fail
  refine (CI w6 (b5.trans (b6.mono b5.size))).mono ?_
  rintro e w7 ⟨rfl, b7⟩
  have b57 := (b5.trans (b6.mono b5.size)).trans (b7.mono (Nat.le_trans b5.size b6.size))
  go_wp2
  go_ret
  exact ⟨rfl, hB4.trans (b57.mono hB4.size)⟩
end Go.Proofs.YtaghbkjjindjfaaDoor
