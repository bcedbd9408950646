/-
  The contracts of torn, and of the pages' crash.
-/
import Derived.Test.YtecgjfghofpjcaaDkE
import Derived.Deep.Cut
import Derived.Deep.CutRange
namespace Go.Proofs.Ytecgjfghofpjcaa
open Go.RowKit Go.Maps

def f512 : List UInt8 := List.replicate 512 255

theorem f512_len : f512.length = 512 := List.length_replicate

set_option maxRecDepth 20000 in
set_option maxHeartbeats 2000000 in
theorem torn_any (w : World) : Calls Try.prog 58 #[] w fun e w' => e = .returned (.agg (bv f512).toArray) ∧ Below w.heap.size w w' := by
  have hfx : ∃ ff : List UInt8, ff = f512 ∧ ff.length = 512 ∧ ∀ j, j < 512 → ff[j]? = some 255 := ⟨f512, rfl, f512_len, fun j hj => by unfold f512; rw [List.getElem?_replicate, if_pos hj]⟩
  obtain ⟨ff, hff, hfl, hfa⟩ := hfx
  rw [← hff]
  have HFA : Hid (ff.length = 512 ∧ ∀ j, j < 512 → ff[j]? = some 255) := ⟨hfl, hfa⟩
  clear hff hfl hfa
  obtain ⟨W1, hW1⟩ : ∃ W1, W1 = w.alloc (.cells Try.zeroCells80 80) := ⟨_, rfl⟩
  have b1 : Below w.heap.size w W1 := by rw [hW1]; exact (Below.refl _ _).alloc (Nat.le_refl _) _
  have hN1 : W1.heap[w.heap.size]? = some (.cells Try.zeroCells80 80 (0, 0)) := by rw [hW1]; exact heap_alloc_new w _
  have s1 : W1.heap.size = w.heap.size + 1 := by rw [hW1]; simp
  obtain ⟨W2, hW2⟩ : ∃ W2, W2 = W1.alloc (.cells Try.zeroCells80 80) := ⟨_, rfl⟩
  have b2 : Below W1.heap.size W1 W2 := by rw [hW2]; exact (Below.refl _ _).alloc (Nat.le_refl _) _
  have hN2 : W2.heap[W1.heap.size]? = some (.cells Try.zeroCells80 80 (0, 0)) := by rw [hW2]; exact heap_alloc_new W1 _
  have hN12 : W2.heap[w.heap.size]? = some (.cells Try.zeroCells80 80 (0, 0)) := (b2.block _ (by omega)).trans hN1
  have bw2 : Below w.heap.size w W2 := b1.trans (b2.mono b1.size)
  have sw : w.heap.size < W1.heap.size := by omega
  have HZ : Hid (Try.zeroCells80.size = 512) := zc_size
  go_enter Try.func58, Try.ntmps58
  go_upto_region 2 with fail
  rw [← hW1, ← hW2]
  rw [s1] at hN2
  clear hN1 s1 b1 b2 hW1 hW2 sw
  go_wp2
  go_loopw [3] (fun s3 wr => ∃ (i : Nat) (cs : Array Value), i ≤ 512 ∧ s3 = .int .i64 (i : Int) ∧ Hid (wr.heap[w.heap.size + 1]? = some (.cells cs 80 (0, 0)) ∧ cs.size = 512 ∧ (∀ j, j < i → cs[j]? = some (.int .u8 255)) ∧ wr.heap[w.heap.size]? = some (.cells Try.zeroCells80 80 (0, 0)) ∧ Below w.heap.size w wr))
    (fun i _ => 512 - (intOf i).toNat)
  case atStart => exact ⟨0, _, by omega, rfl, hN2, HZ.out, fun j hj => by omega, hN12, bw2⟩
  case round =>
    obtain ⟨i, cs, hi, rfl, hH⟩ := hrel
    obtain ⟨q1, q2, q3, q4, q5⟩ := hH.out
    by_cases hlt : i < 512
    · have hlt' : (i : Int) < 512 := by omega
      obtain ⟨cv, c0⟩ : ∃ cv, wr.cell? ⟨w.heap.size + 1, i, none⟩ = some cv := ⟨cs[i]'(by omega), bl_cell q1 i _ (Array.getElem?_eq_getElem (by omega))⟩
      have f0 := bl_open q1 i
      clear q1 q2 q3 q4 q5
      go_wp2
      have hw : IntKind.i64.wrap ((i : Int) + 1) = ((i + 1 : Nat) : Int) := by rw [IntKind.wrap_i64]; omega
      go_roundw
      case rel =>
        obtain ⟨q1, q2, q3, q4, q5⟩ := hH.out
        refine ⟨i + 1, _, by omega, by first | rfl | (congr 1) | skip, bl_set q1 i _, by simpa using q2, fun j hj => ?_, (Below.heap_setCell _ _ _ _ (show w.heap.size ≠ w.heap.size + 1 by omega)).trans q4, ?_⟩
        · rw [Array.getElem?_setIfInBounds]
          by_cases e : i = j
          · subst e; rw [if_pos rfl, if_pos (by omega)]
          · rw [if_neg e]; exact q3 j (by omega)
        · have hc := chg_set wr (w.heap.size + 1) i (.int .u8 255)
          have hsz := q5.size
          exact ⟨hc.os.trans q5.os, hc.tape.trans q5.tape, hc.output.trans q5.output, Nat.le_trans q5.size hc.size, fun k hk => (hc.block k (by omega) (by omega)).trans (q5.block k hk)⟩
      case measure =>
        show 512 - ((i : Int) + 1).toNat < 512 - ((i : Int)).toNat
        omega
    · obtain rfl : i = 512 := by omega
      have hnl : ¬ ((512 : Nat) : Int) < 512 := by omega
      have ecs : cs = (bv ff).toArray := by
        apply Array.ext_getElem?
        intro j
        by_cases hj : j < 512
        · rw [q3 j hj]
          have := HFA.out.2 j hj
          simp [bv, this]
        · rw [Array.getElem?_eq_none (by omega), Array.getElem?_eq_none (by simp [bv_length, HFA.out.1]; omega)]
      subst ecs
      have hra := range_block q1
      obtain ⟨hst, hb4, hC4⟩ := store_block wr w.heap.size _ q4 zc_size ff HFA.out.1
      have hbl : (bv ff).length = 512 := by rw [bv_length, HFA.out.1]
      have FIN : Hid (Below w.heap.size w (wr.setRow w.heap.size (bv ff).toArray)) := q5.trans (hC4.below q5.size (fun k e => by omega))
      have HRA : Hid (wr.rangeAt (w.heap.size + 1) 0 (bv ff)) := hra
      clear q1 q2 q3 q4 q5 hC4 hra
      go_wp2
      refine wp_load_mid 80 _ rfl _ 0 rfl (bv ff) _ HRA.out Try.underlying80 rfl (by rw [hbl]; exact cont_size) ?_
      go_wp2
      refine bodyPost_ret (results_cell_row rfl _ _ w.heap.size 80 _ (0, 0) _ rfl hb4 Try.underlying80 rfl (by rw [show (bv ff).toArray.size = 512 by simpa using hbl]; exact cont_size)) rfl ?_
      exact ⟨rfl, FIN.out⟩
end Go.Proofs.Ytecgjfghofpjcaa
