/-
  The contracts of pages' write, load, and of torn.
-/
import Derived.Test.YtecgjfghofpjcaaDkN
import Derived.Deep.Cut
namespace Go.Proofs.Ytecgjfghofpjcaa
open Go.RowKit Go.Maps

def put (f : Pf) (x : Int) (r : List UInt8) : Pf := fun y => if y = x then some r else f y

set_option maxRecDepth 20000 in
set_option maxHeartbeats 1000000 in
theorem pwrite_any (P mo mf no nf : Nat) (count : Int) (old fresh : Pf) (page : Int) (hpage : wf64 page) (r : List UInt8) (hr : r.length = 512) (w : World) (h : Pg w P mo mf no nf count old fresh) (hn : nf < 9223372036854775807) :
    Calls Try.prog 51 #[.pointer (some ⟨P, 0, none⟩), .int .i64 page, .agg (bv r).toArray] w fun e w' => (∃ v, e = .returned v) ∧ Pg w' P mo mf no (nf + 1) count old (put fresh page r) ∧ Chg (fun k => k = mf) w w' := by
  have hPl := bl_lt h.b
  have b1 : Below w.heap.size w (w.alloc (.cells (bv r).toArray 80)) := (Below.refl _ _).alloc (Nat.le_refl _) _
  have h1 := h.kept (b1.block P hPl) (b1.block mo h.o.lt) (b1.block mf h.f.lt)
  have hN := heap_alloc_new w (.cells (bv r).toArray 80)
  have hra : (w.alloc (.cells (bv r).toArray 80)).rangeAt w.heap.size 0 (bv r) := fun j v hv => bl_cell hN (0 + j) v (by rw [Nat.zero_add]; simpa using hv)
  have c2 : (w.alloc (.cells (bv r).toArray 80)).cell? ⟨P, 2, none⟩ = some (.map (some mf)) := bl_cell h1.b 2 _ rfl
  obtain ⟨W1, hW1⟩ : ∃ W1, W1 = w.alloc (.cells (bv r).toArray 80) := ⟨_, rfl⟩
  rw [← hW1] at h1 hra c2 b1
  obtain ⟨W2, hrun, hM, hg⟩ := MO.store (W := W1.drew) h1.f hn page hpage r hr
  have hmP : mf ≠ P := h1.f.ne h1.b
  have hmN : mf ≠ w.heap.size := by have := h.f.lt; omega
  have c2' : W2.cell? ⟨P, 2, none⟩ = some (.map (some mf)) := (chg_of_grown hg).cell (fun e => hmP (Option.some.inj e).symm) c2
  have hra' : W2.rangeAt w.heap.size 0 (bv r) := fun j v hv => (chg_of_grown hg).cell (fun e => hmN (Option.some.inj e).symm) (hra j v hv)
  have hb5 : (bv r).length = 512 := by rw [bv_length, hr]
  have ulen : (Try.prog.info? 80).map (·.size) = some (bv r).length := by rw [hb5]; exact cont_size
  have hag : ∀ W, W.rangeAt w.heap.size 0 (bv r) → (Instr.loadAt 80 (.pointer (some ⟨w.heap.size, 0, none⟩))).run Try.prog W = .ok (.agg (bv r).toArray) W := fun W hW => run_loadC W w.heap.size r hr hW
  have FIN : Hid (Pg W2 P mo mf no (nf + 1) count old (put fresh page r) ∧ Chg (fun k => k = mf) w W2) := by
    refine ⟨⟨(hg.block P (bl_lt h1.b) (fun e => hmP (Option.some.inj e).symm)).trans h1.b, h1.o.later (hg.block mo h1.o.lt (fun e => h1.ne (Option.some.inj e))), hM, h1.ne⟩, ?_⟩
    have hc : Chg (fun k => k = mf) W1 W2 := (chg_of_grown (w := W1.drew) hg).mono (fun k _ e => Option.some.inj e) |> fun q => ⟨q.os, q.tape, q.output, q.size, q.block⟩
    exact (chg_of_below (S := fun _ => False) b1).trans hc (fun _ _ e => e.elim) (fun _ _ e => e)
  have HR : Hid (W1.rangeAt w.heap.size 0 (bv r) ∧ W2.rangeAt w.heap.size 0 (bv r)) := ⟨hra, hra'⟩
  have u74 := Try.underlying80
  have hoc := bv_cell r
  clear h h1 hN hra hra' hM hg b1
  go_enter Try.func51, Try.ntmps51
  go_wp2
  rw [← hW1]
  clear hW1
  go_region_held2 (fun W => W.cell? ⟨P, 2, none⟩ = some (.map (some mf)) ∧ W.rangeAt w.heap.size 0 (bv r)) (first | exact ⟨c2, HR.out.1⟩ | exact ⟨c2', HR.out.2⟩) (fail)
  go_end0
  exact ⟨⟨_, rfl⟩, FIN.out⟩

/-- A content goes into a block of its own. -/
theorem store_block (W : World) (b : Nat) (cs : Array Value) (hb : W.heap[b]? = some (.cells cs 80 (0, 0))) (hs : cs.size = 512) (r : List UInt8) (hr : r.length = 512) :
    (storeCells ⟨b, 0, none⟩ (bv r)).run Try.prog W = .ok () (W.setRow b (bv r).toArray) ∧ (W.setRow b (bv r).toArray).heap[b]? = some (.cells (bv r).toArray 80 (0, 0)) ∧ Chg (fun k => k = b) W (W.setRow b (bv r).toArray) := by
  have hst := run_storeCells_at Try.prog b 0 80 (bv r) 0 cs W hb (by rw [bv_length]; omega) (bv_cell r)
  have e : (cs.toList.take 0 ++ bv r ++ cs.toList.drop (0 + (bv r).length)).toArray = (bv r).toArray := by
    rw [List.take_zero, List.nil_append, bv_length, hr, List.drop_eq_nil_of_le (by simp; omega), List.append_nil]
  simp only [Nat.add_zero] at hst
  rw [e] at hst
  exact ⟨hst, setRow_heap W b cs _ 80 _ hb, ⟨rfl, rfl, rfl, by simp, fun k _ hk => setRow_other W b k _ hk⟩⟩

theorem range_block {W : World} {b : Nat} {r : List UInt8} (hb : W.heap[b]? = some (.cells (bv r).toArray 80 (0, 0))) : W.rangeAt b 0 (bv r) := fun j v hv => bl_cell hb (0 + j) v (by rw [Nat.zero_add]; simpa using hv)

theorem zc_size : Try.zeroCells80.size = 512 := by kernel_rfl

set_option maxRecDepth 20000 in
set_option maxHeartbeats 2000000 in
theorem pload_any (P mo mf no nf : Nat) (count : Int) (old fresh : Pf) (page : Int) (hpage : wf64 page) (w : World) (h : Pg w P mo mf no nf count old fresh) :
    Calls Try.prog 53 #[.pointer (some ⟨P, 0, none⟩), .int .i64 page] w fun e w' => e = .returned (.agg (bv ((over fresh old page).getD z512)).toArray) ∧ Below w.heap.size w w' := by
  obtain ⟨W1, hW1⟩ : ∃ W1, W1 = w.alloc (.cells Try.zeroCells80 80) := ⟨_, rfl⟩
  have b1 : Below w.heap.size w W1 := by rw [hW1]; exact (Below.refl _ _).alloc (Nat.le_refl _) _
  have hN1 : W1.heap[w.heap.size]? = some (.cells Try.zeroCells80 80 (0, 0)) := by rw [hW1]; exact heap_alloc_new w _
  have s1 : W1.heap.size = w.heap.size + 1 := by rw [hW1]; simp
  have h1 := h.kept (b1.block P (bl_lt h.b)) (b1.block mo h.o.lt) (b1.block mf h.f.lt)
  have c1 : W1.cell? ⟨P, 2, none⟩ = some (.map (some mf)) := bl_cell h1.b 2 _ rfl
  have L1 := h1.f.look page hpage
  obtain ⟨rf, hrf⟩ : ∃ rf, rf = (fresh page).getD z512 := ⟨_, rfl⟩
  have hrl : rf.length = 512 := by
    rw [hrf]
    cases hfp : fresh page with
    | none => exact z512_len
    | some x => exact h.f.1 page x hfp
  rw [← hrf] at L1
  obtain ⟨W2, hW2⟩ : ∃ W2, W2 = W1.alloc (.cells Try.zeroCells80 80) := ⟨_, rfl⟩
  have b2 : Below W1.heap.size W1 W2 := by rw [hW2]; exact (Below.refl _ _).alloc (Nat.le_refl _) _
  have hN2 : W2.heap[W1.heap.size]? = some (.cells Try.zeroCells80 80 (0, 0)) := by rw [hW2]; exact heap_alloc_new W1 _
  obtain ⟨hst, hb3, hC3⟩ := store_block W2 W1.heap.size _ hN2 zc_size rf hrl
  obtain ⟨W3, hW3⟩ : ∃ W3, W3 = W2.setRow W1.heap.size (bv rf).toArray := ⟨_, rfl⟩
  rw [← hW3] at hst hb3 hC3
  have b3 : Below W1.heap.size W1 W3 := b2.trans (hC3.below b2.size (fun k e => by omega))
  have hN3 : W3.heap[w.heap.size]? = some (.cells Try.zeroCells80 80 (0, 0)) := (b3.block _ (by omega)).trans hN1
  have h3 := h1.kept (b3.block P (bl_lt h1.b)) (b3.block mo h1.o.lt) (b3.block mf h1.f.lt)
  have c3 : W3.cell? ⟨P, 1, none⟩ = some (.map (some mo)) := bl_cell h3.b 1 _ rfl
  have L3 := h3.o.look1 page hpage
  have hbl : (bv rf).length = 512 := by rw [bv_length, hrl]
  have HRA : Hid (W3.rangeAt W1.heap.size 0 (bv rf)) := range_block hb3
  have HL : Hid (PfOk old) := h.o.1
  have bw3 : Below w.heap.size w W3 := b1.trans (b3.mono b1.size)
  cases hfp : fresh page with
  | some x =>
    obtain rfl : rf = x := by rw [hrf, hfp]; rfl
    have eo : (over fresh old page).getD z512 = rf := by unfold over; rw [hfp]; rfl
    rw [eo]
    obtain ⟨hst4, hb4, hC4⟩ := store_block W3 w.heap.size _ hN3 zc_size rf hrl
    rw [hfp] at L1
    have FIN : Hid (Below w.heap.size w (W3.setRow w.heap.size (bv rf).toArray)) := bw3.trans (hC4.below bw3.size (fun k e => by omega))
    rw [hW2] at hst
    clear hW2 hW3 h h1 h3 hN1 hN2 hN3 hb3 hC3 hC4 b1 b2 b3 bw3 hrf eo L3 c3 hfp HL
    go_enter Try.func53, Try.ntmps53
    go_upto_region 1 with fail
    rw [← hW1]
    clear hW1 s1
    go_wp2
    refine wp_load_mid 80 _ rfl _ 0 rfl (bv rf) _ HRA.out Try.underlying80 rfl (by rw [hbl]; exact cont_size) ?_
    go_wp2
    refine bodyPost_ret (results_cell_row rfl _ _ w.heap.size 80 _ (0, 0) _ rfl hb4 Try.underlying80 rfl (by rw [show (bv rf).toArray.size = 512 by simpa using hbl]; exact cont_size)) rfl ?_
    exact ⟨rfl, FIN.out⟩
  | none =>
    have e5 : ((over fresh old page).getD z512) = (old page).getD z512 := by unfold over; rw [hfp]
    rw [e5]
    obtain ⟨ro, hro⟩ : ∃ ro, ro = (old page).getD z512 := ⟨_, rfl⟩
    have hrol : ro.length = 512 := by
      rw [hro]
      cases hop : old page with
      | none => exact z512_len
      | some x => exact HL.out page x hop
    rw [← hro] at L3
    rw [← hro]
    obtain ⟨hst4, hb4, hC4⟩ := store_block W3 w.heap.size _ hN3 zc_size ro hrol
    rw [hfp] at L1
    have hbl2 : (bv ro).length = 512 := by rw [bv_length, hrol]
    have FIN : Hid (Below w.heap.size w (W3.setRow w.heap.size (bv ro).toArray)) := bw3.trans (hC4.below bw3.size (fun k e => by omega))
    rw [hW2] at hst
    clear hW2 hW3 h h1 h3 hN1 hN2 hN3 hb3 hC3 hC4 b1 b2 b3 bw3 hrf e5 hfp HL hro
    go_enter Try.func53, Try.ntmps53
    go_upto_region 1 with fail
    rw [← hW1]
    clear hW1 s1
    go_wp2
    refine bodyPost_ret (results_cell_row rfl _ _ w.heap.size 80 _ (0, 0) _ rfl hb4 Try.underlying80 rfl (by rw [show (bv ro).toArray.size = 512 by simpa using hbl2]; exact cont_size)) rfl ?_
    exact ⟨rfl, FIN.out⟩
end Go.Proofs.Ytecgjfghofpjcaa
