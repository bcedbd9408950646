/-
  A tree whose root is a leaf: Put, Next, Delete, Len.
-/
import Derived.Test.YtmdembfnpmlmaaaTnC
namespace Go.Proofs.Ytmdembfnpmlmaaa
open Go.RowKit Go.Lib

set_option maxRecDepth 20000 in
set_option maxHeartbeats 2000000 in
theorem bput_leaf (N T B b : Nat) (sa : Option Addr) (c : Nat) (es : List Ent) (key : ByteArray) (n : Int) (i : Nat) (w : World) (h : TL w N T B b sa c es) (hs : Srt es) (hn : es.length ≤ 6) (hlow : ∀ j, Low es key j → j = i) (hi : i ≤ es.length) (hnew : thereK es key i = false) (hN : N ≤ w.heap.size) :
    Calls Try.prog 30 #[.pointer (some ⟨B, 0, none⟩), .string key, .int .i64 n] w fun e w' => e = .returned (.tuple #[.int .i64 0, .bool false]) ∧ ∃ sa' c', TL w' N T B b sa' c' (es.take i ++ (key, n) :: es.drop i) ∧ Below N w w' := by
  have c0 := blk_cell h.p 0 (.pointer (some ⟨b, 0, none⟩)) rfl
  have CP := nput_leaf b N sa c es key n i w h.n h.o hs hn hlow hi hnew hN
  obtain ⟨m, hm⟩ : ∃ m, m = es.length := ⟨_, rfl⟩
  have H : Hid (TL w N T B b sa c es ∧ es.length ≤ 6 ∧ i ≤ es.length ∧ N ≤ w.heap.size ∧ es.length = m) := ⟨h, hn, hi, hN, hm.symm⟩
  clear h hs hn hlow hi hnew hN hm
  go_enter Try.func30, Try.ntmps30
  go_wp2_with fail
  refine CP.mono ?_
  rintro e w3 ⟨rfl, s3, c3, n3, o3, hC3⟩
  have q := H.out.1
  have hTb : T ≠ b := ne_types q.t (show w.heap[b]? = _ from q.n) (by decide)
  have hBb : B ≠ b := ne_types q.p (show w.heap[b]? = _ from q.n) (by decide)
  have hTB : T ≠ B := ne_types q.t q.p (by decide)
  have hTg : ¬ (some T = (Value.slice sa es.length c).ownBlock) := fun e => by obtain ⟨cur, hcur⟩ := row_type q.o e.symm; exact ne_types hcur q.t (by decide) rfl
  have hBg : ¬ (some B = (Value.slice sa es.length c).ownBlock) := fun e => by obtain ⟨cur, hcur⟩ := row_type q.o e.symm; exact ne_types hcur q.p (by decide) rfl
  have p3 := (hC3.block B (lt_of_some q.p) (fun e => e.elim hBb hBg)).trans q.p
  have t3 := (hC3.block T (lt_of_some q.t) (fun e => e.elim hTb hTg)).trans q.t
  rw [H.out.2.2.2.2] at p3 n3 o3
  have r0 := blk_cell p3 0 (.pointer (some ⟨b, 0, none⟩)) rfl
  have r1 := blk_cell p3 1 (.int .i64 (m : Int)) rfl
  have rf := blk_open p3 1
  have q0 := n3.c0
  have hm7 : ¬ ((m : Int) + 1) > 7 := by have := H.out.2.1; have := H.out.2.2.2.2; omega
  have hm8 : ¬ (((m + 1 : Nat) : Int)) > 7 := by have := H.out.2.1; have := H.out.2.2.2.2; omega
  have hm9 : ¬ 7 < m + 1 := by omega
  have hmw : IntKind.i64.wrap ((m : Int) + 1) = ((m + 1 : Nat) : Int) := by have := H.out.2.1; have := H.out.2.2.2.2; rw [IntKind.wrap_i64]; omega
  have hC4 := cg_set w3 B 1 (.int .i64 ((m + 1 : Nat) : Int))
  have FIN : Hid (TL (w3.setCell ⟨B, 1, none⟩ (.int .i64 ((m + 1 : Nat) : Int))) N T B b s3 c3 (es.take i ++ (key, n) :: es.drop i) ∧ Below N w (w3.setCell ⟨B, 1, none⟩ (.int .i64 ((m + 1 : Nat) : Int)))) := by
    have hl : (es.take i ++ (key, n) :: es.drop i).length = m + 1 := by rw [mid_len es (key, n) i H.out.2.2.1, H.out.2.2.2.2]
    refine ⟨⟨(hC4.block T (lt_of_some t3) hTB).trans t3, ?_, ?_, ?_, q.l⟩, ?_⟩
    · rw [hl]; exact heap_set w3 B 1 _ _ _ p3
    · rw [hl]; exact n3.kept (hC4.block b n3.lt (fun e => hBb e.symm))
    · rw [hl]
      refine own_kept o3 (fun g e => hC4.block g (World.ownsRow.lt o3 g e).2 (fun e2 => ?_))
      obtain ⟨cur, hcur⟩ := row_type o3 e
      exact ne_types hcur p3 (by decide) e2
    · refine (hC3.below H.out.2.2.2.1 (fun k e => ?_)).trans (hC4.below (Nat.le_trans H.out.2.2.2.1 hC3.size) (fun k (e : k = B) => by rw [e]; exact q.l.2.1))
      rcases e with e | e
      · rw [e]; exact q.l.2.2
      · exact (World.ownsRow.lt q.o k e.symm).1
  clear CP n3 o3 hC3 p3 t3 hC4 q hTb hBb hTB hTg hBg c0
  go_wp2
  go_ret2
  first | exact ⟨rfl, s3, c3, FIN.out⟩ | exact ⟨rfl, s3, ⟨c3, FIN.out.1⟩, FIN.out.2⟩

set_option maxRecDepth 20000 in
set_option maxHeartbeats 2000000 in
/-- Put, over what the balanced tree's put does. -/
theorem Put_of (N T B : Nat) (key : ByteArray) (n : Int) (w : World) (hk : key.size ≤ 140737488351232) (ht : w.heap[T]? = some (.cells #[.pointer (some ⟨B, 0, none⟩)] 49 (0, 0))) (R : World → Prop) (hR : ∀ W, R W → W.cell? ⟨T, 0, none⟩ = some (.pointer (some ⟨B, 0, none⟩)) ∧ Below N w W)
    (CB : ∀ W, Below w.heap.size w W → Calls Try.prog 30 #[.pointer (some ⟨B, 0, none⟩), .string key, .int .i64 n] W fun e w' => e = .returned (.tuple #[.int .i64 0, .bool false]) ∧ R w') :
    Calls Try.prog 14 #[.pointer (some ⟨T, 0, none⟩), .string key, .int .i64 n] w fun e w' => e = .returned (.tuple #[.int .i64 0, .bool false]) ∧ R w' := by
  have CW := wasMade_any T B w ht
  have c0 := blk_cell ht 0 (.pointer (some ⟨B, 0, none⟩)) rfl
  have c0d : w.drew.cell? ⟨T, 0, none⟩ = some (.pointer (some ⟨B, 0, none⟩)) := c0
  have HT : Hid (T < w.heap.size) := lt_of_some ht
  have HK : Hid (key.size ≤ 140737488351232) := hk
  have HR : Hid (∀ W, R W → W.cell? ⟨T, 0, none⟩ = some (.pointer (some ⟨B, 0, none⟩)) ∧ Below N w W) := hR
  clear ht hk hR
  go_enter Try.func14, Try.ntmps14
  go_upto_region 3 with (go_at_call 27; refine CW.mono ?_; rintro e w' ⟨rfl, hw⟩; obtain rfl : w = w' := hw.symm)
  go_region_held2 (fun W => W.cell? ⟨T, 0, none⟩ = some (.pointer (some ⟨B, 0, none⟩)))
    (first | exact c0d | exact (bC.cell (p := ⟨T, 0, none⟩) HT.out).trans c0d | exact (HR.out _ hRW).1)
    (first
      | (go_at_call 31; refine (clone_any key _ HK.out).mono ?_; rintro e w2 ⟨rfl, bC⟩)
      | (go_at_call 30; refine (CB w2 ⟨bC.os, bC.tape, bC.output, bC.size, bC.block⟩).mono ?_; rintro e w3 ⟨rfl, hRW⟩))
  all_goals
    go_wp2
    go_ret2
    exact ⟨rfl, hRW⟩

theorem results_cell1 {fn : Func} {p : Tmp} {ty : TypeId} (h : fn.results = #[.cell p ty]) (tmps : Array Value) (P : Program) (w : World) :
    (results fn tmps).run P w = ((asAddr (tmps.getD p undef)).run P w).andThen fun a w₁ => (loadVar ty a).run P w₁ := by
  simp only [results, h]
  simp [Sem.run_bind, Result.andThen]

set_option maxRecDepth 20000 in
set_option maxHeartbeats 2000000 in
theorem pairOf_any (key : ByteArray) (n : Int) (w : World) (hk : key.size ≤ 140737488351232) :
    Calls Try.prog 29 #[.agg #[.string key, .int .i64 n]] w fun e w' => e = .returned (.agg #[.string key, .int .i64 n]) ∧ Below w.heap.size w w' := by
  obtain ⟨W2, hW2⟩ : ∃ W2, W2 = (w.alloc (.cells #[.string key, .int .i64 n] 65)).alloc (.cells #[.string ⟨#[]⟩, .int .i64 0] 42) := ⟨_, rfl⟩
  have s1 : (w.alloc (.cells #[.string key, .int .i64 n] 65)).heap.size = w.heap.size + 1 := by simp
  have b2 : Below w.heap.size w W2 := by rw [hW2]; exact ((Below.refl _ w).alloc (Nat.le_refl _) _).alloc (by rw [s1]; omega) _
  have hA : W2.heap[w.heap.size]? = some (.cells #[.string key, .int .i64 n] 65 (0, 0)) := by rw [hW2]; exact (Below.heap_alloc _ _ _ (by rw [s1]; omega)).trans (heap_alloc_new w _)
  have hP : W2.heap[w.heap.size + 1]? = some (.cells #[.string ⟨#[]⟩, .int .i64 0] 42 (0, 0)) := by
    have h := heap_alloc_new (w.alloc (.cells #[.string key, .int .i64 n] 65)) (.cells #[.string ⟨#[]⟩, .int .i64 0] 42)
    rw [s1] at h
    rw [hW2]; exact h
  have a0 : W2.drew.cell? ⟨w.heap.size, 0, none⟩ = some (.string key) := blk_cell hA 0 (.string key) rfl
  have a1 : W2.drew.cell? ⟨w.heap.size, 1, none⟩ = some (.int .i64 n) := blk_cell hA 1 (.int .i64 n) rfl
  obtain ⟨x, hx⟩ : ∃ x, x = w.heap.size := ⟨_, rfl⟩
  obtain ⟨y, hy⟩ : ∃ y, y = w.heap.size + 1 := ⟨_, rfl⟩
  rw [← hx] at a0 a1 hA
  rw [← hy] at hP
  have HP : Hid (W2.heap[y]? = some (.cells #[.string ⟨#[]⟩, .int .i64 0] 42 (0, 0)) ∧ Below w.heap.size w W2 ∧ x < W2.heap.size ∧ x ≠ y ∧ w.heap.size ≤ y) := ⟨hP, b2, lt_of_some hA, by omega, by omega⟩
  have HK : Hid (key.size ≤ 140737488351232) := hk
  have HW : Hid ((w.alloc (.cells #[.string key, .int .i64 n] 65)).alloc (.cells #[.string ⟨#[]⟩, .int .i64 0] 42) = W2 ∧ w.heap.size = x ∧ x + 1 = y) := ⟨hW2.symm, hx.symm, by omega⟩
  have ea : ∀ W, Below W2.drew.heap.size W2.drew W → W.cell? ⟨x, 0, none⟩ = some (.string key) ∧ W.cell? ⟨x, 1, none⟩ = some (.int .i64 n) := fun W hW => ⟨(hW.cell (p := ⟨x, 0, none⟩) HP.out.2.2.1).trans a0, (hW.cell (p := ⟨x, 1, none⟩) HP.out.2.2.1).trans a1⟩
  have HE : Hid (∀ W, Below W2.drew.heap.size W2.drew W → W.cell? ⟨x, 0, none⟩ = some (.string key) ∧ W.cell? ⟨x, 1, none⟩ = some (.int .i64 n)) := ea
  clear hW2 s1 b2 hA hP hx hy hk ea
  go_enter Try.func29, Try.ntmps29
  go_upto_region 1 with fail
  rw [HW.out.1, HW.out.2.1, HW.out.2.2]
  clear HW
  go_region_held2 (fun W => W.cell? ⟨x, 0, none⟩ = some (.string key) ∧ W.cell? ⟨x, 1, none⟩ = some (.int .i64 n))
    (first | exact HE.out _ (Below.refl _ _) | exact HE.out _ bC | exact hXS)
    (first
      | (go_at_call 31; refine (clone_any key _ HK.out).mono ?_; rintro e w2 ⟨rfl, bC⟩; have hy2 : w2.heap[y]? = some (.cells #[.string ⟨#[]⟩, .int .i64 0] 42 (0, 0)) := (bC.block y (lt_of_some HP.out.1)).trans HP.out.1; have f0 := blk_open hy2 0; have y0 := blk_cell hy2 0 (.string ⟨#[]⟩) rfl; have hs0 := heap_set w2 y 0 _ _ (.string key) hy2; have f1 : (w2.setCell ⟨y, 0, none⟩ (.string key)).frozen? ⟨y, 1, none⟩ = false := blk_open hs0 1; have y1 : (w2.setCell ⟨y, 0, none⟩ (.string key)).cell? ⟨y, 1, none⟩ = some (.int .i64 0) := blk_cell hs0 1 (.int .i64 0) rfl; have hXS : ((w2.setCell ⟨y, 0, none⟩ (.string key)).setCell ⟨y, 1, none⟩ (.int .i64 n)).cell? ⟨x, 0, none⟩ = some (.string key) ∧ ((w2.setCell ⟨y, 0, none⟩ (.string key)).setCell ⟨y, 1, none⟩ (.int .i64 n)).cell? ⟨x, 1, none⟩ = some (.int .i64 n) := (fun hC => ⟨hC.cell HP.out.2.2.2.1 (HE.out _ bC).1, hC.cell HP.out.2.2.2.1 (HE.out _ bC).2⟩) ((cg_set w2 y 0 (.string key)).trans (cg_set _ y 1 (.int .i64 n)) (fun _ e => e) (fun _ _ e => e))))
  all_goals
    go_wp2
    have z0 : ((w2.setCell ⟨y, 0, none⟩ (.string key)).setCell ⟨y, 1, none⟩ (.int .i64 n)).cell? ⟨y, 0, none⟩ = some (.string key) := blk_cell (heap_set _ y 1 _ _ (.int .i64 n) hs0) 0 (.string key) rfl
    have z1 : ((w2.setCell ⟨y, 0, none⟩ (.string key)).setCell ⟨y, 1, none⟩ (.int .i64 n)).cell? ⟨y, 1, none⟩ = some (.int .i64 n) := blk_cell (heap_set _ y 1 _ _ (.int .i64 n) hs0) 1 (.int .i64 n) rfl
    refine bodyPost_ret (v := .agg #[.string key, .int .i64 n]) ?_ rfl ?_
    · rw [results_cell1 rfl]
      go_simp
    · have b3 : Below w.heap.size w w2 := HP.out.2.1.trans (Below.mono (w := W2) ⟨bC.os, bC.tape, bC.output, bC.size, bC.block⟩ HP.out.2.1.size)
      exact ⟨rfl, b3.trans (((cg_set w2 y 0 (.string key)).trans (cg_set _ y 1 (.int .i64 n)) (fun _ e => e) (fun _ _ e => e)).below b3.size (fun k (e : k = y) => by rw [e]; exact HP.out.2.2.2.2))⟩
end Go.Proofs.Ytmdembfnpmlmaaa
