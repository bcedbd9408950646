/-
  A tree that is a leaf: the contracts of New, put, next and remove there.
-/
import Derived.Test.YtmdembfnpmlmaaaTnA
import Derived.Laws.ResultCell
import Derived.Laws.Rows
namespace Go.Proofs.Ytmdembfnpmlmaaa
open Go.RowKit Go.Lib

/-- Nothing but blocks of S has changed. -/
structure Cg (S : Nat → Prop) (w w' : World) : Prop where
  os : w'.os = w.os
  tape : w'.tape = w.tape
  output : w'.output = w.output
  size : w.heap.size ≤ w'.heap.size
  block : ∀ k, k < w.heap.size → ¬ S k → w'.heap[k]? = w.heap[k]?

theorem Cg.refl (S : Nat → Prop) (w : World) : Cg S w w := ⟨rfl, rfl, rfl, Nat.le_refl _, fun _ _ _ => rfl⟩
theorem Cg.trans {S S' T : Nat → Prop} {w w1 w2 : World} (h1 : Cg S w w1) (h2 : Cg S' w1 w2) (hS : ∀ k, S k → T k) (hS' : ∀ k, k < w.heap.size → S' k → T k) : Cg T w w2 :=
  ⟨h2.os.trans h1.os, h2.tape.trans h1.tape, h2.output.trans h1.output, Nat.le_trans h1.size h2.size, fun k hk hs => (h2.block k (Nat.lt_of_lt_of_le hk h1.size) (fun e => hs (hS' k hk e))).trans (h1.block k hk (fun e => hs (hS k e)))⟩
theorem cg_below {S : Nat → Prop} {w w' : World} (h : Below w.heap.size w w') : Cg S w w' := ⟨h.os, h.tape, h.output, h.size, fun k hk _ => h.block k hk⟩
theorem cg_grown {w w' : World} {row : Option Nat} (h : w.grownBy w' row) : Cg (fun k => some k = row) w w' := ⟨h.os, h.tape, h.output, h.size, fun k hk hs => h.block k hk hs⟩
theorem cg_set (w : World) (b i : Nat) (v : Value) : Cg (fun k => k = b) w (w.setCell ⟨b, i, none⟩ v) :=
  ⟨rfl, rfl, rfl, by simp, fun k _ hk => Below.heap_setCell _ _ _ _ hk⟩
theorem Cg.below {S : Nat → Prop} {w w' : World} (h : Cg S w w') {n : Nat} (hn : n ≤ w.heap.size) (hS : ∀ k, S k → n ≤ k) : Below n w w' :=
  ⟨h.os, h.tape, h.output, h.size, fun k hk => h.block k (Nat.lt_of_lt_of_le hk hn) (fun e => by have := hS k e; omega)⟩
theorem Cg.cell {S : Nat → Prop} {w w' : World} (h : Cg S w w') {b o : Nat} {v : Value} (hs : ¬ S b) (hc : w.cell? ⟨b, o, none⟩ = some v) : w'.cell? ⟨b, o, none⟩ = some v :=
  (World.cell?_of_block (w := w) (a := ⟨b, o, none⟩) (h.block b (World.block_lt_of_cell? w ⟨b, o, none⟩ hc) hs)).trans hc

/-- A row of one's own, as a slice. -/
theorem own_sl {w : World} {base e size n : Nat} {v : Value} {xs : List Value} (h : w.ownsRow base e size v n xs) : ∃ sa c, v = .slice sa n c := by
  rcases own_val h with ⟨rfl, rfl⟩ | ⟨g, cap, rfl, -⟩
  · exact ⟨none, 0, rfl⟩
  · exact ⟨_, _, rfl⟩

theorem mid_len (es : List Ent) (x : Ent) (i : Nat) (hi : i ≤ es.length) : (es.take i ++ x :: es.drop i).length = es.length + 1 := by
  simp; omega

set_option maxRecDepth 20000 in
set_option maxHeartbeats 2000000 in
theorem nput_leaf (b N : Nat) (sa : Option Addr) (c : Nat) (es : List Ent) (key : ByteArray) (n : Int) (i : Nat) (w : World) (h : NodeW w b (.slice sa es.length c) (.slice none 0 0)) (ho : OwE w N (.slice sa es.length c) es) (hs : Srt es) (hn : es.length ≤ 6) (hlow : ∀ j, Low es key j → j = i) (hi : i ≤ es.length) (hnew : thereK es key i = false) (hN : N ≤ w.heap.size) :
    Calls Try.prog 42 #[.pointer (some ⟨b, 0, none⟩), .string key, .int .i64 n] w fun e w' => e = .returned (.tuple #[.int .i64 0, .bool false]) ∧ ∃ sa' c', NodeW w' b (.slice sa' (es.length + 1) c') (.slice none 0 0) ∧ OwE w' N (.slice sa' (es.length + 1) c') (es.take i ++ (key, n) :: es.drop i) ∧ Cg (fun k => k = b ∨ some k = (Value.slice sa es.length c).ownBlock) w w' := by
  have C := find_any b N _ _ es key w h ho hs (by omega)
  have H : Hid (NodeW w b (.slice sa es.length c) (.slice none 0 0) ∧ OwE w N (.slice sa es.length c) es ∧ es.length ≤ 6 ∧ i ≤ es.length ∧ thereK es key i = false ∧ N ≤ w.heap.size) := ⟨h, ho, hn, hi, hnew, hN⟩
  have HL : Hid (∀ j, Low es key j → j = i) := hlow
  clear h ho hs hn hlow hi hnew hN
  go_enter Try.func42, Try.ntmps42
  go_wp2_with fail
  refine C.mono ?_
  rintro e w1 ⟨j, rfl, hl, b1⟩
  obtain rfl := HL.out j hl
  rw [H.out.2.2.2.2.1]
  have h1 : NodeW w1 b (.slice sa es.length c) (.slice none 0 0) := H.out.1.kept (b1.block b H.out.1.lt)
  have o1 : OwE w1 N (.slice sa es.length c) es := own_kept H.out.2.1 (fun g e => b1.block g (World.ownsRow.lt H.out.2.1 g e).2)
  have CL := isLeaf_any b (.slice sa es.length c) none 0 0 w1 h1
  have c0 := h1.c0
  have f0 := h1.fz 0
  obtain ⟨W2, hW2⟩ : ∃ W2, W2 = w1.alloc (.cells #[.string key, .int .i64 n] 65) := ⟨_, rfl⟩
  have b2 : Below w1.heap.size w1 W2 := by rw [hW2]; exact (Below.refl _ _).alloc (Nat.le_refl _) _
  have hV : W2.heap[w1.heap.size]? = some (.cells #[.string key, .int .i64 n] 65 (0, 0)) := by rw [hW2]; exact heap_alloc_new w1 _
  have h2 : NodeW W2 b (.slice sa es.length c) (.slice none 0 0) := h1.kept (b2.block b h1.lt)
  have o2 : OwE W2 N (.slice sa es.length c) es := own_kept o1 (fun g e => b2.block g (World.ownsRow.lt o1 g e).2)
  have hown : (Value.slice sa es.length c).ownBlock ≠ some w1.heap.size := fun e => by have := (World.ownsRow.lt o1 _ e).2; omega
  have CI := insE_any (.slice sa es.length c) es (key, n) j N w1.heap.size W2 o2 hV H.out.2.2.2.1 (by have := H.out.2.2.1; omega) (Nat.le_trans (Nat.le_trans H.out.2.2.2.2.2 b1.size) b2.size) hown
  have H2 : Hid (NodeW W2 b (.slice sa es.length c) (.slice none 0 0) ∧ OwE W2 N (.slice sa es.length c) es ∧ Below w.heap.size w W2 ∧ (Value.slice sa es.length c).ownBlock ≠ some b) := by
    refine ⟨h2, o2, b1.trans (b2.mono b1.size), fun e => ?_⟩
    obtain ⟨g, cap, e1, e2⟩ : ∃ g cap, Value.slice sa es.length c = .slice (some ⟨g, 0, none⟩) es.length cap ∧ g = b := by
      rcases own_val o2 with ⟨e3, -⟩ | ⟨g, cap, e3, -⟩
      · rw [e3] at e; cases e
      · rw [e3] at e; exact ⟨g, cap, e3, by simpa [Value.ownBlock] using e⟩
    subst e2
    have o3 := o2
    rw [e1] at o3
    obtain ⟨cur, hcur, -⟩ := own_cell o3
    rw [show W2.heap[g]? = _ from h2] at hcur
    cases hcur
  clear C b1 h1 o1 hl b2 hV h2 o2 hown
  go_wp2_with (first
    | (go_at_call 47; refine CL.mono ?_; rintro e w' ⟨rfl, hw⟩; obtain rfl : w1 = w' := hw))
  rw [← hW2]
  refine CI.mono ?_
  rintro e w3 ⟨v3, rfl, ho3, hg3, -⟩
  unfold OwE at ho3
  rw [mid_len es (key, n) j H.out.2.2.2.1] at ho3
  obtain ⟨s3, c3, rfl⟩ := own_sl ho3
  have hC3 := cg_grown hg3
  have h3 : NodeW w3 b (.slice sa es.length c) (.slice none 0 0) := H2.out.1.kept (hC3.block b H2.out.1.lt (fun e => H2.out.2.2.2 e.symm))
  have d0 := h3.c0
  have g0 := h3.fz 0
  have hCs := cg_set w3 b 0 (.slice s3 (es.length + 1) c3)
  have FIN : Hid (NodeW (w3.setCell ⟨b, 0, none⟩ (.slice s3 (es.length + 1) c3)) b (.slice s3 (es.length + 1) c3) (.slice none 0 0) ∧ OwE (w3.setCell ⟨b, 0, none⟩ (.slice s3 (es.length + 1) c3)) N (.slice s3 (es.length + 1) c3) (es.take j ++ (key, n) :: es.drop j) ∧ Cg (fun k => k = b ∨ some k = (Value.slice sa es.length c).ownBlock) w (w3.setCell ⟨b, 0, none⟩ (.slice s3 (es.length + 1) c3))) := by
    refine ⟨h3.set0 _, ?_, ?_⟩
    · unfold OwE
      rw [mid_len es (key, n) j H.out.2.2.2.1]
      refine own_kept ho3 (fun g e => hCs.block g (World.ownsRow.lt ho3 g e).2 (fun e2 => ?_))
      have e2 : g = b := e2
      subst e2
      have hg := World.ownsRow.lt ho3 g e
      obtain ⟨cap, e4⟩ : ∃ cap, Value.slice s3 (es.length + 1) c3 = .slice (some ⟨g, 0, none⟩) (es.length + 1) cap := by
        rcases own_val ho3 with ⟨e3, h0⟩ | ⟨g', cap, e3, -⟩
        · rw [e3] at e; cases e
        · rw [e3] at e; exact ⟨cap, by rw [e3]; simp [Value.ownBlock] at e; rw [e]⟩
      rw [e4] at ho3
      obtain ⟨cur, hcur, -⟩ := own_cell ho3
      rw [show w3.heap[g]? = _ from h3] at hcur
      cases hcur
    · exact ((cg_below (S := fun k => k = b ∨ some k = (Value.slice sa es.length c).ownBlock) H2.out.2.2.1).trans hC3 (fun _ e => e) (fun _ _ e => .inr e)).trans hCs (fun _ e => e) (fun _ _ e => .inl e)
  clear CI CL ho3 hg3 hC3 h3 hCs hW2 c0 f0
  go_wp2
  go_ret2
  first | exact ⟨rfl, s3, c3, FIN.out⟩ | exact ⟨rfl, s3, ⟨c3, FIN.out.1⟩, FIN.out.2⟩

/-- No tree's methods that give a pair. -/
theorem next_bare (v : Value) (key : ByteArray) (w : World) (hv : Bare w v) :
    Calls Try.prog 17 #[v, .string key] w fun e w' => e = .returned (.tuple #[.agg #[.string ⟨#[]⟩, .int .i64 0], .bool false]) ∧ Below w.heap.size w w' := by
  have C : ∀ {W : World}, Below w.heap.size w W → Calls Try.prog 27 #[v] W fun e w' => e = .returned (.bool false) ∧ w' = W := fun hW => wasMade_bare v _ (by
    rcases hv with rfl | ⟨T, rfl, hT⟩
    · exact .inl rfl
    · exact .inr ⟨T, rfl, (hW.block T (Array.getElem?_eq_some_iff.1 hT).1).trans hT⟩)
  obtain ⟨x, rfl⟩ : ∃ x, v = .pointer x := by rcases hv with rfl | ⟨B, rfl, _⟩ <;> exact ⟨_, rfl⟩
  clear hv
  have b1 : Below w.heap.size w (w.alloc (.cells #[.string ⟨#[]⟩, .int .i64 0] 42)) := (Below.refl _ _).alloc (Nat.le_refl _) _
  have hN := heap_alloc_new w (.cells #[.string ⟨#[]⟩, .int .i64 0] 42)
  go_enter Try.func17, Try.ntmps17
  go_wp2_with (go_at_call 27; refine (C b1).mono ?_; rintro e w' ⟨rfl, rfl⟩)
  refine bodyPost_ret (v := .tuple #[.agg #[.string ⟨#[]⟩, .int .i64 0], .bool false]) ?_ rfl ?_
  · rw [results_cell_tmp rfl]
    go_simp
  · exact ⟨rfl, b1⟩

theorem back_bare (v : Value) (key : ByteArray) (w : World) (hv : Bare w v) :
    Calls Try.prog 18 #[v, .string key] w fun e w' => e = .returned (.tuple #[.agg #[.string ⟨#[]⟩, .int .i64 0], .bool false]) ∧ Below w.heap.size w w' := by
  have C : ∀ {W : World}, Below w.heap.size w W → Calls Try.prog 27 #[v] W fun e w' => e = .returned (.bool false) ∧ w' = W := fun hW => wasMade_bare v _ (by
    rcases hv with rfl | ⟨T, rfl, hT⟩
    · exact .inl rfl
    · exact .inr ⟨T, rfl, (hW.block T (Array.getElem?_eq_some_iff.1 hT).1).trans hT⟩)
  obtain ⟨x, rfl⟩ : ∃ x, v = .pointer x := by rcases hv with rfl | ⟨B, rfl, _⟩ <;> exact ⟨_, rfl⟩
  clear hv
  have b1 : Below w.heap.size w (w.alloc (.cells #[.string ⟨#[]⟩, .int .i64 0] 42)) := (Below.refl _ _).alloc (Nat.le_refl _) _
  have hN := heap_alloc_new w (.cells #[.string ⟨#[]⟩, .int .i64 0] 42)
  go_enter Try.func18, Try.ntmps18
  go_wp2_with (go_at_call 27; refine (C b1).mono ?_; rintro e w' ⟨rfl, rfl⟩)
  refine bodyPost_ret (v := .tuple #[.agg #[.string ⟨#[]⟩, .int .i64 0], .bool false]) ?_ rfl ?_
  · rw [results_cell_tmp rfl]
    go_simp
  · exact ⟨rfl, b1⟩
end Go.Proofs.Ytmdembfnpmlmaaa
