/-
  Delete and Len of a tree whose root is a leaf; the law's knows.
-/
import Derived.Test.YtmdembfnpmlmaaaTnF
namespace Go.Proofs.Ytmdembfnpmlmaaa
open Go.RowKit Go.Lib

set_option maxRecDepth 20000 in
set_option maxHeartbeats 2000000 in
theorem bremove_leaf (N T B b g c : Nat) (es : List Ent) (key : ByteArray) (i : Nat) (x : Ent) (w : World) (h : TL w N T B b (some ⟨g, 0, none⟩) c es) (hs : Srt es) (hn : es.length ≤ 7) (h2 : 2 ≤ es.length) (hlow : ∀ j, Low es key j → j = i) (hthere : thereK es key i = true) (hx : es[i]? = some x) (hN : N ≤ w.heap.size) :
    Calls Try.prog 33 #[.pointer (some ⟨B, 0, none⟩), .string key] w fun e w' => e = .returned (.tuple #[.int .i64 x.2, .bool true]) ∧ w'.heap[T]? = some (.cells #[.pointer (some ⟨B, 0, none⟩)] 49 (0, 0)) ∧ w'.heap[B]? = some (.cells #[.pointer (some ⟨b, 0, none⟩), .int .i64 ((es.length - 1 : Nat) : Int)] 57 (0, 0)) ∧ Below N w w' ∧ Cg (fun k => k = B ∨ k = b ∨ k = g) w w' := by
  have hrow : ∃ cur, w.heap[g]? = some (.cells cur 65 (0, 0)) := row_type h.o rfl
  obtain ⟨cur, hcur⟩ := hrow
  have hgb : g ≠ b := ne_types hcur (show w.heap[b]? = _ from h.n) (by decide)
  have CR := nremove_leaf b N g c es key i x w h.n h.o hs hn hlow hthere hx hgb
  have c0 := blk_cell h.p 0 (.pointer (some ⟨b, 0, none⟩)) rfl
  obtain ⟨m, hm⟩ : ∃ m, m = es.length := ⟨_, rfl⟩
  obtain ⟨k, hk⟩ : ∃ k, m = k + 2 := ⟨m - 2, by omega⟩
  have H : Hid (w.heap[T]? = some (.cells #[.pointer (some ⟨B, 0, none⟩)] 49 (0, 0)) ∧ w.heap[B]? = some (.cells #[.pointer (some ⟨b, 0, none⟩), .int .i64 (m : Int)] 57 (0, 0)) ∧ (T ≠ b ∧ T ≠ g ∧ B ≠ b ∧ B ≠ g ∧ T ≠ B) ∧ m = k + 2 ∧ k ≤ 5 ∧ (N ≤ B ∧ N ≤ b ∧ N ≤ g) ∧ N ≤ w.heap.size) :=
    ⟨h.t, by rw [hm]; exact h.p, ⟨ne_types h.t (show w.heap[b]? = _ from h.n) (by decide), ne_types h.t hcur (by decide), ne_types h.p (show w.heap[b]? = _ from h.n) (by decide), ne_types h.p hcur (by decide), ne_types h.t h.p (by decide)⟩, hk, by omega, ⟨h.l.2.1, h.l.2.2, (World.ownsRow.lt h.o g rfl).1⟩, hN⟩
  rw [← hm] at CR ⊢
  clear h hs hn h2 hlow hthere hx hN hcur hgb hm hk
  obtain ⟨xk, xn⟩ := x
  dsimp only at CR ⊢
  go_enter Try.func33, Try.ntmps33
  go_wp2_with fail
  refine CR.mono ?_
  rintro e w1 ⟨rfl, n1, o1, hC1⟩
  obtain ⟨q1, q2, q3, q4, q5⟩ := H.out.2.2.1
  have p1 := (hC1.block B (lt_of_some H.out.2.1) (fun e => e.elim q3 q4)).trans H.out.2.1
  have t1 := (hC1.block T (lt_of_some H.out.1) (fun e => e.elim q1 q2)).trans H.out.1
  have r0 := blk_cell p1 0 (.pointer (some ⟨b, 0, none⟩)) rfl
  have r1 := blk_cell p1 1 (.int .i64 (m : Int)) rfl
  have rf := blk_open p1 1
  have hC2 := cg_set w1 B 1 (.int .i64 ((m - 1 : Nat) : Int))
  have hp2 := heap_set w1 B 1 _ _ (.int .i64 ((m - 1 : Nat) : Int)) p1
  have s0 := blk_cell hp2 0 (.pointer (some ⟨b, 0, none⟩)) rfl
  have n2 : NodeW (w1.setCell ⟨B, 1, none⟩ (.int .i64 ((m - 1 : Nat) : Int))) b (.slice (some ⟨g, 0, none⟩) (m - 1) c) (.slice none 0 0) := n1.kept (hC2.block b n1.lt (fun e => q3 e.symm))
  have d0 := n2.c0
  have hmw : IntKind.i64.wrap ((m : Int) - 1) = ((m - 1 : Nat) : Int) := by have := H.out.2.2.2; rw [IntKind.wrap_i64]; omega
  have hmz : ¬ ((m - 1 : Nat) : Int) = 0 := by have := H.out.2.2.2.1; omega
  have hmz2 : ¬ m - 1 = 0 := by have := H.out.2.2.2.1; omega
  have hmz3 : ¬ m ≤ 1 := by have := H.out.2.2.2.1; omega
  have FIN : Hid ((w1.setCell ⟨B, 1, none⟩ (.int .i64 ((m - 1 : Nat) : Int))).heap[T]? = some (.cells #[.pointer (some ⟨B, 0, none⟩)] 49 (0, 0)) ∧ (w1.setCell ⟨B, 1, none⟩ (.int .i64 ((m - 1 : Nat) : Int))).heap[B]? = some (.cells #[.pointer (some ⟨b, 0, none⟩), .int .i64 ((m - 1 : Nat) : Int)] 57 (0, 0)) ∧ Below N w (w1.setCell ⟨B, 1, none⟩ (.int .i64 ((m - 1 : Nat) : Int))) ∧ Cg (fun k => k = B ∨ k = b ∨ k = g) w (w1.setCell ⟨B, 1, none⟩ (.int .i64 ((m - 1 : Nat) : Int)))) := by
    obtain ⟨l1, l2, l3⟩ := H.out.2.2.2.2.2.1
    refine ⟨(hC2.block T (lt_of_some t1) q5).trans t1, hp2, (hC1.below H.out.2.2.2.2.2.2 (fun k e => ?_)).trans (hC2.below (Nat.le_trans H.out.2.2.2.2.2.2 hC1.size) (fun k (e : k = B) => by rw [e]; exact l1)), hC1.trans hC2 (fun _ e => .inr e) (fun _ _ e => .inl e)⟩
    rcases e with e | e <;> rw [e] <;> assumption
  clear CR n1 o1 hC1 p1 t1 hC2 hp2 n2 q1 q2 q3 q4 q5 c0
  go_wp2
  go_ret2
  exact ⟨rfl, FIN.out⟩

theorem Delete_leaf (N T B b g c : Nat) (es : List Ent) (key : ByteArray) (i : Nat) (x : Ent) (w : World) (h : TL w N T B b (some ⟨g, 0, none⟩) c es) (hs : Srt es) (hn : es.length ≤ 7) (h2 : 2 ≤ es.length) (hlow : ∀ j, Low es key j → j = i) (hthere : thereK es key i = true) (hx : es[i]? = some x) (hN : N ≤ w.heap.size) :
    Calls Try.prog 16 #[.pointer (some ⟨T, 0, none⟩), .string key] w fun e w' => e = .returned (.tuple #[.int .i64 x.2, .bool true]) ∧ w'.heap[T]? = some (.cells #[.pointer (some ⟨B, 0, none⟩)] 49 (0, 0)) ∧ w'.heap[B]? = some (.cells #[.pointer (some ⟨b, 0, none⟩), .int .i64 ((es.length - 1 : Nat) : Int)] 57 (0, 0)) ∧ Below N w w' ∧ Cg (fun k => k = B ∨ k = b ∨ k = g) w w' := by
  have CW := wasMade_any T B w h.t
  have t0 := blk_cell h.t 0 (.pointer (some ⟨B, 0, none⟩)) rfl
  have CB := bremove_leaf N T B b g c es key i x w h hs hn h2 hlow hthere hx hN
  clear h hs hn h2 hlow hthere hx hN
  generalize es.length - 1 = m at *
  obtain ⟨xk, xn⟩ := x
  dsimp only at CB ⊢
  go_enter Try.func16, Try.ntmps16
  go_wp2_with (first
    | (go_at_call 27; refine CW.mono ?_; rintro e w' ⟨rfl, hw⟩; obtain rfl : w = w' := hw.symm)
    | (go_at_call 33; refine CB.mono ?_; rintro e w2 ⟨rfl, H2⟩))
  go_ret2
  exact ⟨rfl, H2⟩

theorem Len_leaf (T B b m : Nat) (w : World) (ht : w.heap[T]? = some (.cells #[.pointer (some ⟨B, 0, none⟩)] 49 (0, 0))) (hp : w.heap[B]? = some (.cells #[.pointer (some ⟨b, 0, none⟩), .int .i64 (m : Int)] 57 (0, 0))) :
    Calls Try.prog 13 #[.pointer (some ⟨T, 0, none⟩)] w fun e w' => e = .returned (.int .i64 (m : Int)) ∧ w' = w := by
  have CW := wasMade_any T B w ht
  have t0 := blk_cell ht 0 (.pointer (some ⟨B, 0, none⟩)) rfl
  have p1 := blk_cell hp 1 (.int .i64 (m : Int)) rfl
  clear ht hp
  go_enter Try.func13, Try.ntmps13
  go_wp2_with (go_at_call 27; refine CW.mono ?_; rintro e w' ⟨rfl, hw⟩; obtain rfl : w = w' := hw.symm)
  go_ret
  exact ⟨rfl, rfl⟩

def kA : ByteArray := ⟨#[97]⟩
def kB : ByteArray := ⟨#[98]⟩

theorem kl_ab : kl kA kB = true := by decide +kernel
theorem kl_ba : kl kB kA = false := by decide +kernel
theorem kl_bb : kl kB kB = false := by decide +kernel
theorem kl_an : kl kA ⟨#[]⟩ = false := by decide +kernel
theorem th_a : thereK [(kB, 1)] kA 0 = false := by decide +kernel
theorem th_n : thereK [(kA, 2), (kB, 1)] ⟨#[]⟩ 0 = false := by decide +kernel
theorem th_b : thereK [(kA, 2), (kB, 1)] kB 1 = true := by decide +kernel

theorem srt_b : Srt [(kB, 1)] := by
  intro i j hi hj h
  simp at hi hj
  omega
theorem srt_ab : Srt [(kA, 2), (kB, 1)] := by
  intro i j hi hj h
  have hi' : i < 2 := hi
  have hj' : j < 2 := hj
  obtain rfl : i = 0 := by omega
  obtain rfl : j = 1 := by omega
  exact kl_ab
theorem low_a : ∀ j, Low [(kB, 1)] kA j → j = 0 := by
  intro j h
  rcases Nat.eq_zero_or_pos j with e | e
  · exact e
  · have h1 : kl kB kA = true := h.2.1 0 (by simp) e
    rw [kl_ba] at h1
    cases h1
theorem low_n : ∀ j, Low [(kA, 2), (kB, 1)] ⟨#[]⟩ j → j = 0 := by
  intro j h
  rcases Nat.eq_zero_or_pos j with e | e
  · exact e
  · have h1 : kl kA ⟨#[]⟩ = true := h.2.1 0 (by simp) e
    rw [kl_an] at h1
    cases h1
theorem low_b : ∀ j, Low [(kA, 2), (kB, 1)] kB j → j = 1 := by
  intro j h
  rcases Nat.lt_or_ge j 1 with e | e
  · have h1 : kl kA kB = false := h.2.2 0 (by simp) (by omega)
    rw [kl_ab] at h1
    cases h1
  · rcases Nat.lt_or_ge 1 j with e2 | e2
    · have h1 : kl kB kB = true := h.2.1 1 (by simp) e2
      rw [kl_bb] at h1
      cases h1
    · omega

set_option maxRecDepth 20000 in
set_option maxHeartbeats 2000000 in
theorem knows_any (w : World) : Calls Try.prog 9 #[] w fun e w' => e = .returned (.bool true) ∧ Below w.heap.size w w' := by
  have CN := New_any w
  go_enter Try.func9, Try.ntmps9
  go_wp2_with fail
  refine CN.mono ?_
  rintro e w1 ⟨T, B, rfl, h1, b1⟩
  have CP := Put_of w.heap.size T B kB 1 w1 (by decide) h1.t (fun W => ∃ b sa c, TL W w.heap.size T B b sa c [(kB, 1)] ∧ Below w.heap.size w1 W) (fun W ⟨b, sa, c, q, hb⟩ => ⟨blk_cell q.t 0 _ rfl, hb⟩)
    (fun W hW => (bput_empty w.heap.size T B kB 1 W (h1.later hW) (Nat.le_trans b1.size hW.size)).mono (fun e w' ⟨he, b, sa, c, q, hb⟩ => ⟨he, b, sa, c, q, (hW.mono b1.size).trans hb⟩))
  have HB1 : Hid (Below w.heap.size w w1) := b1
  clear CN h1 b1
  go_wp2_with fail
  refine CP.mono ?_
  rintro e w2 ⟨rfl, b, sa, c, h2, hb2⟩
  have CQ := Put_of w.heap.size T B kA 2 w2 (by decide) h2.t (fun W => ∃ sa c, TL W w.heap.size T B b sa c [(kA, 2), (kB, 1)] ∧ Below w.heap.size w2 W) (fun W ⟨sa, c, q, hb⟩ => ⟨blk_cell q.t 0 _ rfl, hb⟩)
    (fun W hW => (bput_leaf w.heap.size T B b sa c [(kB, 1)] kA 2 0 W (h2.later hW) srt_b (by decide) low_a (by decide) th_a (Nat.le_trans (Nat.le_trans HB1.out.size hb2.size) hW.size)).mono (fun e w' ⟨he, sa, c, q, hb⟩ => ⟨he, sa, c, q, (hW.mono (Nat.le_trans HB1.out.size hb2.size)).trans hb⟩))
  have HB2 : Hid (Below w.heap.size w w2) := HB1.out.trans hb2
  clear CP h2 hb2 HB1
  go_wp2_with fail
  refine CQ.mono ?_
  rintro e w3 ⟨rfl, s3, c3, h3, hb3⟩
  have CX := Next_leaf w.heap.size T B b s3 c3 [(kA, 2), (kB, 1)] ⟨#[]⟩ (kA, 2) w3 h3 srt_ab (by decide) low_n th_n rfl (by decide)
  have HB3 : Hid (Below w.heap.size w w3 ∧ TL w3 w.heap.size T B b s3 c3 [(kA, 2), (kB, 1)]) := ⟨HB2.out.trans hb3, h3⟩
  clear CQ h3 hb3 HB2
  go_wp2_with fail
  refine CX.mono ?_
  rintro e w4 ⟨rfl, b4⟩
  obtain ⟨W5, hW5⟩ : ∃ W5, W5 = w4.alloc (.cells #[.string kA, .int .i64 2] 42) := ⟨_, rfl⟩
  have b5 : Below w4.heap.size w4 W5 := by rw [hW5]; exact (Below.refl _ _).alloc (Nat.le_refl _) _
  have hN5 : W5.heap[w4.heap.size]? = some (.cells #[.string kA, .int .i64 2] 42 (0, 0)) := by rw [hW5]; exact heap_alloc_new w4 _
  have h5 := (HB3.out.2.later b4).later b5
  have bw5 : Below w.heap.size w W5 := (HB3.out.1.trans (b4.mono HB3.out.1.size)).trans (b5.mono (Nat.le_trans HB3.out.1.size b4.size))
  obtain ⟨g, rfl⟩ : ∃ g, s3 = some ⟨g, 0, none⟩ := by
    rcases own_val h5.o with ⟨e, -⟩ | ⟨g, cap, e, -⟩
    · simp at e
    · simp only [Value.slice.injEq] at e; exact ⟨g, e.1⟩
  have CD := Delete_leaf w.heap.size T B b g c3 [(kA, 2), (kB, 1)] kB 1 (kB, 1) W5 h5 srt_ab (by decide) (by decide) low_b th_b rfl bw5.size
  have HW5 : Hid (w4.alloc (.cells #[.string kA, .int .i64 2] 42) = W5) := hW5.symm
  obtain ⟨z, hz⟩ : ∃ z, z = w4.heap.size := ⟨_, rfl⟩
  rw [← hz] at hN5
  have HZ : Hid (w4.heap.size = z ∧ W5.heap[z]? = some (.cells #[.string kA, .int .i64 2] 42 (0, 0)) ∧ Below w.heap.size w W5 ∧ ¬ (z = B ∨ z = b ∨ z = g)) := by
    obtain ⟨cur, hcur⟩ := row_type h5.o (g := g) rfl
    exact ⟨hz.symm, hN5, bw5, fun e => e.elim (ne_types hN5 h5.p (by decide)) (fun e => e.elim (ne_types hN5 (show W5.heap[b]? = _ from h5.n) (by decide)) (ne_types hN5 hcur (by decide)))⟩
  clear CX b4 hW5 b5 hN5 h5 bw5 hz
  go_upto_region 5 with fail
  rw [HW5.out, HZ.out.1]
  go_wp2_with fail
  refine CD.mono ?_
  rintro e w6 ⟨rfl, t6, p6, b6, hC6⟩
  have CL := Len_leaf T B b 1 w6 t6 p6
  have z6 := (hC6.block z (lt_of_some HZ.out.2.1) HZ.out.2.2.2).trans HZ.out.2.1
  have y0 : w6.cell? ⟨z, 0, none⟩ = some (.string ⟨#[97]⟩) := blk_cell z6 0 (.string kA) rfl
  have y1 : w6.cell? ⟨z, 1, none⟩ = some (.int .i64 2) := blk_cell z6 1 (.int .i64 2) rfl
  have FIN : Hid (Below w.heap.size w w6) := HZ.out.2.2.1.trans b6
  clear CD t6 p6 b6 hC6 z6 HZ HW5 HB3
  go_wp2_with (go_at_call 13; refine CL.mono ?_; rintro e w' ⟨rfl, hw⟩; obtain rfl : w6 = w' := hw.symm)
  go_ret
  exact ⟨by rfl, FIN.out⟩
end Go.Proofs.Ytmdembfnpmlmaaa
