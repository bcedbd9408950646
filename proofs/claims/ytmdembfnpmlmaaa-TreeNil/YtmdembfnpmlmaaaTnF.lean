/-
  Next, Delete and Len of a tree whose root is a leaf.
-/
import Derived.Test.YtmdembfnpmlmaaaTnE
namespace Go.Proofs.Ytmdembfnpmlmaaa
open Go.RowKit Go.Lib

set_option maxRecDepth 20000 in
set_option maxHeartbeats 2000000 in
theorem Next_leaf (N T B b : Nat) (sa : Option Addr) (c : Nat) (es : List Ent) (key : ByteArray) (x0 : Ent) (w : World) (h : TL w N T B b sa c es) (hs : Srt es) (hn : es.length ≤ 6) (hlow : ∀ j, Low es key j → j = 0) (hnew : thereK es key 0 = false) (h0 : es[0]? = some x0) (hk : x0.1.size ≤ 140737488351232) :
    Calls Try.prog 17 #[.pointer (some ⟨T, 0, none⟩), .string key] w fun e w' => e = .returned (.tuple #[.agg #[.string x0.1, .int .i64 x0.2], .bool true]) ∧ Below w.heap.size w w' := by
  obtain ⟨W1, hW1⟩ : ∃ W1, W1 = w.alloc (.cells #[.string ⟨#[]⟩, .int .i64 0] 42) := ⟨_, rfl⟩
  have b1 : Below w.heap.size w W1 := by rw [hW1]; exact (Below.refl _ _).alloc (Nat.le_refl _) _
  have hN1 : W1.heap[w.heap.size]? = some (.cells #[.string ⟨#[]⟩, .int .i64 0] 42 (0, 0)) := by rw [hW1]; exact heap_alloc_new w _
  obtain ⟨y, hy⟩ : ∃ y, y = w.heap.size := ⟨_, rfl⟩
  rw [← hy] at hN1
  have h1 := h.later b1
  have CW := wasMade_any T B W1 h1.t
  have t0 := blk_cell h1.t 0 (.pointer (some ⟨B, 0, none⟩)) rfl
  have p0 := blk_cell h1.p 0 (.pointer (some ⟨b, 0, none⟩)) rfl
  have CX := nnext_leaf b N sa c es key x0 W1 h1.n h1.o hs hn hlow hnew h0
  have HY : Hid (W1.heap[y]? = some (.cells #[.string ⟨#[]⟩, .int .i64 0] 42 (0, 0)) ∧ Below w.heap.size w W1 ∧ w.heap.size ≤ y ∧ x0.1.size ≤ 140737488351232) := ⟨hN1, b1, by omega, hk⟩
  have HW : Hid (w.alloc (.cells #[.string ⟨#[]⟩, .int .i64 0] 42) = W1 ∧ w.heap.size = y) := ⟨hW1.symm, hy.symm⟩
  clear h hs hn hlow hnew h0 hk hW1 b1 hN1 hy h1
  obtain ⟨xk, xn⟩ := x0
  dsimp only at CX HY ⊢
  go_enter Try.func17, Try.ntmps17
  go_upto_region 1 with fail
  rw [HW.out.1, HW.out.2]
  clear HW
  go_upto_region 3 with (go_at_call 27; refine CW.mono ?_; rintro e w' ⟨rfl, hw⟩; obtain rfl : W1 = w' := hw.symm)
  go_upto_region 4 with (go_at_call 34; refine CX.mono ?_; rintro e w2 ⟨rfl, b2⟩)
  obtain ⟨W3, hW3⟩ : ∃ W3, W3 = w2.alloc (.cells #[.string xk, .int .i64 xn] 65) := ⟨_, rfl⟩
  have b3 : Below w2.heap.size w2 W3 := by rw [hW3]; exact (Below.refl _ _).alloc (Nat.le_refl _) _
  have hN3 : W3.heap[w2.heap.size]? = some (.cells #[.string xk, .int .i64 xn] 65 (0, 0)) := by rw [hW3]; exact heap_alloc_new w2 _
  rw [← hW3]
  obtain ⟨z, hz⟩ : ∃ z, z = w2.heap.size := ⟨_, rfl⟩
  rw [← hz] at hN3 ⊢
  have s0 := blk_cell hN3 0 (.string xk) rfl
  have s1 := blk_cell hN3 1 (.int .i64 xn) rfl
  have CP := pairOf_any xk xn W3 HY.out.2.2.2
  have bw3 : Below w.heap.size w W3 := (HY.out.2.1.trans (b2.mono HY.out.2.1.size)).trans (b3.mono (Nat.le_trans HY.out.2.1.size b2.size))
  have y3 : W3.heap[y]? = some (.cells #[.string ⟨#[]⟩, .int .i64 0] 42 (0, 0)) := (b3.block y (Nat.lt_of_lt_of_le (lt_of_some HY.out.1) b2.size)).trans ((b2.block y (lt_of_some HY.out.1)).trans HY.out.1)
  have H3 : Hid (Below w.heap.size w W3 ∧ W3.heap[y]? = some (.cells #[.string ⟨#[]⟩, .int .i64 0] 42 (0, 0))) := ⟨bw3, y3⟩
  clear hW3 b3 hN3 hz b2 CX CW t0 p0 bw3 y3
  go_wp2_with fail
  refine CP.mono ?_
  rintro e w4 ⟨rfl, b4⟩
  have hy4 := (b4.block y (lt_of_some H3.out.2)).trans H3.out.2
  have f0 := blk_open hy4 0
  have y0 := blk_cell hy4 0 (.string ⟨#[]⟩) rfl
  have hs0 := heap_set w4 y 0 _ _ (.string xk) hy4
  have f1 : (w4.setCell ⟨y, 0, none⟩ (.string xk)).frozen? ⟨y, 1, none⟩ = false := blk_open hs0 1
  have y1 : (w4.setCell ⟨y, 0, none⟩ (.string xk)).cell? ⟨y, 1, none⟩ = some (.int .i64 0) := blk_cell hs0 1 (.int .i64 0) rfl
  have hs1 := heap_set _ y 1 _ _ (.int .i64 xn) hs0
  have r0 : ((w4.setCell ⟨y, 0, none⟩ (.string xk)).setCell ⟨y, 1, none⟩ (.int .i64 xn)).cell? ⟨y, 0, none⟩ = some (.string xk) := blk_cell hs1 0 (.string xk) rfl
  have r1 : ((w4.setCell ⟨y, 0, none⟩ (.string xk)).setCell ⟨y, 1, none⟩ (.int .i64 xn)).cell? ⟨y, 1, none⟩ = some (.int .i64 xn) := blk_cell hs1 1 (.int .i64 xn) rfl
  have FIN : Hid (Below w.heap.size w ((w4.setCell ⟨y, 0, none⟩ (.string xk)).setCell ⟨y, 1, none⟩ (.int .i64 xn))) := by
    have bw4 := H3.out.1.trans (b4.mono H3.out.1.size)
    exact bw4.trans (((cg_set w4 y 0 (.string xk)).trans (cg_set _ y 1 (.int .i64 xn)) (fun _ e => e) (fun _ _ e => e)).below bw4.size (fun k (e : k = y) => by rw [e]; exact HY.out.2.2.1))
  clear CP b4 hy4 hs0 hs1 s0 s1
  go_wp2
  refine bodyPost_ret (v := .tuple #[.agg #[.string xk, .int .i64 xn], .bool true]) ?_ rfl ?_
  · rw [results_cell_tmp rfl]
    go_simp
  · exact ⟨rfl, FIN.out⟩

set_option maxRecDepth 20000 in
set_option maxHeartbeats 2000000 in
theorem nremove_leaf (b N : Nat) (g c : Nat) (es : List Ent) (key : ByteArray) (i : Nat) (x : Ent) (w : World) (h : NodeW w b (.slice (some ⟨g, 0, none⟩) es.length c) (.slice none 0 0)) (ho : OwE w N (.slice (some ⟨g, 0, none⟩) es.length c) es) (hs : Srt es) (hn : es.length ≤ 7) (hlow : ∀ j, Low es key j → j = i) (hthere : thereK es key i = true) (hx : es[i]? = some x) (hgb : g ≠ b) :
    Calls Try.prog 46 #[.pointer (some ⟨b, 0, none⟩), .string key] w fun e w' => e = .returned (.tuple #[.int .i64 x.2, .bool true]) ∧ NodeW w' b (.slice (some ⟨g, 0, none⟩) (es.length - 1) c) (.slice none 0 0) ∧ OwE w' N (.slice (some ⟨g, 0, none⟩) (es.length - 1) c) (es.eraseIdx i) ∧ Cg (fun k => k = b ∨ k = g) w w' := by
  have hi : i < es.length := (List.getElem?_eq_some_iff.1 hx).1
  have e0 : es[i] = x := by rw [List.getElem?_eq_getElem hi] at hx; exact Option.some.inj hx
  have CF : Calls Try.prog 45 #[.pointer (some ⟨b, 0, none⟩), .string key] w fun e w' => e = .returned (.tuple #[.int .i64 (i : Int), .bool true]) ∧ Below w.heap.size w w' := by
    refine (find_any b N _ _ es key w h ho hs (by omega)).mono ?_
    rintro e w' ⟨j, he, hl, hb⟩
    obtain rfl := hlow j hl
    rw [hthere] at he
    exact ⟨he, hb⟩
  obtain ⟨m, hm⟩ : ∃ m, m = es.length := ⟨_, rfl⟩
  have hmi : (i : Int) < (m : Int) := by omega
  have hmi' : i < m := by omega
  have H : Hid (NodeW w b (.slice (some ⟨g, 0, none⟩) m c) (.slice none 0 0) ∧ w.ownsRow N 65 2 (.slice (some ⟨g, 0, none⟩) m c) m (ecs es) ∧ g ≠ b ∧ es.length = m ∧ (∃ hi : i < es.length, es[i] = x)) := ⟨by rw [hm]; exact h, by rw [hm]; exact ho, hgb, hm.symm, hi, e0⟩
  clear h ho hs hn hlow hthere hx hgb hi e0 hm
  obtain ⟨xk, xn⟩ := x
  dsimp only at H ⊢
  go_enter Try.func46, Try.ntmps46
  go_wp2_with fail
  refine CF.mono ?_
  rintro e w1 ⟨rfl, b1⟩
  have n1 : NodeW w1 b (.slice (some ⟨g, 0, none⟩) m c) (.slice none 0 0) := H.out.1.kept (b1.block b H.out.1.lt)
  have o1 : w1.ownsRow N 65 2 (.slice (some ⟨g, 0, none⟩) m c) m (ecs es) := own_kept H.out.2.1 (fun g' e => b1.block g' (World.ownsRow.lt H.out.2.1 g' e).2)
  have o1' : OwE w1 N (.slice (some ⟨g, 0, none⟩) es.length c) es := by unfold OwE; rw [H.out.2.2.2.1]; exact o1
  obtain ⟨hi, e0⟩ := H.out.2.2.2.2
  obtain ⟨a0, a1⟩ := OwE.at o1' i hi
  rw [e0] at a0 a1
  dsimp only at a0 a1
  have CL := isLeaf_any b (.slice (some ⟨g, 0, none⟩) m c) none 0 0 w1 n1
  have CO := withoutE_any g c N i es w1 o1' hi
  rw [e0, H.out.2.2.2.1] at CO
  dsimp only at CO
  have c0 := n1.c0
  have HB : Hid (Below w.heap.size w w1 ∧ NodeW w1 b (.slice (some ⟨g, 0, none⟩) m c) (.slice none 0 0)) := ⟨b1, n1⟩
  clear CF b1 n1 o1 o1' e0 hi
  go_wp2_with (first
    | (go_at_call 47; refine CL.mono ?_; rintro e w' ⟨rfl, hw⟩; obtain rfl : w1 = w' := hw))
  refine CO.mono ?_
  rintro e w2 ⟨rfl, o2, hg2⟩
  have hC2 := cg_grown hg2
  have n2 : NodeW w2 b (.slice (some ⟨g, 0, none⟩) m c) (.slice none 0 0) := HB.out.2.kept (hC2.block b HB.out.2.lt (fun e => H.out.2.2.1 (Option.some.inj e).symm))
  have d0 := n2.c0
  have f0 := n2.fz 0
  have hCs := cg_set w2 b 0 (.slice (some ⟨g, 0, none⟩) (m - 1) c)
  have FIN : Hid (NodeW (w2.setCell ⟨b, 0, none⟩ (.slice (some ⟨g, 0, none⟩) (m - 1) c)) b (.slice (some ⟨g, 0, none⟩) (m - 1) c) (.slice none 0 0) ∧ OwE (w2.setCell ⟨b, 0, none⟩ (.slice (some ⟨g, 0, none⟩) (m - 1) c)) N (.slice (some ⟨g, 0, none⟩) (m - 1) c) (es.eraseIdx i) ∧ Cg (fun k => k = b ∨ k = g) w (w2.setCell ⟨b, 0, none⟩ (.slice (some ⟨g, 0, none⟩) (m - 1) c))) := by
    refine ⟨n2.set0 _, own_kept o2 (fun g' e => hCs.block g' (World.ownsRow.lt o2 g' e).2 (fun (e2 : g' = b) => ?_)), ?_⟩
    · simp [Value.ownBlock] at e
      exact H.out.2.2.1 (e.trans e2)
    · exact ((cg_below (S := fun k => k = b ∨ k = g) HB.out.1).trans hC2 (fun _ e => e) (fun _ _ e => .inr (Option.some.inj e))).trans hCs (fun _ e => e) (fun _ _ e => .inl e)
  have HM : Hid (es.length = m) := H.out.2.2.2.1
  clear CO CL o2 hg2 hC2 n2 hCs c0 a0 a1 H HB
  go_wp2
  go_ret2
  rw [HM.out]
  exact ⟨rfl, FIN.out⟩
end Go.Proofs.Ytmdembfnpmlmaaa
