/-
  The least entry above a key, of a tree whose root is a leaf.
-/
import Derived.Test.YtmdembfnpmlmaaaTnD
namespace Go.Proofs.Ytmdembfnpmlmaaa
open Go.RowKit Go.Lib

set_option maxRecDepth 20000 in
set_option maxHeartbeats 2000000 in
theorem nnext_leaf (b N : Nat) (sa : Option Addr) (c : Nat) (es : List Ent) (key : ByteArray) (x0 : Ent) (w : World) (h : NodeW w b (.slice sa es.length c) (.slice none 0 0)) (ho : OwE w N (.slice sa es.length c) es) (hs : Srt es) (hn : es.length ≤ 6) (hlow : ∀ j, Low es key j → j = 0) (hnew : thereK es key 0 = false) (h0 : es[0]? = some x0) :
    Calls Try.prog 34 #[.pointer (some ⟨b, 0, none⟩), .string key] w fun e w' => e = .returned (.tuple #[.agg #[.string x0.1, .int .i64 x0.2], .bool true]) ∧ Below w.heap.size w w' := by
  obtain ⟨W1, hW1⟩ : ∃ W1, W1 = w.alloc (.cells #[.string ⟨#[]⟩, .int .i64 0] 65) := ⟨_, rfl⟩
  have b1 : Below w.heap.size w W1 := by rw [hW1]; exact (Below.refl _ _).alloc (Nat.le_refl _) _
  have hN1 : W1.heap[w.heap.size]? = some (.cells #[.string ⟨#[]⟩, .int .i64 0] 65 (0, 0)) := by rw [hW1]; exact heap_alloc_new w _
  obtain ⟨y, hy⟩ : ∃ y, y = w.heap.size := ⟨_, rfl⟩
  rw [← hy] at hN1
  have h1 : NodeW W1 b (.slice sa es.length c) (.slice none 0 0) := h.kept (b1.block b h.lt)
  have o1 : OwE W1 N (.slice sa es.length c) es := own_kept ho (fun g e => b1.block g (World.ownsRow.lt ho g e).2)
  have CF : Calls Try.prog 45 #[.pointer (some ⟨b, 0, none⟩), .string key] W1 fun e w' => e = .returned (.tuple #[.int .i64 0, .bool false]) ∧ Below W1.heap.size W1 w' := by
    refine (find_any b N _ _ es key W1 h1 o1 hs (by omega)).mono ?_
    rintro e w' ⟨j, he, hl, hb⟩
    obtain rfl := hlow j hl
    rw [hnew] at he
    exact ⟨he, hb⟩
  obtain ⟨g, rfl⟩ : ∃ g, sa = some ⟨g, 0, none⟩ := by
    have hl : 0 < es.length := (List.getElem?_eq_some_iff.1 h0).1
    rcases own_val ho with ⟨e, -⟩ | ⟨g, cap, e, -⟩
    · simp only [Value.slice.injEq] at e; omega
    · simp only [Value.slice.injEq] at e; exact ⟨g, e.1⟩
  obtain ⟨m, hm⟩ : ∃ m, m = es.length := ⟨_, rfl⟩
  have hl : 0 < es.length := (List.getElem?_eq_some_iff.1 h0).1
  have hm0 : (0 : Int) < (m : Int) := by omega
  have hm0' : 0 < m := by omega
  have e0 : es[0] = x0 := by rw [List.getElem?_eq_getElem hl] at h0; exact Option.some.inj h0
  have AT := fun W (hW : Below W1.heap.size W1 W) => OwE.at (w := W) (N := N) (g := g) (cap := c) (es := es) (own_kept (w' := W) o1 (fun g' e => hW.block g' (World.ownsRow.lt o1 g' e).2)) 0 hl
  have ND := fun W (hW : Below W1.heap.size W1 W) => (h1.kept (hW.block b h1.lt) : NodeW W b _ _)
  rw [e0] at AT
  rw [← hm] at ND
  have HN : Hid (∀ W, Below W1.heap.size W1 W → NodeW W b (.slice (some ⟨g, 0, none⟩) m c) (.slice none 0 0)) := ND
  have HA : Hid (∀ W, Below W1.heap.size W1 W → W.cell? ⟨g, 0, none⟩ = some (.string x0.1) ∧ W.cell? ⟨g, 1, none⟩ = some (.int .i64 x0.2)) := fun W hW => by have := AT W hW; simpa using this
  have HY : Hid (W1.heap[y]? = some (.cells #[.string ⟨#[]⟩, .int .i64 0] 65 (0, 0)) ∧ Below w.heap.size w W1 ∧ w.heap.size ≤ y ∧ b ≠ y) := ⟨hN1, b1, by omega, ne_types (show W1.heap[b]? = _ from h1) hN1 (by decide)⟩
  have HW : Hid (w.alloc (.cells #[.string ⟨#[]⟩, .int .i64 0] 65) = W1 ∧ w.heap.size = y) := ⟨hW1.symm, hy.symm⟩
  clear h ho hs hn hlow hnew h0 hW1 b1 hN1 hy h1 o1 hm hl e0 AT ND
  go_enter Try.func34, Try.ntmps34
  go_wp2
  rw [HW.out.1, HW.out.2]
  clear HW
  refine wp_loop_rounds 3 ?_
  rw [rounds_succ]
  go_wp2_with fail
  refine CF.mono ?_
  rintro e w2 ⟨rfl, b2⟩
  have n2 := HN.out w2 b2
  have c0 := n2.c0
  obtain ⟨a0, a1⟩ := HA.out w2 b2
  have hy2 : w2.heap[y]? = some (.cells #[.string ⟨#[]⟩, .int .i64 0] 65 (0, 0)) := (b2.block y (lt_of_some HY.out.1)).trans HY.out.1
  have f0 := blk_open hy2 0
  have y0 := blk_cell hy2 0 (.string ⟨#[]⟩) rfl
  have hs0 := heap_set w2 y 0 _ _ (.string x0.1) hy2
  have f1 : (w2.setCell ⟨y, 0, none⟩ (.string x0.1)).frozen? ⟨y, 1, none⟩ = false := blk_open hs0 1
  have y1 : (w2.setCell ⟨y, 0, none⟩ (.string x0.1)).cell? ⟨y, 1, none⟩ = some (.int .i64 0) := blk_cell hs0 1 (.int .i64 0) rfl
  have hs1 := heap_set _ y 1 _ _ (.int .i64 x0.2) hs0
  obtain ⟨W3, hW3⟩ : ∃ W3, W3 = (w2.setCell ⟨y, 0, none⟩ (.string x0.1)).setCell ⟨y, 1, none⟩ (.int .i64 x0.2) := ⟨_, rfl⟩
  rw [← hW3] at hs1
  have hC3 : Cg (fun k => k = y) w2 W3 := by rw [hW3]; exact (cg_set w2 y 0 (.string x0.1)).trans (cg_set _ y 1 (.int .i64 x0.2)) (fun _ e => e) (fun _ _ e => e)
  have n3 : NodeW W3 b (.slice (some ⟨g, 0, none⟩) m c) (.slice none 0 0) := n2.kept (hC3.block b n2.lt HY.out.2.2.2)
  have CC := child_leaf b _ 0 W3 n3
  have z0 : W3.cell? ⟨y, 0, none⟩ = some (.string x0.1) := blk_cell hs1 0 (.string x0.1) rfl
  have z1 : W3.cell? ⟨y, 1, none⟩ = some (.int .i64 x0.2) := blk_cell hs1 1 (.int .i64 x0.2) rfl
  have q0 := blk_open hs1 0
  have hs2 := heap_set W3 y 0 _ _ (.string x0.1) hs1
  have q1 : (W3.setCell ⟨y, 0, none⟩ (.string x0.1)).frozen? ⟨y, 1, none⟩ = false := blk_open hs2 1
  have q2 : (W3.setCell ⟨y, 0, none⟩ (.string x0.1)).cell? ⟨y, 1, none⟩ = some (.int .i64 x0.2) := blk_cell hs2 1 (.int .i64 x0.2) rfl
  have hs3 := heap_set _ y 1 _ _ (.int .i64 x0.2) hs2
  have FIN : Hid (Below w.heap.size w ((W3.setCell ⟨y, 0, none⟩ (.string x0.1)).setCell ⟨y, 1, none⟩ (.int .i64 x0.2)) ∧ ((W3.setCell ⟨y, 0, none⟩ (.string x0.1)).setCell ⟨y, 1, none⟩ (.int .i64 x0.2)).cell? ⟨y, 0, none⟩ = some (.string x0.1) ∧ ((W3.setCell ⟨y, 0, none⟩ (.string x0.1)).setCell ⟨y, 1, none⟩ (.int .i64 x0.2)).cell? ⟨y, 1, none⟩ = some (.int .i64 x0.2)) := by
    refine ⟨?_, blk_cell hs3 0 _ rfl, blk_cell hs3 1 _ rfl⟩
    have bw2 : Below w.heap.size w w2 := HY.out.2.1.trans (b2.mono HY.out.2.1.size)
    have hC4 : Cg (fun k => k = y) W3 ((W3.setCell ⟨y, 0, none⟩ (.string x0.1)).setCell ⟨y, 1, none⟩ (.int .i64 x0.2)) := (cg_set W3 y 0 (.string x0.1)).trans (cg_set _ y 1 (.int .i64 x0.2)) (fun _ e => e) (fun _ _ e => e)
    exact bw2.trans ((hC3.trans hC4 (fun _ e => e) (fun _ _ e => e)).below bw2.size (fun k (e : k = y) => by rw [e]; exact HY.out.2.2.1))
  have HW3 : Hid ((w2.setCell ⟨y, 0, none⟩ (.string x0.1)).setCell ⟨y, 1, none⟩ (.int .i64 x0.2) = W3) := hW3.symm
  have FIN2 : ((W3.setCell ⟨y, 0, none⟩ (.string x0.1)).setCell ⟨y, 1, none⟩ (.int .i64 x0.2)).cell? ⟨y, 0, none⟩ = some (.string x0.1) := FIN.out.2.1
  have FIN3 : ((W3.setCell ⟨y, 0, none⟩ (.string x0.1)).setCell ⟨y, 1, none⟩ (.int .i64 x0.2)).cell? ⟨y, 1, none⟩ = some (.int .i64 x0.2) := FIN.out.2.2
  clear CF b2 n2 hy2 hs0 hs1 hW3 hC3 n3 hs2 hs3
  go_upto_region 7 with fail
  rw [HW3.out]
  clear HW3 c0 a0 a1 f0 y0 f1 y1
  go_wp2_with (go_at_call 41; refine CC.mono ?_; rintro e w' ⟨rfl, hw⟩; obtain rfl : W3 = w' := hw)
  rw [rounds_succ]
  go_wp2
  refine bodyPost_ret (v := .tuple #[.agg #[.string x0.1, .int .i64 x0.2], .bool true]) ?_ rfl ?_
  · rw [results_cell_tmp rfl]
    go_simp
  · exact ⟨rfl, FIN.out.1⟩
end Go.Proofs.Ytmdembfnpmlmaaa
