/-
  A tree whose root is a leaf: put, next, remove, how many.
-/
import Derived.Test.YtmdembfnpmlmaaaTnB
import Derived.Deep.RegionHeld2
import Derived.Deep.Cut
namespace Go.Proofs.Ytmdembfnpmlmaaa
open Go.RowKit Go.Lib

/-- A tree whose root is a leaf with es. -/
structure TL (w : World) (N T B b : Nat) (sa : Option Addr) (c : Nat) (es : List Ent) : Prop where
  t : w.heap[T]? = some (.cells #[.pointer (some ⟨B, 0, none⟩)] 49 (0, 0))
  p : w.heap[B]? = some (.cells #[.pointer (some ⟨b, 0, none⟩), .int .i64 (es.length : Int)] 57 (0, 0))
  n : NodeW w b (.slice sa es.length c) (.slice none 0 0)
  o : OwE w N (.slice sa es.length c) es
  l : N ≤ T ∧ N ≤ B ∧ N ≤ b

/-- A tree without entries. -/
structure TE (w : World) (N T B : Nat) : Prop where
  t : w.heap[T]? = some (.cells #[.pointer (some ⟨B, 0, none⟩)] 49 (0, 0))
  p : w.heap[B]? = some (.cells #[.pointer none, .int .i64 0] 57 (0, 0))
  l : N ≤ T ∧ N ≤ B

theorem ne_types {w : World} {a b : Nat} {c c' : Array Value} {t t' : TypeId} {f f' : Nat × Nat} (h : w.heap[a]? = some (.cells c t f)) (h' : w.heap[b]? = some (.cells c' t' f')) (ht : t ≠ t') : a ≠ b := by
  rintro rfl
  rw [h] at h'
  cases h'
  exact ht rfl

theorem row_type {w : World} {N n : Nat} {sa : Option Addr} {c : Nat} {es : List Ent} (h : OwE w N (.slice sa n c) es) {g : Nat} (e : (Value.slice sa n c).ownBlock = some g) : ∃ cur, w.heap[g]? = some (.cells cur 65 (0, 0)) := by
  rcases own_val h with ⟨e3, -⟩ | ⟨g', cap, e3, -⟩
  · rw [e3] at e; cases e
  · have h2 := h
    unfold OwE at h2
    rw [e3] at h2 e
    obtain ⟨cur, hcur, -⟩ := own_cell h2
    simp [Value.ownBlock] at e
    rw [← e]
    exact ⟨cur, hcur⟩

theorem lt_of_some {w : World} {b : Nat} {o : Obj} (h : w.heap[b]? = some o) : b < w.heap.size := (Array.getElem?_eq_some_iff.1 h).1

theorem TL.later {w w' : World} {N T B b : Nat} {sa : Option Addr} {c : Nat} {es : List Ent} (h : TL w N T B b sa c es) (hb : Below w.heap.size w w') : TL w' N T B b sa c es :=
  ⟨(hb.block _ (lt_of_some h.t)).trans h.t, (hb.block _ (lt_of_some h.p)).trans h.p, h.n.kept (hb.block _ h.n.lt), own_kept h.o (fun g e => hb.block g (World.ownsRow.lt h.o g e).2), h.l⟩

theorem TE.later {w w' : World} {N T B : Nat} (h : TE w N T B) (hb : Below w.heap.size w w') : TE w' N T B :=
  ⟨(hb.block _ (lt_of_some h.t)).trans h.t, (hb.block _ (lt_of_some h.p)).trans h.p, h.l⟩

theorem wasMade_any (T B : Nat) (w : World) (h : w.heap[T]? = some (.cells #[.pointer (some ⟨B, 0, none⟩)] 49 (0, 0))) :
    Calls Try.prog 27 #[.pointer (some ⟨T, 0, none⟩)] w fun e w' => e = .returned (.bool true) ∧ w' = w := by
  have c0 := blk_cell h 0 (.pointer (some ⟨B, 0, none⟩)) rfl
  clear h
  go_enter Try.func27, Try.ntmps27
  go_wp2
  go_ret
  exact ⟨rfl, rfl⟩

theorem New_any (w : World) : Calls Try.prog 8 #[] w fun e w' => ∃ T B, e = .returned (.pointer (some ⟨T, 0, none⟩)) ∧ TE w' w.heap.size T B ∧ Below w.heap.size w w' := by
  go_enter Try.func8, Try.ntmps8
  go_wp2
  go_ret
  have s1 : (w.alloc (.cells #[.pointer none, .int .i64 0] 57)).heap.size = w.heap.size + 1 := by simp
  have m1 := heap_alloc_new w (.cells #[.pointer none, .int .i64 0] 57)
  have m2 := fun o => heap_alloc_new (w.alloc (.cells #[.pointer none, .int .i64 0] 57)) o
  rw [s1] at m2
  exact ⟨w.heap.size + 1, w.heap.size, rfl, ⟨m2 _, (Below.heap_alloc _ _ _ (by rw [s1]; omega)).trans m1, by omega, Nat.le_refl _⟩, ((Below.refl _ w).alloc (Nat.le_refl _) _).alloc (by simp) _⟩

set_option maxRecDepth 20000 in
set_option maxHeartbeats 2000000 in
theorem bput_empty (N T B : Nat) (key : ByteArray) (n : Int) (w : World) (h : TE w N T B) (hN : N ≤ w.heap.size) :
    Calls Try.prog 30 #[.pointer (some ⟨B, 0, none⟩), .string key, .int .i64 n] w fun e w' => e = .returned (.tuple #[.int .i64 0, .bool false]) ∧ ∃ b sa c, TL w' N T B b sa c [(key, n)] ∧ Below N w w' := by
  have c0 := blk_cell h.p 0 (.pointer none) rfl
  have f0 := blk_open h.p 0
  obtain ⟨W1, hW1⟩ : ∃ W1, W1 = w.alloc (.cells #[.slice none 0 0, .slice none 0 0] 75) := ⟨_, rfl⟩
  have b1 : Below w.heap.size w W1 := by rw [hW1]; exact (Below.refl _ _).alloc (Nat.le_refl _) _
  have hN1 : W1.heap[w.heap.size]? = some (.cells #[.slice none 0 0, .slice none 0 0] 75 (0, 0)) := by rw [hW1]; exact heap_alloc_new w _
  have h1 := h.later b1
  have g0 := blk_open h1.p 0
  have d0 := blk_cell h1.p 0 (.pointer none) rfl
  obtain ⟨b, hb⟩ : ∃ b, b = w.heap.size := ⟨_, rfl⟩
  rw [← hb] at hN1
  obtain ⟨W2, hW2⟩ : ∃ W2, W2 = W1.setCell ⟨B, 0, none⟩ (.pointer (some ⟨b, 0, none⟩)) := ⟨_, rfl⟩
  have hC2 := cg_set W1 B 0 (.pointer (some ⟨b, 0, none⟩))
  have p2 : W2.heap[B]? = some (.cells #[.pointer (some ⟨b, 0, none⟩), .int .i64 0] 57 (0, 0)) := by rw [hW2]; exact heap_set W1 B 0 _ _ _ h1.p
  rw [← hW2] at hC2
  have hbB : b ≠ B := ne_types hN1 h1.p (by decide)
  have hTB : T ≠ B := ne_types h1.t h1.p (by decide)
  have n2 : NodeW W2 b (.slice none 0 0) (.slice none 0 0) := (hC2.block b (lt_of_some hN1) hbB).trans hN1
  have t2 := (hC2.block T (lt_of_some h1.t) hTB).trans h1.t
  have o2 : OwE W2 N (.slice none 0 0) [] := World.ownsRow_nil _ _ _ _
  have CP := nput_leaf b N none 0 [] key n 0 W2 n2 o2 (fun i j hi => absurd hi (by simp)) (by simp) (fun j hj => by have := hj.1; simpa using this) (Nat.le_refl _) rfl (Nat.le_trans (Nat.le_trans hN b1.size) hC2.size)
  have k0 := blk_cell p2 0 (.pointer (some ⟨b, 0, none⟩)) rfl
  have HX : Hid (W2.heap[B]? = some (.cells #[.pointer (some ⟨b, 0, none⟩), .int .i64 0] 57 (0, 0)) ∧ W2.heap[T]? = some (.cells #[.pointer (some ⟨B, 0, none⟩)] 49 (0, 0)) ∧ b ≠ B ∧ T ≠ b ∧ T ≠ B ∧ Below N w W2 ∧ (N ≤ T ∧ N ≤ B ∧ N ≤ b) ∧ N ≤ w.heap.size) :=
    ⟨p2, t2, hbB, ne_types h1.t hN1 (by decide), hTB, (b1.mono hN).trans (hC2.below (Nat.le_trans hN b1.size) (fun k (e : k = B) => by rw [e]; exact h.l.2)), ⟨h.l.1, h.l.2, by omega⟩, hN⟩
  clear h b1 hN1 h1 hC2 p2 hbB hTB n2 t2 o2 hN
  rw [hW1] at g0 d0
  have HW : Hid (w.alloc (.cells #[.slice none 0 0, .slice none 0 0] 75) = W1 ∧ w.heap.size = b ∧ W1.setCell ⟨B, 0, none⟩ (.pointer (some ⟨b, 0, none⟩)) = W2) := ⟨hW1.symm, hb.symm, hW2.symm⟩
  clear hW1 hb hW2
  go_enter Try.func30, Try.ntmps30
  go_upto_region 2 with fail
  go_upto_region 3 with fail
  rw [HW.out.1, HW.out.2.1, HW.out.2.2]
  clear c0 f0 g0 d0 HW
  go_wp2_with fail
  refine CP.mono ?_
  rintro e w3 ⟨rfl, s3, c3, n3, o3, hC3⟩
  simp only [List.length_nil, Nat.zero_add, List.take_nil, List.drop_nil, List.nil_append] at n3 o3
  have hBn : ¬ (B = b ∨ some B = (Value.slice none ([] : List Ent).length 0).ownBlock) := fun e => e.elim (fun e => HX.out.2.2.1 e.symm) (fun e => by cases e)
  have p3 := (hC3.block B (lt_of_some HX.out.1) hBn).trans HX.out.1
  have t3 := (hC3.block T (lt_of_some HX.out.2.1) (fun e => e.elim HX.out.2.2.2.1 (fun e => by cases e))).trans HX.out.2.1
  have r0 := blk_cell p3 0 (.pointer (some ⟨b, 0, none⟩)) rfl
  have r1 := blk_cell p3 1 (.int .i64 0) rfl
  have rf := blk_open p3 1
  have q0 := n3.c0
  have hC4 := cg_set w3 B 1 (.int .i64 1)
  have FIN : Hid (TL (w3.setCell ⟨B, 1, none⟩ (.int .i64 1)) N T B b s3 c3 [(key, n)] ∧ Below N w (w3.setCell ⟨B, 1, none⟩ (.int .i64 1))) := by
    refine ⟨⟨(hC4.block T (lt_of_some t3) HX.out.2.2.2.2.1).trans t3, heap_set w3 B 1 _ _ _ p3, n3.kept (hC4.block b n3.lt HX.out.2.2.1), own_kept o3 (fun g e => hC4.block g (World.ownsRow.lt o3 g e).2 (fun e2 => ?_)), HX.out.2.2.2.2.2.2.1⟩, ?_⟩
    · obtain ⟨cur, hcur⟩ := row_type o3 e
      exact ne_types hcur p3 (by decide) e2
    · have x := HX.out.2.2.2.2.2.2.1
      have y := HX.out.2.2.2.2.2.1
      refine (y.trans (hC3.below (Nat.le_trans HX.out.2.2.2.2.2.2.2 y.size) (fun k e => ?_))).trans (hC4.below (Nat.le_trans (Nat.le_trans HX.out.2.2.2.2.2.2.2 y.size) hC3.size) (fun k (e : k = B) => by rw [e]; exact x.2.1))
      rcases e with e | e
      · rw [e]; exact x.2.2
      · cases e
  clear CP n3 o3 hC3 hBn p3 t3 hC4 k0
  go_wp2
  go_ret2
  exact ⟨rfl, b, s3, c3, FIN.out⟩
end Go.Proofs.Ytmdembfnpmlmaaa
