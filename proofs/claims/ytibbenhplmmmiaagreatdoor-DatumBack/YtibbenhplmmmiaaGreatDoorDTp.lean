/-
  datum.Print, datum.told and datum.Parse at whatever comes in.
-/
import Derived.Test.YtibbenhplmmmiaaGreatDoorDTm
import Derived.Test.YtibbenhplmmmiaaGreatDoorPtP
import Derived.Test.YtibbenhplmmmiaaGreatDoorMzVText
namespace Go.Proofs.YtibbenhplmmmiaaGreatDoor.Dt
open Go.RowKit Go.Shelf
attribute [local go_sem] cell?_more frozen?_more setCell_more more_lt more_more more_drew more_drewN setCell_drewN alloc_drewN

set_option maxHeartbeats 2000000 in
theorem boolText_any (n m : Int) (B : ByteArray) (w : World) : Calls Tryz.prog 38 #[va 4 n m B] w fun e w' => e = .returned (.string ⟨(if n = 1 then [116, 114, 117, 101] else [102, 97, 108, 115, 101] : List UInt8).toArray⟩) ∧ Grew w w' := by
  by_cases h : n = 1
  · subst h
    rw [if_pos rfl]
    go_enter Tryz.func38, Tryz.ntmps38
    go_wp2
    go_ret
    exact ⟨rfl, by repeat (first | assumption | exact Grew.refl _ | apply Grew.drew | apply Grew.drewN | apply Grew.alloc | apply Grew.more)⟩
  · rw [if_neg h]
    have h' : (n == 1) = false := by rw [beq_eq_false_iff_ne]; exact h
    go_enter Tryz.func38, Tryz.ntmps38
    go_wp2
    go_ret
    exact ⟨rfl, by repeat (first | assumption | exact Grew.refl _ | apply Grew.drew | apply Grew.drewN | apply Grew.alloc | apply Grew.more)⟩

set_option maxHeartbeats 2000000 in
theorem told_null (w : World) : Calls Tryz.prog 30 #[.string ⟨wN.toArray⟩] w fun e w' => e = .returned (.tuple #[va 0 0 0 ⟨#[]⟩, .bool true]) ∧ Below w.heap.size w w' := by
  have A0 : Below w.heap.size w (w.alloc (.cells #[.int .i64 0, .int .i64 0, .int .i64 0, .string ⟨#[]⟩] 23)) := (Below.refl _ w).alloc (Nat.le_refl _) _
  have bx := Box.new w 0 0 0 []
  go_enter Tryz.func30, Tryz.ntmps30
  go_wp2
  refine bodyPost_ret_by (v := .tuple #[va 0 0 0 ⟨#[]⟩, .bool true]) ?_ rfl ⟨rfl, ?_⟩
  · simp [results, Tryz.results30, go_sem]
  · first
      | exact A0
      | exact (((A0.setCell (p := ⟨w.heap.size, 0, none⟩) (Nat.le_refl _) _).setCell (p := ⟨w.heap.size, 1, none⟩) (Nat.le_refl _) _).setCell (p := ⟨w.heap.size, 2, none⟩) (Nat.le_refl _) _).setCell (p := ⟨w.heap.size, 3, none⟩) (Nat.le_refl _) _
set_option maxHeartbeats 2000000 in
theorem told_bool (b : Bool) (w : World) : Calls Tryz.prog 30 #[.string ⟨(if b then wT else wF).toArray⟩] w fun e w' => e = .returned (.tuple #[va 4 (if b then 1 else 0) 0 ⟨#[]⟩, .bool true]) ∧ Below w.heap.size w w' := by
  have A0 : Below w.heap.size w (w.alloc (.cells #[.int .i64 0, .int .i64 0, .int .i64 0, .string ⟨#[]⟩] 23)) := (Below.refl _ w).alloc (Nat.le_refl _) _
  have bx := Box.new w 0 0 0 []
  have O1 : ∀ W, Calls Tryz.prog 72 #[.int .i64 1] W fun e w' => e = .returned (va 4 1 0 ⟨#[]⟩) ∧ Grew W w' := fun W => of_any 1 W
  have O0 : ∀ W, Calls Tryz.prog 72 #[.int .i64 0] W fun e w' => e = .returned (va 4 0 0 ⟨#[]⟩) ∧ Grew W w' := fun W => of_any 0 W
  cases b with
  | true =>
    show Calls _ _ #[.string ⟨#[116, 114, 117, 101]⟩] _ fun e w' => e = .returned (.tuple #[va 4 1 0 ⟨#[]⟩, .bool true]) ∧ _
    go_enter Tryz.func30, Tryz.ntmps30
    go_wp2_with fail
    refine (O1 _).mono ?_
    rintro e w1 ⟨rfl, g1⟩
    have B1 := below_trans A0 g1.below
    have bx1 := bx.later g1.below
    obtain ⟨c0, c1, c2, c3⟩ := bx1.at4
    have f0 := bx1.free 0
    have f1 := bx1.free 1
    have f2 := bx1.free 2
    have f3 := bx1.free 3
    have lt1 := bx1.lt
    dsimp only at c0 c1 c2 c3
    simp only [Nat.zero_add] at c1 c2 c3
    clear bx bx1
    go_wp2
    refine bodyPost_ret_by (v := .tuple #[va 4 1 0 ⟨#[]⟩, .bool true]) ?_ rfl ⟨rfl, ?_⟩
    · simp [results, Tryz.results30, go_sem, c0, c1, c2, c3]
    · exact (((B1.setCell (p := ⟨w.heap.size, 0, none⟩) (Nat.le_refl _) _).setCell (p := ⟨w.heap.size, 1, none⟩) (Nat.le_refl _) _).setCell (p := ⟨w.heap.size, 2, none⟩) (Nat.le_refl _) _).setCell (p := ⟨w.heap.size, 3, none⟩) (Nat.le_refl _) _
  | false =>
    show Calls _ _ #[.string ⟨#[102, 97, 108, 115, 101]⟩] _ fun e w' => e = .returned (.tuple #[va 4 0 0 ⟨#[]⟩, .bool true]) ∧ _
    go_enter Tryz.func30, Tryz.ntmps30
    go_wp2_with fail
    refine (O0 _).mono ?_
    rintro e w1 ⟨rfl, g1⟩
    have B1 := below_trans A0 g1.below
    have bx1 := bx.later g1.below
    obtain ⟨c0, c1, c2, c3⟩ := bx1.at4
    have f0 := bx1.free 0
    have f1 := bx1.free 1
    have f2 := bx1.free 2
    have f3 := bx1.free 3
    have lt1 := bx1.lt
    dsimp only at c0 c1 c2 c3
    simp only [Nat.zero_add] at c1 c2 c3
    clear bx bx1
    go_wp2
    refine bodyPost_ret_by (v := .tuple #[va 4 0 0 ⟨#[]⟩, .bool true]) ?_ rfl ⟨rfl, ?_⟩
    · simp [results, Tryz.results30, go_sem, c0, c1, c2, c3]
    · exact (((B1.setCell (p := ⟨w.heap.size, 0, none⟩) (Nat.le_refl _) _).setCell (p := ⟨w.heap.size, 1, none⟩) (Nat.le_refl _) _).setCell (p := ⟨w.heap.size, 2, none⟩) (Nat.le_refl _) _).setCell (p := ⟨w.heap.size, 3, none⟩) (Nat.le_refl _) _

set_option maxHeartbeats 2000000 in
theorem told_pt (t : List UInt8) (x y er : Int) (w : World) (hl : t.length ≤ 140737488351232) (h39 : (t.head? == some 39) = false) (h60 : (t.head? == some 60) = true) (n1 : ((ByteArray.mk t.toArray).toList == [110, 117, 108, 108]) = false) (n2 : ((ByteArray.mk t.toArray).toList == [116, 114, 117, 101]) = false) (n3 : ((ByteArray.mk t.toArray).toList == [102, 97, 108, 115, 101]) = false)
    (G : ∀ W, Below w.heap.size w W → Calls Tryz.prog 75 #[.string ⟨t.toArray⟩] W fun e w' => e = .returned (.tuple #[.agg #[.int .i64 x, .int .i64 y], .int .i64 er]) ∧ Below W.heap.size W w') :
    Calls Tryz.prog 30 #[.string ⟨t.toArray⟩] w fun e w' => e = .returned (.tuple #[va 5 x y ⟨#[]⟩, .bool (er == 0)]) ∧ Below w.heap.size w w' := by
  have H39 : ∀ W, Calls Tryz.prog 73 #[.string ⟨t.toArray⟩, .string ⟨#[39]⟩] W fun e w' => e = .returned (.bool (t.head? == some 39)) ∧ W = w' := fun W => prefix_any ⟨t.toArray⟩ 39 W (by show t.length ≤ _; omega)
  have H60 : ∀ W, Calls Tryz.prog 73 #[.string ⟨t.toArray⟩, .string ⟨#[60]⟩] W fun e w' => e = .returned (.bool (t.head? == some 60)) ∧ W = w' := fun W => prefix_any ⟨t.toArray⟩ 60 W (by show t.length ≤ _; omega)
  rw [h60] at H60
  rw [h39] at H39
  have A0 : Below w.heap.size w (w.alloc (.cells #[.int .i64 0, .int .i64 0, .int .i64 0, .string ⟨#[]⟩] 23)) := (Below.refl _ w).alloc (Nat.le_refl _) _
  have G1 := G _ A0
  clear h39 h60 hl G
  generalize ByteArray.mk t.toArray = B at *
  go_enter Tryz.func30, Tryz.ntmps30
  go_wp2_with (first
    | (go_at_call 73; with_reducible refine (H39 _).mono ?_; rintro e w' ⟨rfl, rfl⟩)
    | (go_at_call 73; with_reducible refine (H60 _).mono ?_; rintro e w' ⟨rfl, rfl⟩)
    | (go_at_call 75; refine G1.mono ?_; rintro e w1 ⟨rfl, b1⟩; have bx : Box w1 w.heap.size ⟨0, 0, 0, []⟩ := (Box.new w 0 0 0 []).later b1; obtain ⟨c0, c1, c2, c3⟩ := bx.at4; have f0 := bx.free 0; have f1 := bx.free 1; have f2 := bx.free 2; have f3 := bx.free 3; have lt1 := bx.lt; clear bx))
  refine bodyPost_ret_by (v := .tuple #[va 5 x y ⟨#[]⟩, .bool (er == 0)]) ?_ rfl ⟨rfl, ?_⟩
  · simp [results, Tryz.results30, go_sem, c0, c1, c2, c3, lt1]
  · have b0 : Below w.heap.size w w1 := below_trans A0 b1
    have s1 := b0.size
    exact Below.alloc ((((b0.setCell (p := ⟨w.heap.size, 0, none⟩) (Nat.le_refl _) _).setCell (p := ⟨w.heap.size, 1, none⟩) (Nat.le_refl _) _).setCell (p := ⟨w.heap.size, 2, none⟩) (Nat.le_refl _) _).setCell (p := ⟨w.heap.size, 3, none⟩) (Nat.le_refl _) _) (by simp; omega) _
set_option maxHeartbeats 2000000 in
theorem told_num (t : List UInt8) (w : World) (hl : t.length ≤ 140737488351232) (h39 : (t.head? == some 39) = false) (h60 : (t.head? == some 60) = false) (n1 : ((ByteArray.mk t.toArray).toList == [110, 117, 108, 108]) = false) (n2 : ((ByteArray.mk t.toArray).toList == [116, 114, 117, 101]) = false) (n3 : ((ByteArray.mk t.toArray).toList == [102, 97, 108, 115, 101]) = false) :
    Calls Tryz.prog 30 #[.string ⟨t.toArray⟩] w fun e w' => e = .returned (.tuple #[vv (tnv t).1, .bool (tnv t).2]) ∧ Below w.heap.size w w' := by
  have H39 : ∀ W, Calls Tryz.prog 73 #[.string ⟨t.toArray⟩, .string ⟨#[39]⟩] W fun e w' => e = .returned (.bool (t.head? == some 39)) ∧ W = w' := fun W => prefix_any ⟨t.toArray⟩ 39 W (by show t.length ≤ _; omega)
  have H60 : ∀ W, Calls Tryz.prog 73 #[.string ⟨t.toArray⟩, .string ⟨#[60]⟩] W fun e w' => e = .returned (.bool (t.head? == some 60)) ∧ W = w' := fun W => prefix_any ⟨t.toArray⟩ 60 W (by show t.length ≤ _; omega)
  rw [h39] at H39
  rw [h60] at H60
  have N := fun W => toldNumber_any t W hl
  rcases hx : tnv t with ⟨⟨k, n, m, b⟩, ok⟩
  rw [hx] at N
  show Calls _ _ _ _ fun e w' => e = .returned (.tuple #[va k n m ⟨b.toArray⟩, .bool ok]) ∧ _
  have N' : ∀ W, Calls Tryz.prog 76 #[.string ⟨t.toArray⟩] W fun e w' => e = .returned (.tuple #[va k n m ⟨b.toArray⟩, .bool ok]) ∧ Below W.heap.size W w' := N
  clear N hx h60 h39 hl
  generalize ByteArray.mk t.toArray = B at *
  generalize ByteArray.mk b.toArray = C at *
  go_enter Tryz.func30, Tryz.ntmps30
  go_wp2_with (first
    | (go_at_call 73; with_reducible refine (H39 _).mono ?_; rintro e w' ⟨rfl, rfl⟩)
    | (go_at_call 73; with_reducible refine (H60 _).mono ?_; rintro e w' ⟨rfl, rfl⟩)
    | (go_at_call 76; refine (N' _).mono ?_; rintro e w1 ⟨rfl, b1⟩; have bx : Box w1 w.heap.size ⟨0, 0, 0, []⟩ := (Box.new w 0 0 0 []).later b1; obtain ⟨c0, c1, c2, c3⟩ := bx.at4; have f0 := bx.free 0; have f1 := bx.free 1; have f2 := bx.free 2; have f3 := bx.free 3; have lt1 := bx.lt; clear bx))
  refine bodyPost_ret_by (v := .tuple #[va k n m C, .bool ok]) ?_ rfl ⟨rfl, ?_⟩
  · simp [results, Tryz.results30, go_sem, c0, c1, c2, c3]
  · have b0 : Below w.heap.size w w1 := ((Below.refl _ w).alloc (Nat.le_refl _) _).trans (b1.mono (by simp))
    exact (((b0.setCell (p := ⟨w.heap.size, 0, none⟩) (Nat.le_refl _) _).setCell (p := ⟨w.heap.size, 1, none⟩) (Nat.le_refl _) _).setCell (p := ⟨w.heap.size, 2, none⟩) (Nat.le_refl _) _).setCell (p := ⟨w.heap.size, 3, none⟩) (Nat.le_refl _) _

set_option maxHeartbeats 2000000 in
theorem parse_of (t q b : List UInt8) (k n m : Int) (ok : Bool) (w : World) (heq : ((ByteArray.mk q.toArray).toList == (ByteArray.mk t.toArray).toList) = decide (q = t))
    (T0 : ∀ W, Below w.heap.size w W → Calls Tryz.prog 30 #[.string ⟨t.toArray⟩] W fun e w' => e = .returned (.tuple #[va k n m ⟨b.toArray⟩, .bool ok]) ∧ Below W.heap.size W w')
    (P' : ∀ W, Below w.heap.size w W → Calls Tryz.prog 8 #[va k n m ⟨b.toArray⟩] W fun e w' => e = .returned (.string ⟨q.toArray⟩) ∧ Below W.heap.size W w') :
    Calls Tryz.prog 6 #[.string ⟨t.toArray⟩] w fun e w' => e = .returned (dpR (if ok = true ∧ q = t then some ⟨k, n, m, b⟩ else none)) ∧ Below w.heap.size w w' := by
  have A0 : Below w.heap.size w (w.alloc (.cells #[.int .i64 0, .int .i64 0, .int .i64 0, .string ⟨#[]⟩] 23)) := (Below.refl _ w).alloc (Nat.le_refl _) _
  have T' := T0 _ A0
  clear T0 A0
  cases ok with
  | false =>
    rw [if_neg (by simp)]
    show Calls _ _ _ _ fun e w' => e = .returned (.tuple #[va 0 0 0 ⟨#[]⟩, .int .i64 21]) ∧ _
    clear P' heq
    generalize ByteArray.mk t.toArray = B at *
    go_enter Tryz.func6, Tryz.ntmps6
    go_wp2_with fail
    refine T'.mono ?_
    rintro e w1 ⟨rfl, b1⟩
    have bx : Box w1 w.heap.size ⟨0, 0, 0, []⟩ := (Box.new w 0 0 0 []).later b1
    have B1 : Below w.heap.size w w1 := ((Below.refl _ w).alloc (Nat.le_refl _) _).trans (b1.mono (by simp))
    have s1 := B1.size
    obtain ⟨c0, c1, c2, c3⟩ := bx.at4
    have f0 := bx.free 0
    have f1 := bx.free 1
    have f2 := bx.free 2
    have f3 := bx.free 3
    have lt1 := bx.lt
    clear b1 bx
    go_wp2
    refine bodyPost_ret_by (v := .tuple #[va 0 0 0 ⟨#[]⟩, .int .i64 21]) ?_ rfl ⟨rfl, ?_⟩
    · simp [results, Tryz.results6, go_sem, c0, c1, c2, c3, lt1]
    · refine Below.alloc ?_ (by simp; omega) _
      have B2 := B1
      exact (((B2.setCell (p := ⟨w.heap.size, 0, none⟩) (Nat.le_refl _) _).setCell (p := ⟨w.heap.size, 1, none⟩) (Nat.le_refl _) _).setCell (p := ⟨w.heap.size, 2, none⟩) (Nat.le_refl _) _).setCell (p := ⟨w.heap.size, 3, none⟩) (Nat.le_refl _) _
  | true =>
    by_cases hqt : q = t
    · rw [if_pos ⟨rfl, hqt⟩]
      rw [decide_eq_true hqt] at heq
      show Calls _ _ _ _ fun e w' => e = .returned (.tuple #[va k n m ⟨b.toArray⟩, .int .i64 0]) ∧ _
      clear hqt
      generalize ByteArray.mk t.toArray = B at *
      generalize ByteArray.mk q.toArray = D at *
      go_enter Tryz.func6, Tryz.ntmps6
      go_wp2_with fail
      refine T'.mono ?_
      rintro e w1 ⟨rfl, b1⟩
      have bx0 : Box w1 w.heap.size ⟨0, 0, 0, []⟩ := (Box.new w 0 0 0 []).later b1
      have B1 : Below w.heap.size w w1 := ((Below.refl _ w).alloc (Nat.le_refl _) _).trans (b1.mono (by simp))
      have s1 := B1.size
      clear b1
      go_wp2_with fail
      refine (P' _ (B1.alloc s1 _)).mono ?_
      rintro e w2 ⟨rfl, b2⟩
      have bx1 : Box w2 w1.heap.size ⟨k, n, m, b⟩ := (Box.new w1 k n m b).later b2
      have b12 : Below w1.heap.size w1 w2 := ((Below.refl _ w1).alloc (Nat.le_refl _) _).trans (b2.mono (by simp))
      have bx2 := bx0.later b12
      have B2 : Below w.heap.size w w2 := B1.trans (b12.mono s1)
      obtain ⟨c0, c1, c2, c3⟩ := bx1.at4
      obtain ⟨d0, d1, d2, d3⟩ := bx2.at4
      have f0 := bx2.free 0
      have f1 := bx2.free 1
      have f2 := bx2.free 2
      have f3 := bx2.free 3
      have lt1 := bx2.lt
      have lt2 := bx1.lt
      clear bx0 bx1 bx2 B1 b12 b2 P' T'
      go_wp2
      refine bodyPost_ret_by (v := .tuple #[va k n m ⟨b.toArray⟩, .int .i64 0]) ?_ rfl ⟨rfl, ?_⟩
      · simp [results, Tryz.results6, go_sem, d0, d1, d2, d3]
      · exact (((B2.setCell (p := ⟨w.heap.size, 0, none⟩) (Nat.le_refl _) _).setCell (p := ⟨w.heap.size, 1, none⟩) (Nat.le_refl _) _).setCell (p := ⟨w.heap.size, 2, none⟩) (Nat.le_refl _) _).setCell (p := ⟨w.heap.size, 3, none⟩) (Nat.le_refl _) _
    · rw [if_neg (by rintro ⟨_, h⟩; exact hqt h)]
      rw [decide_eq_false hqt] at heq
      show Calls _ _ _ _ fun e w' => e = .returned (.tuple #[va 0 0 0 ⟨#[]⟩, .int .i64 21]) ∧ _
      clear hqt
      generalize ByteArray.mk t.toArray = B at *
      generalize ByteArray.mk q.toArray = D at *
      go_enter Tryz.func6, Tryz.ntmps6
      go_wp2_with fail
      refine T'.mono ?_
      rintro e w1 ⟨rfl, b1⟩
      have bx0 : Box w1 w.heap.size ⟨0, 0, 0, []⟩ := (Box.new w 0 0 0 []).later b1
      have B1 : Below w.heap.size w w1 := ((Below.refl _ w).alloc (Nat.le_refl _) _).trans (b1.mono (by simp))
      have s1 := B1.size
      clear b1
      go_wp2_with fail
      refine (P' _ (B1.alloc s1 _)).mono ?_
      rintro e w2 ⟨rfl, b2⟩
      have bx1 : Box w2 w1.heap.size ⟨k, n, m, b⟩ := (Box.new w1 k n m b).later b2
      have b12 : Below w1.heap.size w1 w2 := ((Below.refl _ w1).alloc (Nat.le_refl _) _).trans (b2.mono (by simp))
      have bx2 := bx0.later b12
      have B2 : Below w.heap.size w w2 := B1.trans (b12.mono s1)
      obtain ⟨d0, d1, d2, d3⟩ := bx2.at4
      have f0 := bx2.free 0
      have f1 := bx2.free 1
      have f2 := bx2.free 2
      have f3 := bx2.free 3
      have lt1 := bx2.lt
      clear bx0 bx1 bx2 B1 b12 b2 P' T'
      go_wp2
      refine bodyPost_ret_by (v := .tuple #[va 0 0 0 ⟨#[]⟩, .int .i64 21]) ?_ rfl ⟨rfl, ?_⟩
      · simp [results, Tryz.results6, go_sem, d0, d1, d2, d3]
      · exact (((B2.setCell (p := ⟨w.heap.size, 0, none⟩) (Nat.le_refl _) _).setCell (p := ⟨w.heap.size, 1, none⟩) (Nat.le_refl _) _).setCell (p := ⟨w.heap.size, 2, none⟩) (Nat.le_refl _) _).setCell (p := ⟨w.heap.size, 3, none⟩) (Nat.le_refl _) _

set_option maxHeartbeats 2000000 in
theorem print0 (n m : Int) (b : List UInt8) (w : World) (hT : Tabs w) (hvr : vr ⟨0, n, m, b⟩ = true) :
    Calls Tryz.prog 8 #[va 0 n m ⟨b.toArray⟩] w fun e w' => e = .returned (.string ⟨wN.toArray⟩) ∧ Below w.heap.size w w' := by
  have R : ∀ W, Below w.heap.size w W → Calls Tryz.prog 34 #[va 0 n m ⟨b.toArray⟩] W fun e w' => e = .returned (.bool true) ∧ Below W.heap.size W w' := fun W h => by
    have := vright_any 0 n m ⟨b.toArray⟩ W (hT.later h)
    have e : (vr ⟨0, n, m, b⟩) = true := hvr
    refine this.mono fun e' w' ⟨h1, h2⟩ => ⟨?_, h2⟩
    rw [h1]
    exact congrArg (fun z => Ending.returned (Value.bool z)) e
  have B0 := Box.new w 0 n m b
  have A0 := (Below.refl w.heap.size w).alloc (Nat.le_refl _) (.cells #[.int .i64 0, .int .i64 n, .int .i64 m, .string ⟨b.toArray⟩] 23)
  clear hT hvr
  go_enter Tryz.func8, Tryz.ntmps8
  go_wp2_with (go_at_call 34; refine (R _ A0).mono ?_; rintro e w1 ⟨rfl, b1⟩; have bx := B0.later b1; obtain ⟨c0, c1, c2, c3⟩ := bx.at4; have lt1 := bx.lt)
  go_ret
  exact ⟨rfl, A0.trans (b1.mono (by simp))⟩
set_option maxHeartbeats 2000000 in
theorem print4 (n m : Int) (b : List UInt8) (w : World) (hT : Tabs w) (hvr : vr ⟨4, n, m, b⟩ = true) :
    Calls Tryz.prog 8 #[va 4 n m ⟨b.toArray⟩] w fun e w' => e = .returned (.string ⟨(if n = 1 then [116, 114, 117, 101] else [102, 97, 108, 115, 101] : List UInt8).toArray⟩) ∧ Below w.heap.size w w' := by
  have R : ∀ W, Below w.heap.size w W → Calls Tryz.prog 34 #[va 4 n m ⟨b.toArray⟩] W fun e w' => e = .returned (.bool true) ∧ Below W.heap.size W w' := fun W h => by
    have := vright_any 4 n m ⟨b.toArray⟩ W (hT.later h)
    have e : (vr ⟨4, n, m, b⟩) = true := hvr
    refine this.mono fun e' w' ⟨h1, h2⟩ => ⟨?_, h2⟩
    rw [h1]
    exact congrArg (fun z => Ending.returned (Value.bool z)) e
  have B0 := Box.new w 4 n m b
  have A0 := (Below.refl w.heap.size w).alloc (Nat.le_refl _) (.cells #[.int .i64 4, .int .i64 n, .int .i64 m, .string ⟨b.toArray⟩] 23)
  clear hT hvr
  have BT := fun W => boolText_any n m ⟨b.toArray⟩ W
  generalize (if n = 1 then [116, 114, 117, 101] else [102, 97, 108, 115, 101] : List UInt8) = T at *
  go_enter Tryz.func8, Tryz.ntmps8
  go_wp2_with (first
    | (go_at_call 34; refine (R _ A0).mono ?_; rintro e w1 ⟨rfl, b1⟩; have bx := B0.later b1; obtain ⟨c0, c1, c2, c3⟩ := bx.at4; have lt1 := bx.lt)
    | (go_at_call 38; refine (BT _).mono ?_; rintro e w2 ⟨rfl, g2⟩))
  go_ret
  exact ⟨rfl, below_trans (A0.trans (b1.mono (by simp))) g2.below⟩
set_option maxHeartbeats 2000000 in
theorem print5 (n m : Int) (b : List UInt8) (w : World) (hT : Tabs w) (hvr : vr ⟨5, n, m, b⟩ = true) (hP : Pt.Ptab w) (hg : (Pt.ok1 n && Pt.ok1 m) = true) :
    Calls Tryz.prog 8 #[va 5 n m ⟨b.toArray⟩] w fun e w' => e = .returned (.string ⟨(Pt.gtx n m).toArray⟩) ∧ Below w.heap.size w w' := by
  have R : ∀ W, Below w.heap.size w W → Calls Tryz.prog 34 #[va 5 n m ⟨b.toArray⟩] W fun e w' => e = .returned (.bool true) ∧ Below W.heap.size W w' := fun W h => by
    have := vright_any 5 n m ⟨b.toArray⟩ W (hT.later h)
    have e : (vr ⟨5, n, m, b⟩) = true := hvr
    refine this.mono fun e' w' ⟨h1, h2⟩ => ⟨?_, h2⟩
    rw [h1]
    exact congrArg (fun z => Ending.returned (Value.bool z)) e
  have B0 := Box.new w 5 n m b
  have A0 := (Below.refl w.heap.size w).alloc (Nat.le_refl _) (.cells #[.int .i64 5, .int .i64 n, .int .i64 m, .string ⟨b.toArray⟩] 23)
  clear hT hvr
  have PO : ∀ W, Calls Tryz.prog 40 #[va 5 n m ⟨b.toArray⟩] W fun e w' => e = .returned (dv n m) ∧ Grew W w' := fun W => point_any 5 n m ⟨b.toArray⟩ W
  have GP : ∀ W, Below w.heap.size w W → Calls Tryz.prog 39 #[dv n m] W fun e w' => e = .returned (.string ⟨(Pt.gtx n m).toArray⟩) ∧ Below W.heap.size W w' := fun W h => Pt.gprint_ok n m W (hP.later h) hg
  clear hP hg
  generalize ByteArray.mk (Pt.gtx n m).toArray = T at *
  go_enter Tryz.func8, Tryz.ntmps8
  go_wp2_with fail
  refine (R _ A0).mono ?_
  rintro e w1 ⟨rfl, b1⟩
  have bx := B0.later b1
  obtain ⟨c0, c1, c2, c3⟩ := bx.at4
  have lt1 := bx.lt
  have B1 := A0.trans (b1.mono (by simp))
  go_wp2_with fail
  refine (PO _).mono ?_
  rintro e w2 ⟨rfl, g2⟩
  have B2 := below_trans B1 g2.below
  go_wp2_with fail
  refine (GP _ B2).mono ?_
  rintro e w3 ⟨rfl, b3⟩
  have B3 := below_trans B2 b3
  go_wp2
  go_ret
  exact ⟨rfl, B3⟩
set_option maxHeartbeats 2000000 in
theorem print_no (k n m : Int) (b : List UInt8) (w : World) (hT : Tabs w) (hvr : vr ⟨k, n, m, b⟩ = false) :
    Calls Tryz.prog 8 #[va k n m ⟨b.toArray⟩] w fun e w' => e = .returned (.string ⟨#[]⟩) ∧ Below w.heap.size w w' := by
  have R : ∀ W, Below w.heap.size w W → Calls Tryz.prog 34 #[va k n m ⟨b.toArray⟩] W fun e w' => e = .returned (.bool false) ∧ Below W.heap.size W w' := fun W h => by
    have := vright_any k n m ⟨b.toArray⟩ W (hT.later h)
    have e : (vr ⟨k, n, m, b⟩) = false := hvr
    refine this.mono fun e' w' ⟨h1, h2⟩ => ⟨?_, h2⟩
    rw [h1]
    exact congrArg (fun z => Ending.returned (Value.bool z)) e
  have B0 := Box.new w k n m b
  have A0 := (Below.refl w.heap.size w).alloc (Nat.le_refl _) (.cells #[.int .i64 k, .int .i64 n, .int .i64 m, .string ⟨b.toArray⟩] 23)
  clear hT hvr
  go_enter Tryz.func8, Tryz.ntmps8
  go_wp2_with (go_at_call 34; refine (R _ A0).mono ?_; rintro e w1 ⟨rfl, b1⟩)
  go_ret
  exact ⟨rfl, A0.trans (b1.mono (by simp))⟩
theorem ptab_old {w : World} (h : Pt.Ptab w) : Ptab w := h
/-- The text of whatever value. -/
theorem print_any (v : Va) (w : World) (hT : Tabs w) (hP : Pt.Ptab w) (hn : rg v) : Calls Tryz.prog 8 #[vv v] w fun e w' => e = .returned (.string ⟨(tx v).toArray⟩) ∧ Below w.heap.size w w' := by
  cases hvr : vr v with
  | false => rw [tx_no hvr]; exact print_no v.k v.n v.m v.b w hT hvr
  | true =>
    have hok := (vr_iff v).1 hvr
    have hx : tx v = (if v.k = 1 ∨ v.k = 2 ∨ v.k = 3 then ptext v else if v.k = 4 then (if v.n = 1 then wT else wF) else if v.k = 5 then Pt.gtx v.n v.m else wN) := by unfold tx; rw [hvr, if_pos rfl]
    rw [hx]
    by_cases h123 : v.k = 1 ∨ v.k = 2 ∨ v.k = 3
    · rw [if_pos h123]
      have h := vprint_any v w hT (ptab_old hP) h123 hn
      have e : pv v = ptext v := by unfold pv; rw [hvr, if_pos rfl]
      rwa [e] at h
    rw [if_neg h123]
    obtain ⟨k, n, m, b⟩ := v
    dsimp only at h123 ⊢
    unfold vok at hok
    dsimp only at hok
    by_cases h4 : k = 4
    · subst h4; rw [if_pos rfl]; exact print4 n m b w hT hvr
    rw [if_neg h4]
    by_cases h5 : k = 5
    · subst h5
      rw [if_pos rfl]
      refine print5 n m b w hT hvr hP ?_
      have hq : (-1048576 ≤ n ∧ n ≤ 1048576) ∧ (-1048576 ≤ m ∧ m ≤ 1048576) := by simp at hok; omega
      rw [(Pt.ok1_iff n).2 hq.1, (Pt.ok1_iff m).2 hq.2]; rfl
    · rw [if_neg h5]
      have hk : k = 0 := by omega
      subst hk
      exact print0 n m b w hT hvr

theorem ba_ne (t u : List UInt8) (h : t ≠ u) : ((ByteArray.mk t.toArray).toList == u) = false := by
  rw [ByteArray.toList_eq, beq_eq_false_iff_ne]; exact h
theorem told_any (t : List UInt8) (w : World) (hl : t.length ≤ 140737488351232) (hP : Pt.Ptab w) (hE : Pt.Ers w) : Calls Tryz.prog 30 #[.string ⟨t.toArray⟩] w fun e w' => e = .returned (.tuple #[vv (tl t).1, .bool (tl t).2]) ∧ Below w.heap.size w w' := by
  unfold tl
  by_cases hN : t = wN
  · subst hN; rw [if_pos rfl]; exact told_null w
  rw [if_neg hN]
  by_cases hT : t = wT
  · subst hT; rw [if_pos rfl]; exact told_bool true w
  rw [if_neg hT]
  by_cases hF : t = wF
  · subst hF; rw [if_pos rfl]; exact told_bool false w
  rw [if_neg hF]
  by_cases h39 : t.head? = some 39
  · rw [if_pos h39]
    obtain ⟨l, rfl⟩ : ∃ l, t = 39 :: l := by cases t with | nil => cases h39 | cons c l => (simp at h39; exact ⟨l, by rw [h39]⟩)
    have h := vtold_any (39 :: l) w hl ⟨39, l, rfl, .inl rfl⟩
    unfold tlv at h
    rw [if_pos h39] at h
    exact h
  rw [if_neg h39]
  by_cases h60 : t.head? = some 60
  · rw [if_pos h60]
    exact told_pt t _ _ _ w hl (by simpa using h39) (by simpa using h60) (ba_ne _ _ hN) (ba_ne _ _ hT) (ba_ne _ _ hF) (fun W h => Pt.gparse_any t W (hP.later h) (hE.later h) (by omega))
  · rw [if_neg h60]
    exact told_num t w hl (by simpa using h39) (by simpa using h60) (ba_ne _ _ hN) (ba_ne _ _ hT) (ba_ne _ _ hF)
/-- What datum.Parse answers of whatever text. -/
theorem parse_any (t : List UInt8) (w : World) (hl : t.length ≤ 140737488351232) (hT : Tabs w) (hP : Pt.Ptab w) (hE : Pt.Ers w) : Calls Tryz.prog 6 #[.string ⟨t.toArray⟩] w fun e w' => e = .returned (dpR (dpG t)) ∧ Below w.heap.size w w' := by
  unfold dpG
  have h := parse_of t (tx (tl t).1) (tl t).1.b (tl t).1.k (tl t).1.n (tl t).1.m (tl t).2 w (ba_beq _ _) (fun W h => told_any t W hl (hP.later h) (hE.later h)) (fun W h => print_any (tl t).1 W (hT.later h) (hP.later h) (tl_rg t))
  exact h
end Go.Proofs.YtibbenhplmmmiaaGreatDoor.Dt
