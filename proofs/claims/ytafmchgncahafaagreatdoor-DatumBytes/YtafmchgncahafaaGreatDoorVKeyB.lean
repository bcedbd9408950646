/-
  The contracts of datum.appendKey and datum.Key.
-/
import Derived.Test.YtafmchgncahafaaGreatDoorVKeyA
import Derived.Deep.RegionHeld3
import Derived.Deep.AppendLies
namespace Go.Proofs.YtafmchgncahafaaGreatDoor
open Go.RowKit Go.Shelf
attribute [local go_sem] cell?_more frozen?_more setCell_more more_lt more_more more_drew more_drewN setCell_drewN alloc_drewN

set_option maxRecDepth 20000 in
set_option maxHeartbeats 4000000 in
theorem appendKey_0 (x : Value) (bs : List UInt8) (base : Nat)  (w : World) (hown : Own w base x bs) (hb : base ≤ w.heap.size) (hl : bs.length ≤ 999000) :
    Calls Tryz.prog 29 #[x, va 0 0 0 ⟨#[]⟩] w fun e w' => ∃ v', e = .returned v' ∧ Own w' base v' (bs ++ vkey ⟨0, 0, 0, []⟩) ∧ Below base w w' := by
  obtain ⟨i0, hi, hz0, hz1, hz2⟩ := info_parts Tryz.info5
  have boxA := Box.new w 0 0 0 []
  have ownA : Own (w.alloc (.cells #[.int .i64 0, .int .i64 0, .int .i64 0, .string ⟨#[]⟩] 47)) base x bs := World.ownsRow.alloc hown _
  have belA : Below base w (w.alloc (.cells #[.int .i64 0, .int .i64 0, .int .i64 0, .string ⟨#[]⟩] 47)) := (Below.refl _ _).alloc hb _
  have szA := belA.size
  obtain ⟨Z, hZ⟩ : ∃ Z, Z = vkey ⟨0, 0, 0, []⟩ := ⟨_, rfl⟩
  have HZ : Hid (Z = vkey ⟨0, 0, 0, []⟩) := hZ
  rw [← hZ]
  clear hZ
  go_enter Tryz.func29, Tryz.ntmps29
  go_upto_region 1 with fail
  generalize w.alloc (.cells #[.int .i64 0, .int .i64 0, .int .i64 0, .string ⟨#[]⟩] 47) = wA at *
  obtain ⟨c0, c1, c2, c3⟩ := boxA.at4
  simp only at c0 c1 c2 c3
  go_wp2_with (at_builtin; refine wpList_append_own _ rfl _ _ 23 rfl base 5 i0 (.int .u8 0) 1 1 Tryz.underlying23 hi hz0 hz1 hz2 rfl (by decide) _ _ _ rfl (World.ownsRow.alloc ownA _) ⟨wA.heap.size, 0, none⟩ 1 1 [.int .u8 1] rfl rfl (cell_one_new _ _ _) (one_cell _ _) (by unfold maxLen; omega) (by omega) (by simp; omega) ?_)
  intro v1 w1 hown1 hgrow1 _
  have bel1 : Below base w w1 := ((belA.alloc (by omega) _).grown hgrow1 (by simp; omega) (fun k hk => (World.ownsRow.lt ownA k hk).1))
  have ho1 := own_push (b := 1) hown1
  have sz1 := bel1.size
  clear hown1 hgrow1
  go_wp2
  go_ret
  exact ⟨_, rfl, by rw [HZ.out]; simpa [vkey] using ho1, bel1⟩

set_option maxRecDepth 20000 in
set_option maxHeartbeats 4000000 in
theorem appendKey_4 (x : Value) (bs : List UInt8) (base : Nat) (n : Int) (w : World) (hown : Own w base x bs) (hb : base ≤ w.heap.size) (hl : bs.length ≤ 999000) (hn0 : 0 ≤ n) (hn1 : n ≤ 1) :
    Calls Tryz.prog 29 #[x, va 4 n 0 ⟨#[]⟩] w fun e w' => ∃ v', e = .returned v' ∧ Own w' base v' (bs ++ vkey ⟨4, n, 0, []⟩) ∧ Below base w w' := by
  obtain ⟨i0, hi, hz0, hz1, hz2⟩ := info_parts Tryz.info5
  have boxA := Box.new w 4 n 0 []
  have ownA : Own (w.alloc (.cells #[.int .i64 4, .int .i64 n, .int .i64 0, .string ⟨#[]⟩] 47)) base x bs := World.ownsRow.alloc hown _
  have belA : Below base w (w.alloc (.cells #[.int .i64 4, .int .i64 n, .int .i64 0, .string ⟨#[]⟩] 47)) := (Below.refl _ _).alloc hb _
  have szA := belA.size
  obtain ⟨Z, hZ⟩ : ∃ Z, Z = vkey ⟨4, n, 0, []⟩ := ⟨_, rfl⟩
  have HZ : Hid (Z = vkey ⟨4, n, 0, []⟩) := hZ
  rw [← hZ]
  clear hZ
  have hby : n = ((UInt8.ofNat n.toNat).toNat : Int) := by
    have : n = 0 ∨ n = 1 := by omega
    rcases this with rfl | rfl <;> rfl
  have HB : Hid (n = ((UInt8.ofNat n.toNat).toNat : Int)) := hby
  clear hby
  go_enter Tryz.func29, Tryz.ntmps29
  go_upto_region 1 with fail
  generalize w.alloc (.cells #[.int .i64 4, .int .i64 n, .int .i64 0, .string ⟨#[]⟩] 47) = wA at *
  obtain ⟨c0, c1, c2, c3⟩ := boxA.at4
  simp only at c0 c1 c2 c3
  go_wp2_with (at_builtin; refine wpList_append_own _ rfl _ _ 23 rfl base 5 i0 (.int .u8 0) 1 1 Tryz.underlying23 hi hz0 hz1 hz2 rfl (by decide) _ _ _ rfl (World.ownsRow.alloc ownA _) ⟨wA.heap.size, 0, none⟩ 2 2 [.int .u8 4, .int .u8 n] rfl rfl (cell_two_new _ _ _ _) (fun x hx => by simp at hx; rcases hx with rfl | rfl <;> rfl) (by unfold maxLen; omega) (by omega) (by simp; omega) ?_)
  intro v1 w1 hown1 hgrow1 _
  have bel1 : Below base w w1 := ((belA.alloc (by omega) _).grown hgrow1 (by simp; omega) (fun k hk => (World.ownsRow.lt ownA k hk).1))
  have ho1 := own_two (b := 4) (c := UInt8.ofNat n.toNat) (by rw [← HB.out]; exact hown1)
  have sz1 := bel1.size
  clear hown1 hgrow1
  go_wp2
  go_ret
  exact ⟨_, rfl, by rw [HZ.out]; simpa [vkey] using ho1, bel1⟩

theorem KpD {a w w' : World} {base : Nat} {x : Value} {bs : List UInt8} {o : Obj} (h : Kp a w) (ho : Own w base x bs) (hg : (w.alloc o).drew.grownBy w' x.ownBlock) : Kp a w' :=
  fun p v hb => Box.kept (w := (w.alloc o).drew) ((h p v hb).later ((Below.refl _ w).alloc (Nat.le_refl _) o).drew) (World.ownsRow.alloc ho _) hg

set_option maxRecDepth 20000 in
set_option maxHeartbeats 4000000 in
theorem appendKey_3 (x : Value) (bs : List UInt8) (base : Nat) (b : List UInt8) (w : World) (hown : Own w base x bs) (hb : base ≤ w.heap.size) (hl : bs.length ≤ 999000) (hbl : b.length ≤ 256) :
    Calls Tryz.prog 29 #[x, va 3 0 0 ⟨b.toArray⟩] w fun e w' => ∃ v', e = .returned v' ∧ Own w' base v' (bs ++ vkey ⟨3, 0, 0, b⟩) ∧ Below base w w' := by
  obtain ⟨i0, hi, hz0, hz1, hz2⟩ := info_parts Tryz.info5
  have boxA := Box.new w 3 0 0 b
  have ownA : Own (w.alloc (.cells #[.int .i64 3, .int .i64 0, .int .i64 0, .string ⟨b.toArray⟩] 47)) base x bs := World.ownsRow.alloc hown _
  have belA : Below base w (w.alloc (.cells #[.int .i64 3, .int .i64 0, .int .i64 0, .string ⟨b.toArray⟩] 47)) := (Below.refl _ _).alloc hb _
  have szA := belA.size
  obtain ⟨Z, hZ⟩ : ∃ Z, Z = vkey ⟨3, 0, 0, b⟩ := ⟨_, rfl⟩
  have HZ : Hid (Z = vkey ⟨3, 0, 0, b⟩) := hZ
  rw [← hZ]
  clear hZ
  go_enter Tryz.func29, Tryz.ntmps29
  go_upto_region 1 with fail
  generalize w.alloc (.cells #[.int .i64 3, .int .i64 0, .int .i64 0, .string ⟨b.toArray⟩] 47) = wA at *
  obtain ⟨c0, c1, c2, c3⟩ := boxA.at4
  simp only at c0 c1 c2 c3
  have bsz : (ByteArray.mk b.toArray).size ≤ 256 := by simpa [ByteArray.size] using hbl
  have hl1 : (bs ++ [3]).length ≤ 1000000 := by simp; omega
  go_upto_region 7 with fail
  go_region_held3 (fun W => W.cell? ⟨w.heap.size, 3, none⟩ = some (.string ⟨b.toArray⟩))
    (first | go_keep | assumption)
    ((first
      | (refine step_append_lies _ (by rfl) _ _ _ (by rfl) base 5 i0 _ 1 1 Tryz.underlying23 hi hz0 hz1 hz2 rfl (by omega) _ bs.length (bv bs) (by rfl) ((World.ownsRow.alloc ownA _).drew) ⟨wA.heap.size, 0, none⟩ 1 1 [.int .u8 3] (by rfl) (by rfl) (World.news_of_block (cs := #[.int .u8 3]) (t := 5) (fr := (0, 0)) (heap_alloc_new wA _)) (by simp [Value.oneCell']) (by omega) (by unfold maxLen; omega) (by omega) (by simp; omega) (wA.heap.size + 1) (by simp) ?_; intro gg cap w1 hown1 hgrow hat hlt1; have bx1 := KpD (Kp.refl _) ownA hgrow _ _ boxA; obtain ⟨e0, e1, e2, e3⟩ := bx1.at4; simp only [Nat.zero_add] at e0 e1 e2 e3)
      | (go_at_call 56; refine (appendText_any _ (bs ++ [3]) ⟨b.toArray⟩ base _ (own_push (b := 3) hown1) (by have := (World.ownsRow.lt hown1 gg rfl).1; omega) hl1 bsz).mono ?_; rintro e w2 ⟨v2, rfl, ho2, hb2, hk2⟩; have bx2 := hk2 _ _ bx1; obtain ⟨d0, d1, d2, d3⟩ := bx2.at4; simp only [Nat.zero_add] at d0 d1 d2 d3)))
  have bel1 : Below base w w1 := (belA.alloc (by omega) _).drew.grown hgrow (by simp; omega) (fun k hk => (World.ownsRow.lt ownA k hk).1)
  go_wp2
  go_ret
  exact ⟨_, rfl, by rw [HZ.out]; simpa [vkey] using ho2, bel1.trans hb2⟩

set_option maxRecDepth 20000 in
set_option maxHeartbeats 4000000 in
theorem appendKey_5 (x : Value) (bs : List UInt8) (base : Nat) (n m : Int) (w : World) (hown : Own w base x bs) (hb : base ≤ w.heap.size) (hl : bs.length ≤ 999000) (n0 : -1048576 ≤ n) (n1 : n ≤ 1048576) (m0 : -1048576 ≤ m) (m1 : m ≤ 1048576) :
    Calls Tryz.prog 29 #[x, va 5 n m ⟨#[]⟩] w fun e w' => ∃ v', e = .returned v' ∧ Own w' base v' (bs ++ vkey ⟨5, n, m, []⟩) ∧ Below base w w' := by
  obtain ⟨i0, hi, hz0, hz1, hz2⟩ := info_parts Tryz.info5
  have boxA := Box.new w 5 n m []
  have ownA : Own (w.alloc (.cells #[.int .i64 5, .int .i64 n, .int .i64 m, .string ⟨#[]⟩] 47)) base x bs := World.ownsRow.alloc hown _
  have belA : Below base w (w.alloc (.cells #[.int .i64 5, .int .i64 n, .int .i64 m, .string ⟨#[]⟩] 47)) := (Below.refl _ _).alloc hb _
  have szA := belA.size
  obtain ⟨Z, hZ⟩ : ∃ Z, Z = vkey ⟨5, n, m, []⟩ := ⟨_, rfl⟩
  have HZ : Hid (Z = vkey ⟨5, n, m, []⟩) := hZ
  rw [← hZ]
  clear hZ
  go_enter Tryz.func29, Tryz.ntmps29
  go_upto_region 1 with fail
  generalize w.alloc (.cells #[.int .i64 5, .int .i64 n, .int .i64 m, .string ⟨#[]⟩] 47) = wA at *
  obtain ⟨c0, c1, c2, c3⟩ := boxA.at4
  simp only at c0 c1 c2 c3
  have hl1 : (bs ++ [5]).length ≤ 1000000 := by simp; omega
  go_upto_region 11 with fail
  go_region_held3 (fun W => W.cell? ⟨w.heap.size, 1, none⟩ = some (.int .i64 n))
    (first | go_keep | assumption)
    ((first
      | (refine step_append_lies _ (by rfl) _ _ _ (by rfl) base 5 i0 _ 1 1 Tryz.underlying23 hi hz0 hz1 hz2 rfl (by omega) _ bs.length (bv bs) (by rfl) ((World.ownsRow.alloc ownA _).drew) ⟨wA.heap.size, 0, none⟩ 1 1 [.int .u8 5] (by rfl) (by rfl) (World.news_of_block (cs := #[.int .u8 5]) (t := 5) (fr := (0, 0)) (heap_alloc_new wA _)) (by simp [Value.oneCell']) (by omega) (by unfold maxLen; omega) (by omega) (by simp; omega) (wA.heap.size + 1) (by simp) ?_; intro gg cap w1 hown1 hgrow hat hlt1; have bx1 := KpD (Kp.refl _) ownA hgrow _ _ boxA; obtain ⟨e0, e1, e2, e3⟩ := bx1.at4; simp only [Nat.zero_add] at e0 e1 e2 e3)
      | (go_at_call 57; refine (appendCoord_any _ (bs ++ [5]) n base _ (own_push (b := 5) hown1) (by have := (World.ownsRow.lt hown1 gg rfl).1; omega) hl1 n0 n1).mono ?_; rintro e w2 ⟨v2, rfl, ho2, hb2, hk2⟩; have bx2 := hk2 _ _ bx1; obtain ⟨d0, d1, d2, d3⟩ := bx2.at4; simp only [Nat.zero_add] at d0 d1 d2 d3)))
  have bel1 : Below base w w1 := (belA.alloc (by omega) _).drew.grown hgrow (by simp; omega) (fun k hk => (World.ownsRow.lt ownA k hk).1)
  have bel2 := bel1.trans hb2
  have sz2 := bel2.size
  have hl2 : (bs ++ ([5] : List UInt8) ++ bigE 4 (n + 2 ^ 31).toNat).length ≤ 1000000 := by rw [List.length_append, List.length_append, bigE_len, List.length_singleton]; omega
  go_wp2_with fail
  refine (appendCoord_any v2 _ m base _ ho2 (by omega) hl2 m0 m1).mono ?_
  rintro e w3 ⟨v3, rfl, ho3, hb3, _⟩
  go_wp2
  go_ret
  exact ⟨_, rfl, by rw [HZ.out]; simpa [vkey] using ho3, bel2.trans hb3⟩

set_option maxRecDepth 20000 in
set_option maxHeartbeats 4000000 in
theorem appendKey_1 (x : Value) (bs : List UInt8) (base : Nat) (n m : Int) (w : World) (hown : Own w base x bs) (hb : base ≤ w.heap.size) (hl : bs.length ≤ 999000) (n0 : -9223372036854775808 ≤ n) (n1 : n ≤ 9223372036854775807) (m0 : 0 ≤ m) (m1 : m ≤ 6) :
    Calls Tryz.prog 29 #[x, va 1 n m ⟨#[]⟩] w fun e w' => ∃ v', e = .returned v' ∧ Own w' base v' (bs ++ vkey ⟨1, n, m, []⟩) ∧ Below base w w' := by
  obtain ⟨i0, hi, hz0, hz1, hz2⟩ := info_parts Tryz.info5
  have boxA := Box.new w 1 n m []
  have ownA : Own (w.alloc (.cells #[.int .i64 1, .int .i64 n, .int .i64 m, .string ⟨#[]⟩] 47)) base x bs := World.ownsRow.alloc hown _
  have belA : Below base w (w.alloc (.cells #[.int .i64 1, .int .i64 n, .int .i64 m, .string ⟨#[]⟩] 47)) := (Below.refl _ _).alloc hb _
  have szA := belA.size
  obtain ⟨Z, hZ⟩ : ∃ Z, Z = vkey ⟨1, n, m, []⟩ := ⟨_, rfl⟩
  have HZ : Hid (Z = vkey ⟨1, n, m, []⟩) := hZ
  rw [← hZ]
  clear hZ
  go_enter Tryz.func29, Tryz.ntmps29
  go_upto_region 1 with fail
  generalize w.alloc (.cells #[.int .i64 1, .int .i64 n, .int .i64 m, .string ⟨#[]⟩] 47) = wA at *
  obtain ⟨c0, c1, c2, c3⟩ := boxA.at4
  simp only at c0 c1 c2 c3
  have hl1 : (bs ++ [2]).length ≤ 999900 := by simp; omega
  go_upto_region 4 with fail
  go_region_held3 (fun W => W.cell? ⟨w.heap.size, 0, none⟩ = some (.int .i64 1) ∧ W.cell? ⟨w.heap.size, 1, none⟩ = some (.int .i64 n) ∧ W.cell? ⟨w.heap.size, 2, none⟩ = some (.int .i64 m) ∧ W.cell? ⟨w.heap.size, 3, none⟩ = some (.string ⟨#[]⟩))
    (first | go_keep | (refine ⟨?_, ?_, ?_, ?_⟩ <;> assumption))
    ((first
      | (refine step_append_lies _ (by rfl) _ _ _ (by rfl) base 5 i0 _ 1 1 Tryz.underlying23 hi hz0 hz1 hz2 rfl (by omega) _ bs.length (bv bs) (by rfl) ((World.ownsRow.alloc ownA _).drew) ⟨wA.heap.size, 0, none⟩ 1 1 [.int .u8 2] (by rfl) (by rfl) (World.news_of_block (cs := #[.int .u8 2]) (t := 5) (fr := (0, 0)) (heap_alloc_new wA _)) (by simp [Value.oneCell']) (by omega) (by unfold maxLen; omega) (by omega) (by simp; omega) (wA.heap.size + 1) (by simp) ?_; intro gg cap w1 hown1 hgrow hat hlt1; have bx1 := KpD (Kp.refl _) ownA hgrow _ _ boxA; obtain ⟨e0, e1, e2, e3⟩ := bx1.at4; simp only [Nat.zero_add] at e0 e1 e2 e3)
      | (go_at_call 55; refine (appendUnits_any 1 n m ⟨#[]⟩ _ (bs ++ [2]) base _ (own_push (b := 2) hown1) (by have := (World.ownsRow.lt hown1 gg rfl).1; omega) hl1 n0 n1 m0 m1).mono ?_; rintro e w2 ⟨v2, rfl, ho2, hb2, hk2⟩; have bx2 := hk2 _ _ bx1; obtain ⟨d0, d1, d2, d3⟩ := bx2.at4; simp only [Nat.zero_add] at d0 d1 d2 d3)))
  have bel1 : Below base w w1 := (belA.alloc (by omega) _).drew.grown hgrow (by simp; omega) (fun k hk => (World.ownsRow.lt ownA k hk).1)
  have bel2 := bel1.trans hb2
  have sz2 := bel2.size
  obtain ⟨Y, hY⟩ : ∃ Y, Y = bs ++ ([2] : List UInt8) ++ bigE 16 (n * 10 ^ (6 - m).toNat + 2 ^ 127).toNat := ⟨_, rfl⟩
  have HY : Hid (Y = bs ++ ([2] : List UInt8) ++ bigE 16 (n * 10 ^ (6 - m).toNat + 2 ^ 127).toNat) := hY
  have hl2 : Y.length ≤ 1000000 := by rw [hY, List.length_append, List.length_append, bigE_len, List.length_singleton]; omega
  rw [← hY] at ho2
  have HB : Hid (m = ((UInt8.ofNat m.toNat).toNat : Int)) := by
    show _ = _
    have : (UInt8.ofNat m.toNat).toNat = m.toNat := UInt8.toNat_ofNat_of_lt' (by show m.toNat < 256; omega)
    rw [this]; omega
  clear hY
  go_wp2_with (at_builtin; refine wpList_append_own _ rfl _ _ 23 rfl base 5 i0 (.int .u8 0) 1 1 Tryz.underlying23 hi hz0 hz1 hz2 rfl (by decide) _ _ _ rfl (World.ownsRow.alloc ho2 _) ⟨w2.heap.size, 0, none⟩ 2 2 [.int .u8 1, .int .u8 m] rfl rfl (cell_two_new _ _ _ _) (fun x hx => by simp at hx; rcases hx with rfl | rfl <;> rfl) (by unfold maxLen; omega) (by omega) (by simp; omega) ?_)
  intro v3 w3 hown3 hgrow3 _
  have bel3 : Below base w w3 := ((bel2.alloc (by omega) _).grown hgrow3 (by simp; omega) (fun k hk => (World.ownsRow.lt ho2 k hk).1))
  have ho3 := own_two (b := 1) (c := UInt8.ofNat m.toNat) (by rw [← HB.out]; exact hown3)
  rw [HY.out] at ho3
  clear hown3 hgrow3
  go_wp2
  go_ret
  exact ⟨_, rfl, by rw [HZ.out]; simpa [vkey, at6] using ho3, bel3⟩

set_option maxRecDepth 20000 in
set_option maxHeartbeats 4000000 in
theorem appendKey_2 (x : Value) (bs : List UInt8) (base : Nat) (n m : Int) (w : World) (hown : Own w base x bs) (hb : base ≤ w.heap.size) (hl : bs.length ≤ 999000) (n0 : -9223372036854775808 ≤ n) (n1 : n ≤ 9223372036854775807) (m0 : 0 ≤ m) (m1 : m ≤ 6) :
    Calls Tryz.prog 29 #[x, va 2 n m ⟨#[]⟩] w fun e w' => ∃ v', e = .returned v' ∧ Own w' base v' (bs ++ vkey ⟨2, n, m, []⟩) ∧ Below base w w' := by
  obtain ⟨i0, hi, hz0, hz1, hz2⟩ := info_parts Tryz.info5
  have boxA := Box.new w 2 n m []
  have ownA : Own (w.alloc (.cells #[.int .i64 2, .int .i64 n, .int .i64 m, .string ⟨#[]⟩] 47)) base x bs := World.ownsRow.alloc hown _
  have belA : Below base w (w.alloc (.cells #[.int .i64 2, .int .i64 n, .int .i64 m, .string ⟨#[]⟩] 47)) := (Below.refl _ _).alloc hb _
  have szA := belA.size
  obtain ⟨Z, hZ⟩ : ∃ Z, Z = vkey ⟨2, n, m, []⟩ := ⟨_, rfl⟩
  have HZ : Hid (Z = vkey ⟨2, n, m, []⟩) := hZ
  rw [← hZ]
  clear hZ
  go_enter Tryz.func29, Tryz.ntmps29
  go_upto_region 1 with fail
  generalize w.alloc (.cells #[.int .i64 2, .int .i64 n, .int .i64 m, .string ⟨#[]⟩] 47) = wA at *
  obtain ⟨c0, c1, c2, c3⟩ := boxA.at4
  simp only at c0 c1 c2 c3
  have hl1 : (bs ++ [2]).length ≤ 999900 := by simp; omega
  go_upto_region 4 with fail
  go_region_held3 (fun W => W.cell? ⟨w.heap.size, 0, none⟩ = some (.int .i64 2) ∧ W.cell? ⟨w.heap.size, 1, none⟩ = some (.int .i64 n) ∧ W.cell? ⟨w.heap.size, 2, none⟩ = some (.int .i64 m) ∧ W.cell? ⟨w.heap.size, 3, none⟩ = some (.string ⟨#[]⟩))
    (first | go_keep | (refine ⟨?_, ?_, ?_, ?_⟩ <;> assumption))
    ((first
      | (refine step_append_lies _ (by rfl) _ _ _ (by rfl) base 5 i0 _ 1 1 Tryz.underlying23 hi hz0 hz1 hz2 rfl (by omega) _ bs.length (bv bs) (by rfl) ((World.ownsRow.alloc ownA _).drew) ⟨wA.heap.size, 0, none⟩ 1 1 [.int .u8 2] (by rfl) (by rfl) (World.news_of_block (cs := #[.int .u8 2]) (t := 5) (fr := (0, 0)) (heap_alloc_new wA _)) (by simp [Value.oneCell']) (by omega) (by unfold maxLen; omega) (by omega) (by simp; omega) (wA.heap.size + 1) (by simp) ?_; intro gg cap w1 hown1 hgrow hat hlt1; have bx1 := KpD (Kp.refl _) ownA hgrow _ _ boxA; obtain ⟨e0, e1, e2, e3⟩ := bx1.at4; simp only [Nat.zero_add] at e0 e1 e2 e3)
      | (go_at_call 55; refine (appendUnits_any 2 n m ⟨#[]⟩ _ (bs ++ [2]) base _ (own_push (b := 2) hown1) (by have := (World.ownsRow.lt hown1 gg rfl).1; omega) hl1 n0 n1 m0 m1).mono ?_; rintro e w2 ⟨v2, rfl, ho2, hb2, hk2⟩; have bx2 := hk2 _ _ bx1; obtain ⟨d0, d1, d2, d3⟩ := bx2.at4; simp only [Nat.zero_add] at d0 d1 d2 d3)))
  have bel1 : Below base w w1 := (belA.alloc (by omega) _).drew.grown hgrow (by simp; omega) (fun k hk => (World.ownsRow.lt ownA k hk).1)
  have bel2 := bel1.trans hb2
  have sz2 := bel2.size
  obtain ⟨Y, hY⟩ : ∃ Y, Y = bs ++ ([2] : List UInt8) ++ bigE 16 (n * 10 ^ (6 - m).toNat + 2 ^ 127).toNat := ⟨_, rfl⟩
  have HY : Hid (Y = bs ++ ([2] : List UInt8) ++ bigE 16 (n * 10 ^ (6 - m).toNat + 2 ^ 127).toNat) := hY
  have hl2 : Y.length ≤ 1000000 := by rw [hY, List.length_append, List.length_append, bigE_len, List.length_singleton]; omega
  rw [← hY] at ho2
  have HB : Hid (m = ((UInt8.ofNat m.toNat).toNat : Int)) := by
    show _ = _
    have : (UInt8.ofNat m.toNat).toNat = m.toNat := UInt8.toNat_ofNat_of_lt' (by show m.toNat < 256; omega)
    rw [this]; omega
  clear hY
  go_wp2_with (at_builtin; refine wpList_append_own _ rfl _ _ 23 rfl base 5 i0 (.int .u8 0) 1 1 Tryz.underlying23 hi hz0 hz1 hz2 rfl (by decide) _ _ _ rfl (World.ownsRow.alloc ho2 _) ⟨w2.heap.size, 0, none⟩ 2 2 [.int .u8 2, .int .u8 m] rfl rfl (cell_two_new _ _ _ _) (fun x hx => by simp at hx; rcases hx with rfl | rfl <;> rfl) (by unfold maxLen; omega) (by omega) (by simp; omega) ?_)
  intro v3 w3 hown3 hgrow3 _
  have bel3 : Below base w w3 := ((bel2.alloc (by omega) _).grown hgrow3 (by simp; omega) (fun k hk => (World.ownsRow.lt ho2 k hk).1))
  have ho3 := own_two (b := 2) (c := UInt8.ofNat m.toNat) (by rw [← HB.out]; exact hown3)
  rw [HY.out] at ho3
  clear hown3 hgrow3
  go_wp2
  go_ret
  exact ⟨_, rfl, by rw [HZ.out]; simpa [vkey, at6] using ho3, bel3⟩

theorem appendKey_ok (v : Va) (x : Value) (bs : List UInt8) (base : Nat) (w : World) (hv : vr v = true) (hi : vin v) (hown : Own w base x bs) (hb : base ≤ w.heap.size) (hl : bs.length ≤ 999000) :
    Calls Tryz.prog 29 #[x, vv v] w fun e w' => ∃ v', e = .returned v' ∧ Own w' base v' (bs ++ vkey v) ∧ Below base w w' := by
  have hk := (vr_iff v).1 hv
  obtain ⟨k, n, m, b⟩ := v
  simp only [vok, vin] at hk hi
  rcases hk with ⟨rfl, rfl, rfl, rfl⟩ | ⟨rfl, rfl, rfl⟩ | ⟨rfl, h0, h1, rfl⟩ | ⟨rfl, rfl, rfl, h, _⟩ | ⟨rfl, h0, rfl, rfl⟩ | ⟨rfl, h0, h1, h2, h3, rfl⟩
  · exact appendKey_0 x bs base w hown hb hl
  · exact appendKey_1 x bs base n 0 w hown hb hl hi.1.1 hi.1.2 (by decide) (by decide)
  · exact appendKey_2 x bs base n m w hown hb hl hi.1.1 hi.1.2 h0 h1
  · exact appendKey_3 x bs base b w hown hb hl h
  · exact appendKey_4 x bs base n w hown hb hl (by omega) (by omega)
  · exact appendKey_5 x bs base n m w hown hb hl h0 h1 h2 h3

theorem vkey_len (v : Va) (hv : vr v = true) : (vkey v).length ≤ 520 := by
  have hk := (vr_iff v).1 hv
  have he := esc_len v.b
  have hb : v.k = 3 → v.b.length ≤ 256 := by
    intro h
    simp only [vok] at hk
    rcases hk with g | g | g | g | g | g
    · omega
    · omega
    · omega
    · exact g.2.2.2.1
    · omega
    · omega
  unfold vkey
  split
  · simp [bigE_len]
  split
  · rename_i h; have := hb h; simp; omega
  split
  · simp
  split
  · simp [bigE_len]
  · simp

theorem key_bad (ao : Option Addr) (cap : Nat) (l : List Va) (w : World) (hT : Tabs w) (hv : Vs w ao l) (hl : l.length ≤ 9223372036854775807) (hE : ckE l ≠ 0) :
    Calls Tryz.prog 10 #[.slice ao l.length cap] w fun e w' => e = .returned (.tuple #[.string ⟨#[]⟩, .int .i64 (ckE l)]) ∧ Below w.heap.size w w' := by
  have C := checked_any ao cap l w hT hv hl
  have h0 : (ckE l == 0) = false := by simpa using hE
  have h1 : (ckE l != 0) = true := by simpa using hE
  generalize ckE l = E at *
  generalize l.length = n at *
  clear hT hv hE
  go_enter Tryz.func10, Tryz.ntmps10
  go_wp2_with fail
  refine C.mono ?_
  rintro e w1 ⟨rfl, b1⟩
  go_wp2
  go_ret2
  exact ⟨rfl, b1⟩

set_option maxHeartbeats 2000000 in
theorem key_good (ao : Option Addr) (cap : Nat) (l : List Va) (w : World) (hT : Tabs w) (hv : Vs w ao l) (hE : ckE l = 0) (hin : ∀ v ∈ l, vin v) :
    Calls Tryz.prog 10 #[.slice ao l.length cap] w fun e w' => e = .returned (.tuple #[.string ⟨(rkey l).toArray⟩, .int .i64 0]) ∧ Below w.heap.size w w' := by
  have hlen : l.length ≤ 64 := by
    unfold ckE at hE
    split at hE
    · omega
    · omega
  have hall : ∀ v ∈ l, vr v = true := by
    unfold ckE at hE
    rw [if_neg (by omega)] at hE
    split at hE
    · rename_i h; exact fun v hv => List.all_eq_true.1 h v hv
    · omega
  have C := checked_any ao cap l w hT hv (by omega)
  rw [hE] at C
  obtain ⟨i0, hi, hz0, hz1, hz2⟩ := info_parts Tryz.info5
  obtain ⟨n, hn⟩ : ∃ n, l.length = n := ⟨_, rfl⟩
  rw [hn] at hlen C ⊢
  have HN : Hid (l.length = n) := hn
  have ML : ∀ k, k ≤ n → (many vkey (l.take k)).length ≤ 520 * 64 := by
    intro k hk
    have h1 := many_len vkey 520 (l.take k) (fun v hv => vkey_len v (hall v (List.mem_of_mem_take hv)))
    have h2 : (l.take k).length = k := by simp; omega
    rw [h2] at h1
    have h3 : 520 * k ≤ 520 * 64 := Nat.mul_le_mul_left _ (by omega)
    omega
  have HM : Hid (∀ k, k ≤ n → (many vkey (l.take k)).length ≤ 520 * 64) := ML
  clear hn hE ML
  go_enter Tryz.func10, Tryz.ntmps10
  go_wp2_with fail
  refine C.mono ?_
  rintro e w1 ⟨rfl, b1⟩
  have s1 := b1.size
  go_wp2
  go_loopw [5, 15] (fun x r wr => ∃ k : Nat, r = .int .i64 (k : Int) ∧ k ≤ n ∧ Own wr w.heap.size x (many vkey (l.take k)) ∧ Below w.heap.size w wr) (fun _ r _ => n - (intOf r).toNat)
  case atStart => exact ⟨0, rfl, Nat.zero_le _, World.ownsRow_nil _ _ _ _, b1⟩
  case round =>
    obtain ⟨k, rfl, hk, ho, hB⟩ := hrel
    have sB := hB.size
    by_cases hlt : k < n
    · have hlt' : (k : Int) < (n : Int) := by omega
      have hkl : k < l.length := by rw [HN.out]; exact hlt
      obtain ⟨b, off, rfl, hc⟩ := hv (by omega)
      obtain ⟨c0, c1, c2, c3⟩ := ((hc k hkl).later hB)
      have hg := (hc k hkl).lt
      have hg' : b < wr.heap.size := by omega
      have hML := HM.out k (by omega)
      have hbl : (many vkey (l.take k)).length ≤ 999000 := by omega
      have R : ∀ W, Grew wr W → Calls Tryz.prog 29 #[u5, vv l[k]] W fun e w' => ∃ v', e = .returned v' ∧ Own w' w.heap.size v' (many vkey (l.take k) ++ vkey l[k]) ∧ Below w.heap.size W w' :=
        fun W h => appendKey_ok l[k] u5 _ w.heap.size W (hall _ (List.getElem_mem _)) (hin _ (List.getElem_mem _)) (ho.later h.below) (by have := h.size; omega) hbl
      have hmt := many_take vkey l k hkl
      obtain ⟨⟨vk, vn, vm, vb⟩, he⟩ : ∃ v : Va, v = l[k] := ⟨_, rfl⟩
      rw [← he] at c0 c1 c2 c3 R hmt
      obtain ⟨Y, hY⟩ : ∃ Y, Y = many vkey (l.take k) ++ vkey ⟨vk, vn, vm, vb⟩ := ⟨_, rfl⟩
      rw [← hY] at R
      have HY : Hid (many vkey (l.take (k + 1)) = Y) := by
        show _ = _
        rw [hY, hmt]
      clear hc he hmt hY hT hv hML hbl ho
      go_wp2_with (go_at_call 29; refine (R _ (by repeat (first | exact Grew.refl _ | apply Grew.drew | apply Grew.drewN | apply Grew.alloc | apply Grew.more))).mono ?_; rintro e w2 ⟨v2, rfl, ho2, hb2⟩)
      go_roundw
      case rel =>
        refine ⟨k + 1, by go_num, by omega, by rw [HY.out]; exact ho2, hB.trans ((Below.mono (Grew.below (by repeat (first | exact Grew.refl _ | apply Grew.drew | apply Grew.drewN | apply Grew.alloc | apply Grew.more))) sB).trans hb2)⟩
      case measure => simp [intOf]; omega
    · have hlt' : ¬ (k : Int) < (n : Int) := by omega
      have hkn : k = n := by omega
      have e1 : l.take k = l := List.take_of_length_le (by have := HN.out; omega)
      rw [e1] at ho
      have hML := HM.out k (by omega)
      rw [e1] at hML
      clear e1
      have hl2 : (many vkey l).length ≤ 33280 := hML
      obtain ⟨Y, hY⟩ : ∃ Y, Y = many vkey l := ⟨_, rfl⟩
      have HY : Hid (Y = many vkey l) := hY
      rw [← hY] at ho hl2
      clear hY hML hT hv
      go_wp2_with (at_builtin; refine wpList_append_own _ rfl _ _ 23 rfl w.heap.size 5 i0 (.int .u8 0) 1 1 Tryz.underlying23 hi hz0 hz1 hz2 rfl (by decide) _ _ _ rfl (World.ownsRow.alloc ho _) ⟨wr.heap.size, 0, none⟩ 1 1 [.int .u8 0] rfl rfl (cell_one_new _ _ _) (one_cell _ _) (by unfold maxLen; omega) (by omega) (by simp; omega) ?_)
      intro v1 w2 hown1 hgrow1 _
      have hB1 : Below w.heap.size w w2 := ((hB.alloc (by omega) _).grown hgrow1 (by simp; omega) (fun k hk => (World.ownsRow.lt ho k hk).1))
      have hO := own_push (b := 0) hown1
      obtain ⟨E, hEE⟩ : ∃ E, E = Y ++ [0] := ⟨_, rfl⟩
      have HEE : Hid (E = Y ++ [0]) := hEE
      rw [← hEE] at hO
      clear hown1 hgrow1 ho hB hEE
      obtain ⟨ao2, cap2, rfl, hr, _⟩ := hO.rd
      have hcv := run_string_of 23 9 5 Tryz.underlying23 Tryz.underlying5 Tryz.underlying9 hr
      clear hr hO
      go_wp2
      go_ret2
      refine ⟨?_, hB1⟩
      rw [show rkey l = E by rw [HEE.out, HY.out]; rfl]
      rfl

end Go.Proofs.YtafmchgncahafaaGreatDoor
