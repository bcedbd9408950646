/-
  The contracts of datum.appendValue and datum.Put.
-/
import Derived.Test.YtafmchgncahafaaGreatDoorMAVText
namespace Go.Proofs.YtafmchgncahafaaGreatDoor
open Go.RowKit
attribute [local go_sem] cell?_more frozen?_more setCell_more more_lt more_more more_drew more_drewN setCell_drewN alloc_drewN

/-- A value lies in a block of its own. -/
def Box (w : World) (p : Nat) (v : Va) : Prop := w.heap[p]? = some (.cells #[.int .i64 v.k, .int .i64 v.n, .int .i64 v.m, .string ⟨v.b.toArray⟩] 47 (0, 0))
theorem Box.lt {w : World} {p : Nat} {v : Va} (h : Box w p v) : p < w.heap.size := by
  by_cases hp : p < w.heap.size
  · exact hp
  · unfold Box at h
    rw [Array.getElem?_eq_none (by omega)] at h
    cases h
theorem Box.later {w w' : World} {p : Nat} {v : Va} (h : Box w p v) (hb : Below w.heap.size w w') : Box w' p v := by
  unfold Box
  rw [hb.block p h.lt]
  exact h
theorem Box.at4 {w : World} {p : Nat} {v : Va} (h : Box w p v) : At4 w p 0 v :=
  ⟨by rw [cell_of_row w p 0 _ _ (0, 0) h]; rfl, by rw [cell_of_row w p (0 + 1) _ _ (0, 0) h]; rfl, by rw [cell_of_row w p (0 + 2) _ _ (0, 0) h]; rfl, by rw [cell_of_row w p (0 + 3) _ _ (0, 0) h]; rfl⟩
theorem Box.kept {w w' : World} {p base : Nat} {v : Va} {x : Value} {bs : List UInt8} (h : Box w p v) (ho : Own w base x bs) (hg : w.grownBy w' x.ownBlock) : Box w' p v := by
  unfold Box
  rw [hg.block p h.lt ?_]
  · exact h
  · intro e
    obtain ⟨h1, h2⟩ := ho
    rcases h2 with ⟨rfl, _⟩ | ⟨g, cap, cur, rfl, _, hg', _⟩
    · simp [Value.ownBlock] at e
    · simp [Value.ownBlock] at e
      subst e
      unfold Box at h
      rw [hg'] at h
      simp at h
theorem Box.free {w : World} {p : Nat} {v : Va} (h : Box w p v) (j : Nat) : w.frozen? ⟨p, j, none⟩ = false := by
  unfold Box at h
  simp [World.frozen?, h]
theorem Box.new (w : World) (k n m : Int) (b : List UInt8) : Box (w.alloc (.cells #[.int .i64 k, .int .i64 n, .int .i64 m, .string ⟨b.toArray⟩] 47)) w.heap.size ⟨k, n, m, b⟩ := by
  unfold Box
  show (w.heap.push _)[w.heap.size]? = _
  simp

set_option maxHeartbeats 4000000 in
theorem appendValue_0 (x : Value) (bs : List UInt8) (base : Nat)  (w : World) (hown : Own w base x bs) (hb : base ≤ w.heap.size) (hl : bs.length ≤ 1000000) :
    Calls Tryz.prog 18 #[x, va 0 0 0 ⟨#[]⟩] w fun e w' => ∃ v', e = .returned v' ∧ Own w' base v' (bs ++ vbytes ⟨0, 0, 0, []⟩) ∧ Below base w w' := by
  obtain ⟨i0, hi, hz0, hz1, hz2⟩ := info_parts Tryz.info5
  have boxA := Box.new w 0 0 0 []
  have ownA : Own (w.alloc (.cells #[.int .i64 0, .int .i64 0, .int .i64 0, .string ⟨#[]⟩] 47)) base x bs := World.ownsRow.alloc hown _
  have belA : Below base w (w.alloc (.cells #[.int .i64 0, .int .i64 0, .int .i64 0, .string ⟨#[]⟩] 47)) := (Below.refl _ _).alloc hb _
  have szA := belA.size
  go_enter Tryz.func18, Tryz.ntmps18
  go_upto_region 1 with fail
  generalize w.alloc (.cells #[.int .i64 0, .int .i64 0, .int .i64 0, .string ⟨#[]⟩] 47) = wA at *
  obtain ⟨c0_1, c1_1, c2_1, c3_1⟩ := boxA.at4
  have s0_1 := (belA).size
  go_wp2_with fail
  refine (number_any (0 : Int) _ (by decide) (by decide)).mono ?_
  rintro e q1 ⟨y1, rfl, oy1, by1⟩
  obtain ⟨ao1, cap1, rfl, hr1, _⟩ := oy1.rd
  have own1 := ownA.later by1
  have box1 := boxA.later by1
  have bel1 := (belA).trans (by1.mono (by omega))
  have sz1 := bel1.size
  have nl1 := (numBytes_len (0 : Int)).2
  clear oy1 c0_1 c1_1 c2_1 c3_1 by1
  go_wp2_with (at_builtin; refine wpList_append_from rfl _ _ 23 23 rfl base 5 i0 (.int .u8 0) 1 1 Tryz.underlying23 hi hz0 hz1 hz2 rfl _ _ _ rfl own1 _ (numBytes (0 : Int)).length (bv (numBytes (0 : Int))) rfl (src_of_rd Tryz.underlying23 hr1) (by simp [maxLen]; omega) (by simp; omega) (by omega) ?_)
  intro v1 w1 ho1' hg1
  have box1' := box1.kept own1 hg1
  have bel1' : Below base w w1 := bel1.grown hg1 (by omega) (fun k hk => (World.ownsRow.lt own1 k hk).1)
  have ho1 := own_append ho1'
  clear ho1' hg1 own1 box1 bel1 hr1
  obtain ⟨c0, c1, c2, c3⟩ := box1'.at4
  go_wp2
  go_ret
  exact ⟨_, rfl, by simpa [vbytes] using ho1, bel1'⟩

set_option maxHeartbeats 4000000 in
theorem appendValue_1 (x : Value) (bs : List UInt8) (base : Nat) (n : Int) (w : World) (hown : Own w base x bs) (hb : base ≤ w.heap.size) (hl : bs.length ≤ 1000000) (n0 : -9223372036854775808 ≤ n) (n1 : n ≤ 9223372036854775807) :
    Calls Tryz.prog 18 #[x, va 1 n 0 ⟨#[]⟩] w fun e w' => ∃ v', e = .returned v' ∧ Own w' base v' (bs ++ vbytes ⟨1, n, 0, []⟩) ∧ Below base w w' := by
  obtain ⟨i0, hi, hz0, hz1, hz2⟩ := info_parts Tryz.info5
  have boxA := Box.new w 1 n 0 []
  have ownA : Own (w.alloc (.cells #[.int .i64 1, .int .i64 n, .int .i64 0, .string ⟨#[]⟩] 47)) base x bs := World.ownsRow.alloc hown _
  have belA : Below base w (w.alloc (.cells #[.int .i64 1, .int .i64 n, .int .i64 0, .string ⟨#[]⟩] 47)) := (Below.refl _ _).alloc hb _
  have szA := belA.size
  go_enter Tryz.func18, Tryz.ntmps18
  go_upto_region 1 with fail
  generalize w.alloc (.cells #[.int .i64 1, .int .i64 n, .int .i64 0, .string ⟨#[]⟩] 47) = wA at *
  obtain ⟨c0_1, c1_1, c2_1, c3_1⟩ := boxA.at4
  have s0_1 := (belA).size
  go_wp2_with fail
  refine (number_any (1 : Int) _ (by decide) (by decide)).mono ?_
  rintro e q1 ⟨y1, rfl, oy1, by1⟩
  obtain ⟨ao1, cap1, rfl, hr1, _⟩ := oy1.rd
  have own1 := ownA.later by1
  have box1 := boxA.later by1
  have bel1 := (belA).trans (by1.mono (by omega))
  have sz1 := bel1.size
  have nl1 := (numBytes_len (1 : Int)).2
  clear oy1 c0_1 c1_1 c2_1 c3_1 by1
  go_wp2_with (at_builtin; refine wpList_append_from rfl _ _ 23 23 rfl base 5 i0 (.int .u8 0) 1 1 Tryz.underlying23 hi hz0 hz1 hz2 rfl _ _ _ rfl own1 _ (numBytes (1 : Int)).length (bv (numBytes (1 : Int))) rfl (src_of_rd Tryz.underlying23 hr1) (by simp [maxLen]; omega) (by simp; omega) (by omega) ?_)
  intro v1 w1 ho1' hg1
  have box1' := box1.kept own1 hg1
  have bel1' : Below base w w1 := bel1.grown hg1 (by omega) (fun k hk => (World.ownsRow.lt own1 k hk).1)
  have ho1 := own_append ho1'
  clear ho1' hg1 own1 box1 bel1 hr1
  obtain ⟨c0_2, c1_2, c2_2, c3_2⟩ := box1'.at4
  have s0_2 := (bel1').size
  go_wp2_with fail
  refine (number_any n _ n0 n1).mono ?_
  rintro e q2 ⟨y2, rfl, oy2, by2⟩
  obtain ⟨ao2, cap2, rfl, hr2, _⟩ := oy2.rd
  have own2 := ho1.later by2
  have box2 := box1'.later by2
  have bel2 := (bel1').trans (by2.mono (by omega))
  have sz2 := bel2.size
  have nl2 := (numBytes_len n).2
  clear oy2 c0_2 c1_2 c2_2 c3_2 by2
  go_wp2_with (at_builtin; refine wpList_append_from rfl _ _ 23 23 rfl base 5 i0 (.int .u8 0) 1 1 Tryz.underlying23 hi hz0 hz1 hz2 rfl _ _ _ rfl own2 _ (numBytes n).length (bv (numBytes n)) rfl (src_of_rd Tryz.underlying23 hr2) (by simp [maxLen]; omega) (by simp; omega) (by omega) ?_)
  intro v2 w2 ho2' hg2
  have box2' := box2.kept own2 hg2
  have bel2' : Below base w w2 := bel2.grown hg2 (by omega) (fun k hk => (World.ownsRow.lt own2 k hk).1)
  have ho2 := own_append ho2'
  clear ho2' hg2 own2 box2 bel2 hr2
  obtain ⟨c0, c1, c2, c3⟩ := box2'.at4
  go_wp2
  go_ret
  exact ⟨_, rfl, by simpa [vbytes] using ho2, bel2'⟩

set_option maxHeartbeats 4000000 in
theorem appendValue_4 (x : Value) (bs : List UInt8) (base : Nat) (n : Int) (w : World) (hown : Own w base x bs) (hb : base ≤ w.heap.size) (hl : bs.length ≤ 1000000) (n0 : -9223372036854775808 ≤ n) (n1 : n ≤ 9223372036854775807) :
    Calls Tryz.prog 18 #[x, va 4 n 0 ⟨#[]⟩] w fun e w' => ∃ v', e = .returned v' ∧ Own w' base v' (bs ++ vbytes ⟨4, n, 0, []⟩) ∧ Below base w w' := by
  obtain ⟨i0, hi, hz0, hz1, hz2⟩ := info_parts Tryz.info5
  have boxA := Box.new w 4 n 0 []
  have ownA : Own (w.alloc (.cells #[.int .i64 4, .int .i64 n, .int .i64 0, .string ⟨#[]⟩] 47)) base x bs := World.ownsRow.alloc hown _
  have belA : Below base w (w.alloc (.cells #[.int .i64 4, .int .i64 n, .int .i64 0, .string ⟨#[]⟩] 47)) := (Below.refl _ _).alloc hb _
  have szA := belA.size
  go_enter Tryz.func18, Tryz.ntmps18
  go_upto_region 1 with fail
  generalize w.alloc (.cells #[.int .i64 4, .int .i64 n, .int .i64 0, .string ⟨#[]⟩] 47) = wA at *
  obtain ⟨c0_1, c1_1, c2_1, c3_1⟩ := boxA.at4
  have s0_1 := (belA).size
  go_wp2_with fail
  refine (number_any (4 : Int) _ (by decide) (by decide)).mono ?_
  rintro e q1 ⟨y1, rfl, oy1, by1⟩
  obtain ⟨ao1, cap1, rfl, hr1, _⟩ := oy1.rd
  have own1 := ownA.later by1
  have box1 := boxA.later by1
  have bel1 := (belA).trans (by1.mono (by omega))
  have sz1 := bel1.size
  have nl1 := (numBytes_len (4 : Int)).2
  clear oy1 c0_1 c1_1 c2_1 c3_1 by1
  go_wp2_with (at_builtin; refine wpList_append_from rfl _ _ 23 23 rfl base 5 i0 (.int .u8 0) 1 1 Tryz.underlying23 hi hz0 hz1 hz2 rfl _ _ _ rfl own1 _ (numBytes (4 : Int)).length (bv (numBytes (4 : Int))) rfl (src_of_rd Tryz.underlying23 hr1) (by simp [maxLen]; omega) (by simp; omega) (by omega) ?_)
  intro v1 w1 ho1' hg1
  have box1' := box1.kept own1 hg1
  have bel1' : Below base w w1 := bel1.grown hg1 (by omega) (fun k hk => (World.ownsRow.lt own1 k hk).1)
  have ho1 := own_append ho1'
  clear ho1' hg1 own1 box1 bel1 hr1
  obtain ⟨c0_2, c1_2, c2_2, c3_2⟩ := box1'.at4
  have s0_2 := (bel1').size
  go_wp2_with fail
  refine (number_any n _ n0 n1).mono ?_
  rintro e q2 ⟨y2, rfl, oy2, by2⟩
  obtain ⟨ao2, cap2, rfl, hr2, _⟩ := oy2.rd
  have own2 := ho1.later by2
  have box2 := box1'.later by2
  have bel2 := (bel1').trans (by2.mono (by omega))
  have sz2 := bel2.size
  have nl2 := (numBytes_len n).2
  clear oy2 c0_2 c1_2 c2_2 c3_2 by2
  go_wp2_with (at_builtin; refine wpList_append_from rfl _ _ 23 23 rfl base 5 i0 (.int .u8 0) 1 1 Tryz.underlying23 hi hz0 hz1 hz2 rfl _ _ _ rfl own2 _ (numBytes n).length (bv (numBytes n)) rfl (src_of_rd Tryz.underlying23 hr2) (by simp [maxLen]; omega) (by simp; omega) (by omega) ?_)
  intro v2 w2 ho2' hg2
  have box2' := box2.kept own2 hg2
  have bel2' : Below base w w2 := bel2.grown hg2 (by omega) (fun k hk => (World.ownsRow.lt own2 k hk).1)
  have ho2 := own_append ho2'
  clear ho2' hg2 own2 box2 bel2 hr2
  obtain ⟨c0, c1, c2, c3⟩ := box2'.at4
  go_wp2
  go_ret
  exact ⟨_, rfl, by simpa [vbytes] using ho2, bel2'⟩

set_option maxHeartbeats 4000000 in
theorem appendValue_2 (x : Value) (bs : List UInt8) (base : Nat) (n m : Int) (w : World) (hown : Own w base x bs) (hb : base ≤ w.heap.size) (hl : bs.length ≤ 1000000) (n0 : -9223372036854775808 ≤ n) (n1 : n ≤ 9223372036854775807) (m0 : -9223372036854775808 ≤ m) (m1 : m ≤ 9223372036854775807) :
    Calls Tryz.prog 18 #[x, va 2 n m ⟨#[]⟩] w fun e w' => ∃ v', e = .returned v' ∧ Own w' base v' (bs ++ vbytes ⟨2, n, m, []⟩) ∧ Below base w w' := by
  obtain ⟨i0, hi, hz0, hz1, hz2⟩ := info_parts Tryz.info5
  have boxA := Box.new w 2 n m []
  have ownA : Own (w.alloc (.cells #[.int .i64 2, .int .i64 n, .int .i64 m, .string ⟨#[]⟩] 47)) base x bs := World.ownsRow.alloc hown _
  have belA : Below base w (w.alloc (.cells #[.int .i64 2, .int .i64 n, .int .i64 m, .string ⟨#[]⟩] 47)) := (Below.refl _ _).alloc hb _
  have szA := belA.size
  go_enter Tryz.func18, Tryz.ntmps18
  go_upto_region 1 with fail
  generalize w.alloc (.cells #[.int .i64 2, .int .i64 n, .int .i64 m, .string ⟨#[]⟩] 47) = wA at *
  obtain ⟨c0_1, c1_1, c2_1, c3_1⟩ := boxA.at4
  have s0_1 := (belA).size
  go_wp2_with fail
  refine (number_any (2 : Int) _ (by decide) (by decide)).mono ?_
  rintro e q1 ⟨y1, rfl, oy1, by1⟩
  obtain ⟨ao1, cap1, rfl, hr1, _⟩ := oy1.rd
  have own1 := ownA.later by1
  have box1 := boxA.later by1
  have bel1 := (belA).trans (by1.mono (by omega))
  have sz1 := bel1.size
  have nl1 := (numBytes_len (2 : Int)).2
  clear oy1 c0_1 c1_1 c2_1 c3_1 by1
  go_wp2_with (at_builtin; refine wpList_append_from rfl _ _ 23 23 rfl base 5 i0 (.int .u8 0) 1 1 Tryz.underlying23 hi hz0 hz1 hz2 rfl _ _ _ rfl own1 _ (numBytes (2 : Int)).length (bv (numBytes (2 : Int))) rfl (src_of_rd Tryz.underlying23 hr1) (by simp [maxLen]; omega) (by simp; omega) (by omega) ?_)
  intro v1 w1 ho1' hg1
  have box1' := box1.kept own1 hg1
  have bel1' : Below base w w1 := bel1.grown hg1 (by omega) (fun k hk => (World.ownsRow.lt own1 k hk).1)
  have ho1 := own_append ho1'
  clear ho1' hg1 own1 box1 bel1 hr1
  obtain ⟨c0_2, c1_2, c2_2, c3_2⟩ := box1'.at4
  have s0_2 := (bel1').size
  go_wp2_with fail
  refine (number_any n _ n0 n1).mono ?_
  rintro e q2 ⟨y2, rfl, oy2, by2⟩
  obtain ⟨ao2, cap2, rfl, hr2, _⟩ := oy2.rd
  have own2 := ho1.later by2
  have box2 := box1'.later by2
  have bel2 := (bel1').trans (by2.mono (by omega))
  have sz2 := bel2.size
  have nl2 := (numBytes_len n).2
  clear oy2 c0_2 c1_2 c2_2 c3_2 by2
  go_wp2_with (at_builtin; refine wpList_append_from rfl _ _ 23 23 rfl base 5 i0 (.int .u8 0) 1 1 Tryz.underlying23 hi hz0 hz1 hz2 rfl _ _ _ rfl own2 _ (numBytes n).length (bv (numBytes n)) rfl (src_of_rd Tryz.underlying23 hr2) (by simp [maxLen]; omega) (by simp; omega) (by omega) ?_)
  intro v2 w2 ho2' hg2
  have box2' := box2.kept own2 hg2
  have bel2' : Below base w w2 := bel2.grown hg2 (by omega) (fun k hk => (World.ownsRow.lt own2 k hk).1)
  have ho2 := own_append ho2'
  clear ho2' hg2 own2 box2 bel2 hr2
  obtain ⟨c0_3, c1_3, c2_3, c3_3⟩ := box2'.at4
  have s0_3 := (bel2').size
  go_wp2_with fail
  refine (number_any m _ m0 m1).mono ?_
  rintro e q3 ⟨y3, rfl, oy3, by3⟩
  obtain ⟨ao3, cap3, rfl, hr3, _⟩ := oy3.rd
  have own3 := ho2.later by3
  have box3 := box2'.later by3
  have bel3 := (bel2').trans (by3.mono (by omega))
  have sz3 := bel3.size
  have nl3 := (numBytes_len m).2
  clear oy3 c0_3 c1_3 c2_3 c3_3 by3
  go_wp2_with (at_builtin; refine wpList_append_from rfl _ _ 23 23 rfl base 5 i0 (.int .u8 0) 1 1 Tryz.underlying23 hi hz0 hz1 hz2 rfl _ _ _ rfl own3 _ (numBytes m).length (bv (numBytes m)) rfl (src_of_rd Tryz.underlying23 hr3) (by simp [maxLen]; omega) (by simp; omega) (by omega) ?_)
  intro v3 w3 ho3' hg3
  have box3' := box3.kept own3 hg3
  have bel3' : Below base w w3 := bel3.grown hg3 (by omega) (fun k hk => (World.ownsRow.lt own3 k hk).1)
  have ho3 := own_append ho3'
  clear ho3' hg3 own3 box3 bel3 hr3
  obtain ⟨c0, c1, c2, c3⟩ := box3'.at4
  go_wp2
  go_ret
  exact ⟨_, rfl, by simpa [vbytes] using ho3, bel3'⟩

set_option maxHeartbeats 4000000 in
theorem appendValue_5 (x : Value) (bs : List UInt8) (base : Nat) (n m : Int) (w : World) (hown : Own w base x bs) (hb : base ≤ w.heap.size) (hl : bs.length ≤ 1000000) (n0 : -9223372036854775808 ≤ n) (n1 : n ≤ 9223372036854775807) (m0 : -9223372036854775808 ≤ m) (m1 : m ≤ 9223372036854775807) :
    Calls Tryz.prog 18 #[x, va 5 n m ⟨#[]⟩] w fun e w' => ∃ v', e = .returned v' ∧ Own w' base v' (bs ++ vbytes ⟨5, n, m, []⟩) ∧ Below base w w' := by
  obtain ⟨i0, hi, hz0, hz1, hz2⟩ := info_parts Tryz.info5
  have boxA := Box.new w 5 n m []
  have ownA : Own (w.alloc (.cells #[.int .i64 5, .int .i64 n, .int .i64 m, .string ⟨#[]⟩] 47)) base x bs := World.ownsRow.alloc hown _
  have belA : Below base w (w.alloc (.cells #[.int .i64 5, .int .i64 n, .int .i64 m, .string ⟨#[]⟩] 47)) := (Below.refl _ _).alloc hb _
  have szA := belA.size
  go_enter Tryz.func18, Tryz.ntmps18
  go_upto_region 1 with fail
  generalize w.alloc (.cells #[.int .i64 5, .int .i64 n, .int .i64 m, .string ⟨#[]⟩] 47) = wA at *
  obtain ⟨c0_1, c1_1, c2_1, c3_1⟩ := boxA.at4
  have s0_1 := (belA).size
  go_wp2_with fail
  refine (number_any (5 : Int) _ (by decide) (by decide)).mono ?_
  rintro e q1 ⟨y1, rfl, oy1, by1⟩
  obtain ⟨ao1, cap1, rfl, hr1, _⟩ := oy1.rd
  have own1 := ownA.later by1
  have box1 := boxA.later by1
  have bel1 := (belA).trans (by1.mono (by omega))
  have sz1 := bel1.size
  have nl1 := (numBytes_len (5 : Int)).2
  clear oy1 c0_1 c1_1 c2_1 c3_1 by1
  go_wp2_with (at_builtin; refine wpList_append_from rfl _ _ 23 23 rfl base 5 i0 (.int .u8 0) 1 1 Tryz.underlying23 hi hz0 hz1 hz2 rfl _ _ _ rfl own1 _ (numBytes (5 : Int)).length (bv (numBytes (5 : Int))) rfl (src_of_rd Tryz.underlying23 hr1) (by simp [maxLen]; omega) (by simp; omega) (by omega) ?_)
  intro v1 w1 ho1' hg1
  have box1' := box1.kept own1 hg1
  have bel1' : Below base w w1 := bel1.grown hg1 (by omega) (fun k hk => (World.ownsRow.lt own1 k hk).1)
  have ho1 := own_append ho1'
  clear ho1' hg1 own1 box1 bel1 hr1
  obtain ⟨c0_2, c1_2, c2_2, c3_2⟩ := box1'.at4
  have s0_2 := (bel1').size
  go_wp2_with fail
  refine (number_any n _ n0 n1).mono ?_
  rintro e q2 ⟨y2, rfl, oy2, by2⟩
  obtain ⟨ao2, cap2, rfl, hr2, _⟩ := oy2.rd
  have own2 := ho1.later by2
  have box2 := box1'.later by2
  have bel2 := (bel1').trans (by2.mono (by omega))
  have sz2 := bel2.size
  have nl2 := (numBytes_len n).2
  clear oy2 c0_2 c1_2 c2_2 c3_2 by2
  go_wp2_with (at_builtin; refine wpList_append_from rfl _ _ 23 23 rfl base 5 i0 (.int .u8 0) 1 1 Tryz.underlying23 hi hz0 hz1 hz2 rfl _ _ _ rfl own2 _ (numBytes n).length (bv (numBytes n)) rfl (src_of_rd Tryz.underlying23 hr2) (by simp [maxLen]; omega) (by simp; omega) (by omega) ?_)
  intro v2 w2 ho2' hg2
  have box2' := box2.kept own2 hg2
  have bel2' : Below base w w2 := bel2.grown hg2 (by omega) (fun k hk => (World.ownsRow.lt own2 k hk).1)
  have ho2 := own_append ho2'
  clear ho2' hg2 own2 box2 bel2 hr2
  obtain ⟨c0_3, c1_3, c2_3, c3_3⟩ := box2'.at4
  have s0_3 := (bel2').size
  go_wp2_with fail
  refine (number_any m _ m0 m1).mono ?_
  rintro e q3 ⟨y3, rfl, oy3, by3⟩
  obtain ⟨ao3, cap3, rfl, hr3, _⟩ := oy3.rd
  have own3 := ho2.later by3
  have box3 := box2'.later by3
  have bel3 := (bel2').trans (by3.mono (by omega))
  have sz3 := bel3.size
  have nl3 := (numBytes_len m).2
  clear oy3 c0_3 c1_3 c2_3 c3_3 by3
  go_wp2_with (at_builtin; refine wpList_append_from rfl _ _ 23 23 rfl base 5 i0 (.int .u8 0) 1 1 Tryz.underlying23 hi hz0 hz1 hz2 rfl _ _ _ rfl own3 _ (numBytes m).length (bv (numBytes m)) rfl (src_of_rd Tryz.underlying23 hr3) (by simp [maxLen]; omega) (by simp; omega) (by omega) ?_)
  intro v3 w3 ho3' hg3
  have box3' := box3.kept own3 hg3
  have bel3' : Below base w w3 := bel3.grown hg3 (by omega) (fun k hk => (World.ownsRow.lt own3 k hk).1)
  have ho3 := own_append ho3'
  clear ho3' hg3 own3 box3 bel3 hr3
  obtain ⟨c0, c1, c2, c3⟩ := box3'.at4
  go_wp2
  go_ret
  exact ⟨_, rfl, by simpa [vbytes] using ho3, bel3'⟩

set_option maxHeartbeats 4000000 in
theorem appendValue_3 (x : Value) (bs : List UInt8) (base : Nat) (b : List UInt8) (w : World) (hown : Own w base x bs) (hb : base ≤ w.heap.size) (hl : bs.length ≤ 1000000) (hbl : b.length ≤ 256) :
    Calls Tryz.prog 18 #[x, va 3 0 0 ⟨b.toArray⟩] w fun e w' => ∃ v', e = .returned v' ∧ Own w' base v' (bs ++ vbytes ⟨3, 0, 0, b⟩) ∧ Below base w w' := by
  obtain ⟨i0, hi, hz0, hz1, hz2⟩ := info_parts Tryz.info5
  have boxA := Box.new w 3 0 0 b
  have ownA : Own (w.alloc (.cells #[.int .i64 3, .int .i64 0, .int .i64 0, .string ⟨b.toArray⟩] 47)) base x bs := World.ownsRow.alloc hown _
  have belA : Below base w (w.alloc (.cells #[.int .i64 3, .int .i64 0, .int .i64 0, .string ⟨b.toArray⟩] 47)) := (Below.refl _ _).alloc hb _
  have szA := belA.size
  go_enter Tryz.func18, Tryz.ntmps18
  go_upto_region 1 with fail
  generalize w.alloc (.cells #[.int .i64 3, .int .i64 0, .int .i64 0, .string ⟨b.toArray⟩] 47) = wA at *
  obtain ⟨c0_1, c1_1, c2_1, c3_1⟩ := boxA.at4
  have s0_1 := (belA).size
  go_wp2_with fail
  refine (number_any (3 : Int) _ (by decide) (by decide)).mono ?_
  rintro e q1 ⟨y1, rfl, oy1, by1⟩
  obtain ⟨ao1, cap1, rfl, hr1, _⟩ := oy1.rd
  have own1 := ownA.later by1
  have box1 := boxA.later by1
  have bel1 := (belA).trans (by1.mono (by omega))
  have sz1 := bel1.size
  have nl1 := (numBytes_len (3 : Int)).2
  clear oy1 c0_1 c1_1 c2_1 c3_1 by1
  go_wp2_with (at_builtin; refine wpList_append_from rfl _ _ 23 23 rfl base 5 i0 (.int .u8 0) 1 1 Tryz.underlying23 hi hz0 hz1 hz2 rfl _ _ _ rfl own1 _ (numBytes (3 : Int)).length (bv (numBytes (3 : Int))) rfl (src_of_rd Tryz.underlying23 hr1) (by simp [maxLen]; omega) (by simp; omega) (by omega) ?_)
  intro v1 w1 ho1' hg1
  have box1' := box1.kept own1 hg1
  have bel1' : Below base w w1 := bel1.grown hg1 (by omega) (fun k hk => (World.ownsRow.lt own1 k hk).1)
  have ho1 := own_append ho1'
  clear ho1' hg1 own1 box1 bel1 hr1
  obtain ⟨c0_2, c1_2, c2_2, c3_2⟩ := box1'.at4
  have s0_2 := bel1'.size
  have bsz : (ByteArray.mk b.toArray).size = b.length := by simp [ByteArray.size]
  go_wp2_with fail
  refine (text_fits _ _ (by omega)).mono ?_
  rintro e n2 ⟨y2, rfl, oy2, by2⟩
  obtain ⟨ao2, cap2, rfl, hr2, _⟩ := oy2.rd
  have own2 := ho1.later by2
  have box2 := box1'.later by2
  have bel2 := bel1'.trans (by2.mono (by omega))
  have sz2 := bel2.size
  have nl2 : (textBytes ⟨b.toArray⟩).length ≤ 300 := by
    have := (numBytes_len ((ByteArray.mk b.toArray).size : Int)).2
    simp only [textBytes, List.length_append] at *
    simp
    omega
  obtain ⟨TB, hTB⟩ : ∃ TB, TB = textBytes ⟨b.toArray⟩ := ⟨_, rfl⟩
  rw [← hTB] at hr2 nl2
  rw [← hTB]
  have HTB : Hid (TB = textBytes ⟨b.toArray⟩) := hTB
  clear oy2 c0_2 c1_2 c2_2 c3_2 by2 hTB bsz hbl boxA ownA belA
  go_wp2_with (at_builtin; refine wpList_append_from rfl _ _ 23 23 rfl base 5 i0 (.int .u8 0) 1 1 Tryz.underlying23 hi hz0 hz1 hz2 rfl _ _ _ rfl own2 _ TB.length (bv TB) rfl (src_of_rd Tryz.underlying23 hr2) (by simp [maxLen]; omega) (by simp; omega) (by omega) ?_)
  intro v2 w2 ho2' hg2
  have box2' := box2.kept own2 hg2
  have bel2' : Below base w w2 := bel2.grown hg2 (by omega) (fun k hk => (World.ownsRow.lt own2 k hk).1)
  have ho2 := own_append ho2'
  rw [HTB.out] at ho2
  clear ho2' hg2 own2 box2 bel2 hr2
  obtain ⟨c0, c1, c2, c3⟩ := box2'.at4
  go_wp2
  go_ret
  exact ⟨_, rfl, by simpa [vbytes] using ho2, bel2'⟩

end Go.Proofs.YtafmchgncahafaaGreatDoor
