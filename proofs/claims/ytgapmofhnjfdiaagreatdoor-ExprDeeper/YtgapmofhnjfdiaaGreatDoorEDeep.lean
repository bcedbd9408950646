/-
  The walk of longstoplaw06.ExprDeeper.
-/
import Derived.Test.YtgapmofhnjfdiaaGreatDoorMYEDpM
namespace Go.Proofs.YtgapmofhnjfdiaaGreatDoor
open Go.RowKit Go.Shelf
attribute [local go_sem] cell?_more frozen?_more setCell_more more_lt more_more more_drew more_drewN setCell_drewN alloc_drewN

theorem sh_app {l : List Nd} (h : shN l) : shN (l ++ [ntN]) := by
  intro x hx
  rcases List.mem_append.1 hx with hx | hx
  · exact h x hx
  · obtain rfl : x = ntN := by simpa using hx
    exact ⟨by simp, by simp⟩
theorem lit_kind {v : Va} (h : litV v = true) : v.k = 0 ∨ v.k = 1 ∨ v.k = 2 ∨ v.k = 3 ∨ v.k = 4 := by
  unfold litV at h
  simp only [Bool.and_eq_true, Bool.not_eq_true', beq_eq_false_iff_ne] at h
  have hok := (vr_iff v).1 h.1
  have h5 := h.2.1
  unfold vok at hok
  omega

set_option maxRecDepth 20000 in
set_option maxHeartbeats 4000000 in
theorem deep_zero (ao : Option Addr) (cap : Nat) (xs : List Nd) (w : World) (hv : Nw w ao xs) (hn : xs.length * 88 ≤ 140737488351232) (hs : shN xs) (hT : Tabs w) (hP : Ptab w) (hS : Sg w) (hd : depN mayN xs = 0) :
    Calls Tryz.prog 3 #[.slice ao xs.length cap] w fun e w' => e = .returned (.bool true) ∧ Below w.heap.size w w' := by
  have OW := own6_any ao cap xs w hv hn
  have DE : Hid (∀ W a c, Below w.heap.size w W → Nw W a xs → Calls Tryz.prog 9 #[.slice a xs.length c] W fun e w' => e = .returned (.int .i64 0) ∧ Below W.heap.size W w') := fun W a c h h1 => by
    have := depth_of a c xs W h1 (by omega) hs (hT.later h)
    rw [hd] at this
    exact this
  have RI : Hid (∀ W a c, Below w.heap.size w W → Nw W a xs → Calls Tryz.prog 10 #[.slice a xs.length c] W fun e w' => e = .returned (.bool false) ∧ Below W.heap.size W w') := fun W a c h h1 => by
    have := right_of a c xs W h1 (by omega) hs (hT.later h)
    rw [decide_eq_false (by omega)] at this
    exact this
  have CO : Hid (∀ W a c, Below w.heap.size w W → Nw W a xs → Calls Tryz.prog 11 #[.slice a xs.length c] W fun e w' => (∃ a' c', e = .returned (.slice a' 0 c')) ∧ Below W.heap.size W w') := fun W a c h h1 => by
    have := columns_any a c xs W h1 (by omega) hs (hT.later h)
    rw [if_neg (by omega)] at this
    refine this.mono fun e w' ⟨⟨v, he, hn⟩, hb⟩ => ⟨?_, hb⟩
    obtain ⟨a', c', rfl, _⟩ := hn.lies
    exact ⟨a', c', he⟩
  have KN : Hid (∀ W, Below w.heap.size w W → Calls Tryz.prog 12 #[] W fun e w' => e = .returned (.bool true) ∧ Below W.heap.size W w') := fun W h => knows6_any W (hT.later h) (hP.later h) (hS.later h)
  clear hv hs hT hP hS hd
  generalize xs.length = n at *
  go_enter Tryz.func3, Tryz.ntmps3
  go_wp2_with fail
  refine OW.mono ?_
  rintro e w1 ⟨⟨a1, c1, rfl, n1, _⟩, b1⟩
  have D1 := DE.out w1 a1 c1 b1 n1
  clear OW
  go_wp2_with fail
  refine D1.mono ?_
  rintro e w2 ⟨rfl, b2⟩
  have B2 := below_trans b1 b2
  have R1 := RI.out w2 a1 c1 B2 (n1.later b2)
  clear D1
  go_wp2_with fail
  refine R1.mono ?_
  rintro e w3 ⟨rfl, b3⟩
  have B3 := below_trans B2 b3
  have C1 := CO.out w3 a1 c1 B3 ((n1.later b2).later b3)
  clear R1
  go_wp2_with fail
  refine C1.mono ?_
  rintro e w4 ⟨⟨a4, c4, rfl⟩, b4⟩
  have B4 := below_trans B3 b4
  have K1 := KN.out w4 B4
  clear C1
  go_wp2_with fail
  refine K1.mono ?_
  rintro e w5 ⟨rfl, b5⟩
  go_wp2
  go_ret
  exact ⟨rfl, below_trans B4 b5⟩

set_option maxRecDepth 20000 in
set_option maxHeartbeats 4000000 in
theorem deep_pos (ao : Option Addr) (cap : Nat) (xs : List Nd) (w : World) (hv : Nw w ao xs) (hn : xs.length * 88 ≤ 140737488351232) (hs : shN xs) (hin : ∀ x ∈ xs, -9223372036854775808 ≤ x.v.n ∧ x.v.n ≤ 9223372036854775807) (hT : Tabs w) (hP : Ptab w) (hS : Sg w) (hd : 0 < depN mayN xs) :
    Calls Tryz.prog 3 #[.slice ao xs.length cap] w fun e w' => e = .returned (.bool true) ∧ Below w.heap.size w w' := by
  obtain ⟨i0, hi0, hz0, hz1, hz2⟩ := info_parts infoNd
  have hlen := (depN_some hd).1
  have OW : Hid (∀ W, Below w.heap.size w W → Calls Tryz.prog 8 #[.slice ao xs.length cap] W fun e w' => (∃ ao' cap', e = .returned (.slice ao' xs.length cap') ∧ Nw w' ao' xs ∧ Nowns w' W.heap.size (.slice ao' xs.length cap') xs) ∧ Below W.heap.size W w') := fun W h => own6_any ao cap xs W (hv.later h) hn
  have DE : Hid (∀ W a c l, l.length ≤ 300 → shN l → Below w.heap.size w W → Nw W a l → Calls Tryz.prog 9 #[.slice a l.length c] W fun e w' => e = .returned (.int .i64 (depN mayN l : Int)) ∧ Below W.heap.size W w') := fun W a c l h1 h2 h h3 => depth_of a c l W h3 (by omega) h2 (hT.later h)
  have RI : Hid (∀ W a c l, l.length ≤ 300 → shN l → Below w.heap.size w W → Nw W a l → Calls Tryz.prog 10 #[.slice a l.length c] W fun e w' => e = .returned (.bool (decide (0 < depN mayN l))) ∧ Below W.heap.size W w') := fun W a c l h1 h2 h h3 => right_of a c l W h3 (by omega) h2 (hT.later h)
  have CO : Hid (∀ W a c l, l.length ≤ 300 → shN l → Below w.heap.size w W → Nw W a l → 0 < depN mayN l → Calls Tryz.prog 11 #[.slice a l.length c] W fun e w' => (∃ v, e = .returned v ∧ Nowns w' W.heap.size v (colsL l [])) ∧ Below W.heap.size W w') := fun W a c l h1 h2 h h3 h4 => by
    have := columns_any a c l W h3 (by omega) h2 (hT.later h)
    rw [if_pos h4] at this
    exact this
  have PR : Hid (∀ W a c l, l.length ≤ 300 → shN l → (∀ x ∈ l, -9223372036854775808 ≤ x.v.n ∧ x.v.n ≤ 9223372036854775807) → Below w.heap.size w W → Nw W a l → Calls Tryz.prog 13 #[.slice a l.length c] W fun e w' => e = .returned (.string ⟨(prtN pvl l).toArray⟩) ∧ Below W.heap.size W w') := fun W a c l h1 h2 h4 h h3 =>
    print_walk pvl 1000 a c l W h3 (by omega) h2 (hT.later h) (hS.later h) (by omega) (fun hd => pv_bounds hd h4) (fun hd x hx ho V hV => by
      have hl := (may_parts (dep_may hd x hx)).2.2.1 ho
      exact vprint_lit x.v V (hT.later (below_trans h hV)) (hP.later (below_trans h hV)) hl (h4 x hx) (lit_kind hl))
  have KN : Hid (∀ W, Below w.heap.size w W → Calls Tryz.prog 12 #[] W fun e w' => e = .returned (.bool true) ∧ Below W.heap.size W w') := fun W h => knows6_any W (hT.later h) (hP.later h) (hS.later h)
  have hinY : Hid (∀ x ∈ xs ++ [ntN], -9223372036854775808 ≤ x.v.n ∧ x.v.n ≤ 9223372036854775807) := by
    intro x hx
    rcases List.mem_append.1 hx with hx | hx
    · exact hin x hx
    · obtain rfl : x = ntN := by simpa using hx
      exact ⟨by decide, by decide⟩
  have HIN : Hid (∀ x ∈ xs, -9223372036854775808 ≤ x.v.n ∧ x.v.n ≤ 9223372036854775807) := hin
  have DN : Hid (depN mayN (xs ++ [ntN]) = if depN mayN xs = 16 ∨ xs.length = 256 then 0 else depN mayN xs + 1) := depN_nt xs hd
  have SX : Hid (shN xs) := hs
  have SY : Hid (shN (xs ++ [ntN])) := sh_app hs
  have HD : Hid (0 < depN mayN xs) := hd
  clear hv hs hT hP hS hin hd
  obtain ⟨n, hnn⟩ : ∃ n, xs.length = n := ⟨_, rfl⟩
  have HN : Hid (xs.length = n) := hnn
  have HY : Hid ((xs ++ [ntN]).length = n + 1) := by show _ = _; rw [List.length_append, hnn]; rfl
  rw [hnn] at OW DN hn hlen ⊢
  obtain ⟨D, hD⟩ : ∃ D : Int, (depN mayN xs : Int) = D := ⟨_, rfl⟩
  have HDD : Hid ((depN mayN xs : Int) = D) := hD
  have D0 : ¬ D = 0 := by have := HD.out; omega
  have D0' : (D == 0) = false := by rw [beq_eq_false_iff_ne]; exact D0
  clear hnn hD
  go_enter Tryz.func3, Tryz.ntmps3
  go_wp2_with fail
  refine (OW.out w (Below.refl _ _)).mono ?_
  rintro e w1 ⟨⟨a1, c1, rfl, n1, _⟩, b1⟩
  have D1 := DE.out w1 a1 c1 xs (by rw [HN.out]; omega) SX.out b1 n1
  rw [HN.out, HDD.out] at D1
  go_wp2_with fail
  refine D1.mono ?_
  rintro e w2 ⟨rfl, b2⟩
  have B2 := below_trans b1 b2
  have NX2 : Hid (Nw w2 a1 xs) := n1.later b2
  have O2 := OW.out w2 B2
  clear D1 n1 OW
  go_wp2_with fail
  refine O2.mono ?_
  rintro e w3 ⟨⟨a3, c3, rfl, _, o3⟩, b3⟩
  have B3 := below_trans B2 b3
  have hNo : w3.ownsRow w2.heap.size 32 8 (.slice a3 n c3) n (ncells xs) := by have := o3; unfold Nowns at this; rw [HN.out] at this; exact this
  have hs23 := b3.size
  clear O2 o3
  go_wp2_with (at_builtin; refine wpList_append_own _ rfl _ _ 23 rfl w2.heap.size 32 i0 (.agg #[.int .i64 0, .string ⟨#[]⟩, .string ⟨#[]⟩, .int .i64 0, .int .i64 0, .int .i64 0, .string ⟨#[]⟩, .int .i64 0]) 8 88 Tryz.underlying23 hi0 hz0 hz1 hz2 rfl (by decide) _ _ _ rfl (World.ownsRow.alloc hNo _) ⟨w3.heap.size, 0, none⟩ 1 1 (ncs ntN).toList rfl rfl (World.news_of_block (cs := ncs ntN) (t := 32) (fr := (0, 0)) (heap_alloc_new w3 _)) (one_nd ntN) (by unfold maxLen; omega) (by omega) (by simp; omega) ?_)
  intro yv w4 hown4 hgrow4 _
  have b24 : Below w2.heap.size w2 w4 := (b3.alloc b3.size _).grown hgrow4 (by simp; omega) (fun k hk => (World.ownsRow.lt hNo k hk).1)
  have B4 := below_trans B2 b24
  have ho4 := Nowns.push (x := ntN) hown4 (by rw [HN.out])
  obtain ⟨ya, yc, hve, hy⟩ := ho4.lies
  rw [HY.out] at hve
  subst hve
  have DY := DE.out w4 ya yc (xs ++ [ntN]) (by rw [HY.out]; omega) SY.out B4 hy
  rw [HY.out] at DY
  have NY4 : Hid (Nw w4 ya (xs ++ [ntN])) := hy
  have NX4 : Hid (Nw w4 a1 xs) := NX2.out.later b24
  clear hown4 hgrow4 ho4 hNo hy NX2 b24 hs23 B3 b3 B2 b1 b2
  by_cases htop : depN mayN xs = 16 ∨ n = 256
  case pos =>
    have hz : depN mayN (xs ++ [ntN]) = 0 := by rw [DN.out, if_pos htop]
    have RY : Hid (∀ W, Below w4.heap.size w4 W → Calls Tryz.prog 10 #[.slice ya (n + 1) yc] W fun e w' => e = .returned (.bool false) ∧ Below W.heap.size W w') := fun W h => by
      have := RI.out W ya yc (xs ++ [ntN]) (by rw [HY.out]; omega) SY.out (below_trans B4 h) (NY4.out.later h)
      rw [HY.out, hz] at this
      exact this
    rw [hz] at DY
    replace DY : Calls Tryz.prog 9 #[.slice ya (n + 1) yc] w4 fun e w' => e = .returned (.int .i64 0) ∧ Below w4.heap.size w4 w' := DY
    by_cases h16 : D = 16
    · subst h16
      clear htop hz HDD D0 D0'
      as_aux_lemma =>
        go_wp2_with fail
        refine DY.mono ?_
        rintro e w5 ⟨rfl, b5⟩
        have R5 := RY.out w5 b5
        clear DY
        go_wp2_with fail
        refine R5.mono ?_
        rintro e w6 ⟨rfl, b6⟩
        have B6 := below_trans (below_trans B4 b5) b6
        have K6 := KN.out w6 B6
        clear R5
        go_wp2_with fail
        refine K6.mono ?_
        rintro e w7 ⟨rfl, b7⟩
        go_wp2
        go_ret
        exact ⟨rfl, below_trans B6 b7⟩
    · have hn256 : n = 256 := by
        rcases htop with h | h
        · have := HDD.out; omega
        · exact h
      subst hn256
      have h16' : (D == 16) = false := by rw [beq_eq_false_iff_ne]; exact h16
      clear htop hz HDD
      as_aux_lemma =>
        go_wp2_with fail
        refine DY.mono ?_
        rintro e w5 ⟨rfl, b5⟩
        have R5 := RY.out w5 b5
        clear DY
        go_wp2_with fail
        refine R5.mono ?_
        rintro e w6 ⟨rfl, b6⟩
        have B6 := below_trans (below_trans B4 b5) b6
        have K6 := KN.out w6 B6
        clear R5
        go_wp2_with fail
        refine K6.mono ?_
        rintro e w7 ⟨rfl, b7⟩
        go_wp2
        go_ret
        exact ⟨rfl, below_trans B6 b7⟩
  have h16 : ¬ D = 16 := by have := HDD.out; omega
  have h16' : (D == 16) = false := by rw [beq_eq_false_iff_ne]; exact h16
  have hn256 : ¬ n = 256 := by omega
  have hn256' : ((n : Int) == 256) = false := by rw [beq_eq_false_iff_ne]; omega
  have hz : depN mayN (xs ++ [ntN]) = depN mayN xs + 1 := by rw [DN.out, if_neg htop]
  have HZ : Hid (0 < depN mayN (xs ++ [ntN])) := by show _ < _; omega
  have eD : ((depN mayN (xs ++ [ntN]) : Nat) : Int) = D + 1 := by rw [hz]; have := HDD.out; omega
  have HED : Hid (((depN mayN (xs ++ [ntN]) : Nat) : Int) = D + 1) := eD
  have hD16 : 0 ≤ D ∧ D ≤ 16 := by
    have h1 := HDD.out
    have h2 : depN mayN xs ≤ 16 := by unfold depN depO; split <;> (try split) <;> (try split) <;> omega
    omega
  have CX := CO.out w4 a1 c1 xs (by rw [HN.out]; omega) SX.out B4 NX4.out HD.out
  rw [HN.out] at CX
  clear htop hz eD DY
  go_wp2_with fail
  refine CX.mono ?_
  rintro e w5 ⟨⟨v5, rfl, o5⟩, b5⟩
  obtain ⟨a5, c5, rfl, q5⟩ := o5.lies
  have B5 := below_trans B4 b5
  have CY := CO.out w5 ya yc (xs ++ [ntN]) (by rw [HY.out]; omega) SY.out B5 (NY4.out.later b5) HZ.out
  rw [HY.out, colsL_nt] at CY
  clear CX o5
  go_wp2_with fail
  refine CY.mono ?_
  rintro e w6 ⟨⟨v6, rfl, o6⟩, b6⟩
  obtain ⟨a6, c6, rfl, q6⟩ := o6.lies
  have Q5 : Hid (Nw w6 a5 (colsL xs [])) := q5.later b6
  have Q6 : Hid (Nw w6 a6 (colsL xs [])) := q6
  have B6 := below_trans B5 b6
  have NY6 : Hid (Nw w6 ya (xs ++ [ntN])) := (NY4.out.later b5).later b6
  have NX6 : Hid (Nw w6 a1 xs) := (NX4.out.later b5).later b6
  clear CY o6 q5 q6 NY4 NX4 B5 B4 b5 b6
  have hCl : (colsL xs []).length ≤ 256 := by have := colsL_len xs []; have h := HN.out; simp at this; omega
  generalize colsL xs [] = C at *
  obtain ⟨m, hm⟩ : ∃ m, C.length = m := ⟨_, rfl⟩
  have HM : Hid (C.length = m) := hm
  rw [hm] at hCl ⊢
  clear hm
  go_wp2_with fail
  go_loopw [8] (fun r wr => ∃ k : Nat, r = .int .i64 (k : Int) ∧ k ≤ m ∧ Below w6.heap.size w6 wr) (fun r _ => m - (intOf r).toNat)
  case atStart => exact ⟨0, rfl, Nat.zero_le _, Below.refl _ _⟩
  case round =>
    obtain ⟨k, rfl, hk, hb⟩ := hrel
    by_cases hlt : k < m
    · have hlt' : (k : Int) < (m : Int) := by omega
      have k0 : (0 : Int) ≤ (k : Int) := by omega
      have hkl : k < C.length := by rw [HM.out]; exact hlt
      obtain ⟨s1, o1, rfl, h1⟩ := (Q5.out.later hb) (by omega)
      obtain ⟨s2, o2, rfl, h2⟩ := (Q6.out.later hb) (by omega)
      obtain ⟨x0, x1, x2, x3, x4, x5, x6, x7⟩ := h1 k hkl
      obtain ⟨z0, z1, z2, z3, z4, z5, z6, z7⟩ := h2 k hkl
      have l1 := (h1 k hkl).lt
      have l2 := (h2 k hkl).lt
      have eqx := fun W => eqNd C[k] C[k] W
      rw [show sameN C[k] C[k] = true from sameN_eq.2 rfl] at eqx
      generalize C[k] = c at *
      obtain ⟨co, ct, cn, ⟨ck, cx, cm, cb⟩, ca⟩ := c
      have eqx' : ∀ W, (Op.equalIn 10000 32 (.agg #[.int .i64 co, .string ⟨ct.toArray⟩, .string ⟨cn.toArray⟩, .int .i64 ck, .int .i64 cx, .int .i64 cm, .string ⟨cb.toArray⟩, .int .i64 ca]) (.agg #[.int .i64 co, .string ⟨ct.toArray⟩, .string ⟨cn.toArray⟩, .int .i64 ck, .int .i64 cx, .int .i64 cm, .string ⟨cb.toArray⟩, .int .i64 ca])).run Tryz.prog W = .ok true W := eqx
      have HBB : Hid (Below w6.heap.size w6 wr) := hb
      clear eqx h1 h2 Q5 Q6 hb
      as_aux_lemma =>
        go_wp2
        go_region
        all_goals go_wp2
        all_goals exact ⟨⟨k + 1, by rw [cst1], by omega, by first | exact HBB.out | exact HBB.out.drew⟩, by simp [intOf]; omega⟩
    · have hlt' : ¬ (k : Int) < (m : Int) := by omega
      have B7 := below_trans B6 hb
      have D7 := DE.out wr ya yc (xs ++ [ntN]) (by rw [HY.out]; omega) SY.out B7 (NY6.out.later hb)
      rw [HY.out, HED.out] at D7
      have NX7 : Hid (Nw wr a1 xs) := NX6.out.later hb
      have NY7 : Hid (Nw wr ya (xs ++ [ntN])) := NY6.out.later hb
      clear Q5 Q6 NX6 NY6 hb
      as_aux_lemma =>
        go_wp2_with fail
        refine D7.mono ?_
        rintro e w8 ⟨rfl, b8⟩
        have B8 := below_trans B7 b8
        have P8 := PR.out w8 ya yc (xs ++ [ntN]) (by rw [HY.out]; omega) SY.out hinY.out B8 (NY7.out.later b8)
        rw [HY.out, prtN_nt pvl xs HZ.out HD.out, par_not] at P8
        clear D7
        go_wp2_with fail
        refine P8.mono ?_
        rintro e w9 ⟨rfl, b9⟩
        have B9 := below_trans B8 b9
        have P9 := PR.out w9 a1 c1 xs (by rw [HN.out]; omega) SX.out HIN.out B9 ((NX7.out.later b8).later b9)
        rw [HN.out] at P9
        have hpl := prtN_len pvl 1000 xs HD.out (pv_bounds HD.out HIN.out)
        clear P8
        generalize prtN pvl xs = T at *
        have e1 : (ByteArray.mk #[40, 110, 111, 116, 32]) ++ (ByteArray.mk T.toArray) = ⟨([40, 110, 111, 116, 32] ++ T).toArray⟩ := ba_app [40, 110, 111, 116, 32] T
        have e2 : (ByteArray.mk ([40, 110, 111, 116, 32] ++ T).toArray) ++ (ByteArray.mk #[41]) = ⟨([40, 110, 111, 116, 32] ++ T ++ [41]).toArray⟩ := ba_app ([40, 110, 111, 116, 32] ++ T) [41]
        have s1 : ¬ 9223372036854775807 < 5 + (ByteArray.mk T.toArray).size := by show ¬ _ < 5 + T.length; omega
        have s2 : ¬ 9223372036854775807 < (ByteArray.mk ([40, 110, 111, 116, 32] ++ T).toArray).size + 1 := by show ¬ _ < ([40, 110, 111, 116, 32] ++ T).length + 1; rw [List.length_append]; simp; omega
        generalize ByteArray.mk ([40, 110, 111, 116, 32] ++ T ++ [41]).toArray = R at *
        generalize ByteArray.mk ([40, 110, 111, 116, 32] ++ T).toArray = G at *
        generalize ByteArray.mk T.toArray = E at *
        clear hpl
        go_wp2_with fail
        refine P9.mono ?_
        rintro e w10 ⟨rfl, b10⟩
        have B10 := below_trans B9 b10
        have K10 := KN.out w10 B10
        clear P9
        go_wp2_with fail
        refine K10.mono ?_
        rintro e w11 ⟨rfl, b11⟩
        go_wp2
        go_ret
        exact ⟨rfl, below_trans B10 b11⟩
end Go.Proofs.YtgapmofhnjfdiaaGreatDoor
