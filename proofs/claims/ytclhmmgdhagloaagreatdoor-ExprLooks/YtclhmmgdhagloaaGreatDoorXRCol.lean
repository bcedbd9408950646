/-
  The document's Columns of nodes, and its Depth.
-/
import Derived.Test.YtclhmmgdhagloaaGreatDoorXRDep
import Derived.Test.YtclhmmgdhagloaaGreatDoorECol
import Derived.Test.YtclhmmgdhagloaaGreatDoorMSXROp
import Derived.BigRegion
namespace Go.Proofs.YtclhmmgdhagloaaGreatDoor
open Go.RowKit Go.Shelf
attribute [local go_sem] cell?_more frozen?_more setCell_more more_lt more_more more_drew more_drewN setCell_drewN alloc_drewN

theorem infoNdR : (Tryz.prog.info? 67).map (fun i => (i.zero, i.size, i.bytes)) = some (some (.agg #[.int .i64 0, .string ⟨#[]⟩, .string ⟨#[]⟩, .int .i64 0, .int .i64 0, .int .i64 0, .string ⟨#[]⟩, .int .i64 0]), 8, 88) := by kernel_rfl
/-- The document's nodes that a call has made. -/
abbrev NownsR (w : World) (base : Nat) (v : Value) (x : List Nd) : Prop := w.ownsRow base 67 8 v x.length (ncells x)
theorem NownsR.lies {w : World} {base : Nat} {v : Value} {x : List Nd} (h : NownsR w base v x) :
    ∃ ao cap, v = .slice ao x.length cap ∧ Nw w ao x := by
  obtain ⟨h1, h2⟩ := h
  rcases h2 with ⟨rfl, hn⟩ | ⟨g, cap, cur, rfl, hb, hg, hnc, hcm, hcs, htake⟩
  · exact ⟨none, 0, by rw [hn], fun hp => by omega⟩
  · refine ⟨some ⟨g, 0, none⟩, cap, rfl, fun hp => ⟨g, 0, rfl, fun i hi => ?_⟩⟩
    have hc : ∀ j, j < 8 → w.cell? ⟨g, 0 + i * 8 + j, none⟩ = (ncs x[i])[j]? := by
      intro j hj
      rw [← ncells_at x i j hi hj, cell_of_row w g (0 + i * 8 + j) cur _ (0, 0) hg, ← htake]
      rw [List.getElem?_take, if_pos (by omega), Nat.zero_add]
      simp
    exact ⟨hc 0 (by decide), hc 1 (by decide), hc 2 (by decide), hc 3 (by decide), hc 4 (by decide), hc 5 (by decide), hc 6 (by decide), hc 7 (by decide)⟩
theorem NownsR.push {w : World} {base n : Nat} {v : Value} {acc : List Nd} {x : Nd} (h : w.ownsRow base 67 8 v n (ncells acc ++ (ncs x).toList)) (hn : n = acc.length + 1) : NownsR w base v (acc ++ [x]) := by
  unfold NownsR
  rw [ncells_snoc, List.length_append]
  subst hn
  exact h
def metN (out : List Nd) (x : Nd) : Bool := out.any fun y => y.t == x.t && y.n == x.n
def colsD : List Nd → List Nd → List Nd
  | [], out => out
  | x :: l, out => colsD l (if x.o = 2 ∧ metN out x = false then out ++ [x] else out)
theorem cols_doc (l : List Nd) : ∀ out, (∀ x ∈ l, mayN x = true) → (∀ y ∈ out, y = ⟨2, y.t, y.n, vz0, 0⟩) → colsD l out = colsL l out := by
  induction l with
  | nil => intro out _ _; rfl
  | cons x l ih =>
    intro out hl ho
    unfold colsD colsL
    by_cases h2 : x.o = 2
    · have hx : x = ⟨2, x.t, x.n, vz0, 0⟩ := by
        have hm := hl x (by simp)
        unfold mayN at hm
        rw [Bool.and_eq_true] at hm
        have e := sameN_eq.1 hm.1
        unfold namedN at e
        rw [if_neg (by omega), if_pos h2] at e
        exact e
      have hmem : metN out x = memN out x := by
        unfold metN memN
        rw [Bool.eq_iff_iff]
        simp only [List.any_eq_true, Bool.and_eq_true, beq_iff_eq]
        constructor
        · rintro ⟨y, hy, h3, h4⟩
          refine ⟨y, hy, sameN_eq.2 ?_⟩
          rw [ho y hy, hx, ← h3, ← h4]
        · rintro ⟨y, hy, h3⟩
          have := sameN_eq.1 h3
          exact ⟨y, hy, by rw [this], by rw [this]⟩
      rw [hmem, ← hx]
      refine ih _ (fun y hy => hl y (by simp [hy])) ?_
      split
      · intro y hy
        rcases List.mem_append.1 hy with h | h
        · exact ho y h
        · obtain rfl : y = x := by simpa using h
          exact hx
      · exact ho
    · rw [if_neg (fun h => h2 h.1), if_neg (fun h => h2 h.1)]
      exact ih _ (fun y hy => hl y (by simp [hy])) ho
theorem metN_snoc (out : List Nd) (x : Nd) (j : Nat) (h : j < out.length) : metN (out.take (j + 1)) x = (metN (out.take j) x || (out[j].t == x.t && out[j].n == x.n)) := by
  unfold metN
  rw [List.take_succ_eq_append_getElem h, List.any_append]
  simp

set_option maxRecDepth 20000 in
set_option maxHeartbeats 4000000 in
theorem rcolumns_any (ao : Option Addr) (cap : Nat) (l : List Nd) (w : World) (hv : Nw w ao l) (_hn : l.length ≤ 140737488351232)
    (RI : Calls Tryz.prog 10 #[.slice ao l.length cap] w fun e w' => e = .returned (.bool (decide (0 < depN mayN l))) ∧ Below w.heap.size w w') :
    Calls Tryz.prog 15 #[.slice ao l.length cap] w fun e w' => (∃ v, e = .returned v ∧ NownsR w' w.heap.size v (if 0 < depN mayN l then colsL l [] else [])) ∧ Below w.heap.size w w' := by
  obtain ⟨i0, hi, hz0, hz1, hz2⟩ := info_parts infoNdR
  by_cases hd : 0 < depN mayN l
  case neg =>
    rw [if_neg hd]
    rw [decide_eq_false hd] at RI
    clear hd hv
    generalize l.length = n at *
    go_enter Tryz.func15, Tryz.ntmps15
    go_wp2_with (go_at_call 10; refine RI.mono ?_; rintro e w1 ⟨rfl, b1⟩)
    go_ret
    exact ⟨⟨_, rfl, World.ownsRow_nil _ _ _ _⟩, b1⟩
  rw [if_pos hd]
  rw [decide_eq_true hd] at RI
  rw [← cols_doc l [] (dep_may hd) (fun y hy => by simp at hy)]
  have hlen : l.length ≤ 256 := by
    unfold depN at hd
    split at hd
    · assumption
    · omega
  obtain ⟨R, hR⟩ : ∃ R, R = colsD l [] := ⟨_, rfl⟩
  rw [← hR]
  have HR : Hid (colsD (l.drop 0) [] = R) := hR.symm
  clear hR hd
  obtain ⟨n, hnn⟩ : ∃ n, l.length = n := ⟨_, rfl⟩
  rw [hnn] at hlen RI ⊢
  have HN : Hid (l.length = n) := hnn
  clear hnn
  go_enter Tryz.func15, Tryz.ntmps15
  go_wp2_with (go_at_call 10; refine RI.mono ?_; rintro e w1 ⟨rfl, b1⟩)
  go_loopw [3, 4] (fun r3 r4 wr => ∃ (k : Nat) (out : List Nd), r4 = .int .i64 (k : Int) ∧ k ≤ n ∧ out.length ≤ k ∧ NownsR wr w.heap.size r3 out ∧ Below w.heap.size w wr ∧ Hid (colsD (l.drop k) out = R)) (fun _ r _ => n - (intOf r).toNat)
  case atStart => exact ⟨0, [], rfl, Nat.zero_le _, Nat.zero_le _, World.ownsRow_nil _ _ _ _, b1, HR⟩
  case round =>
    rename World => wo
    obtain ⟨k, out, rfl, hk, hol, ho, hb, hH⟩ := hrel
    have sB := hb.size
    by_cases hlt : k < n
    · have hlt' : (k : Int) < (n : Int) := by omega
      have k0 : (0 : Int) ≤ (k : Int) := by omega
      have hkl : k < l.length := by rw [HN.out]; exact hlt
      obtain ⟨b, off, rfl, hcl⟩ := hv (by omega)
      obtain ⟨c0, c1, c2, c3, c4, c5, c6, c7⟩ := ((hcl k hkl).later hb)
      have hg' := ((hcl k hkl).later hb).lt
      have hdr : l.drop k = l[k] :: l.drop (k + 1) := List.drop_eq_getElem_cons hkl
      obtain ⟨x, he⟩ : ∃ x : Nd, x = l[k] := ⟨_, rfl⟩
      rw [← he] at c0 c1 c2 c3 c4 c5 c6 c7 hdr
      have HST : Hid (colsD (l.drop (k + 1)) (if x.o = 2 ∧ metN out x = false then out ++ [x] else out) = R) := by
        have := hH.out
        rw [hdr] at this
        exact this
      obtain ⟨oa, oc, rfl, hnw⟩ := ho.lies
      have HO : Hid (NownsR wo w.heap.size (.slice oa out.length oc) out) := ho
      have HNW : Hid (Nw wo oa out) := hnw
      obtain ⟨q, hq⟩ : ∃ q, out.length = q := ⟨_, rfl⟩
      have HQ : Hid (out.length = q) := hq
      have hqk : q ≤ 255 := by omega
      obtain ⟨xo, xt, xn, xv, xa⟩ := x
      dsimp only at HST c0 c1 c2 c3 c4 c5 c6 c7
      obtain ⟨XT, hXT⟩ : ∃ XT : ByteArray, XT = ⟨xt.toArray⟩ := ⟨_, rfl⟩
      obtain ⟨XN, hXN⟩ : ∃ XN : ByteArray, XN = ⟨xn.toArray⟩ := ⟨_, rfl⟩
      have HXT : Hid (XT.toList = xt) := by show _ = _; rw [hXT, ByteArray.toList_eq]
      have HXN : Hid (XN.toList = xn) := by show _ = _; rw [hXN, ByteArray.toList_eq]
      have HXT2 : Hid (XT = ⟨xt.toArray⟩) := hXT
      have HXN2 : Hid (XN = ⟨xn.toArray⟩) := hXN
      have CX : Hid (∀ W, Below wo.heap.size wo W → N8 W b (off + k * 8) ⟨xo, xt, xn, xv, xa⟩) := fun W h => (show N8 wo b (off + k * 8) ⟨xo, xt, xn, xv, xa⟩ from ⟨c0, c1, c2, c3, c4, c5, c6, c7⟩).later h
      obtain ⟨z, hz⟩ : ∃ z : Bool, z = (xo != 2) := ⟨_, rfl⟩
      have HZ : Hid (z = (xo != 2)) := hz
      clear hcl he hH HR hdr ho hnw hXT hXN
      rw [hq]
      clear hq
      go_wp2_with fail
      all_goals (try simp only [← hz])
      clear hz c0 c1 c2 c3 c4 c5 c6 c7
      go_loopw [5, 6] (fun r5 r6 wr => ∃ j : Nat, r6 = .int .i64 (j : Int) ∧ j ≤ q ∧ Below wo.heap.size wo wr ∧ ∃ m : Bool, r5 = .bool m ∧ Hid (m = (z || metN (out.take j) ⟨xo, xt, xn, xv, xa⟩))) (fun _ r _ => q - (intOf r).toNat)
      case atStart => exact ⟨0, rfl, Nat.zero_le _, Below.refl _ _, z, rfl, by show _ = _; simp [metN]⟩
      case round =>
        rename World => wi
        obtain ⟨j, rfl, hj, hbi, m, rfl, hm⟩ := hrel
        obtain ⟨c0, c1, c2, c3, c4, c5, c6, c7⟩ := CX.out wi hbi
        have hgi := (CX.out wi hbi).lt
        dsimp only at c0 c1 c2 c3 c4 c5 c6 c7
        rw [← HXT2.out] at c1
        rw [← HXN2.out] at c2
        by_cases hjq : j < q
        · have hjq' : (j : Int) < (q : Int) := by omega
          have j0 : (0 : Int) ≤ (j : Int) := by omega
          have hjl : j < out.length := by rw [HQ.out]; exact hjq
          obtain ⟨g, goff, hge, hgc⟩ := HNW.out (by omega)
          subst hge
          obtain ⟨d0, d1, d2, d3, d4, d5, d6, d7⟩ := (hgc j hjl).later hbi
          have dl := ((hgc j hjl).later hbi).lt
          have hms := metN_snoc out ⟨xo, xt, xn, xv, xa⟩ j hjl
          generalize out[j] = y at *
          obtain ⟨yo, yt, yn, yv, ya⟩ := y
          dsimp only at d0 d1 d2 d3 d4 d5 d6 d7 hms
          obtain ⟨YT, hYT⟩ : ∃ YT : ByteArray, YT = ⟨yt.toArray⟩ := ⟨_, rfl⟩
          obtain ⟨YN, hYN⟩ : ∃ YN : ByteArray, YN = ⟨yn.toArray⟩ := ⟨_, rfl⟩
          have eYT : YT.toList = yt := by rw [hYT, ByteArray.toList_eq]
          have eYN : YN.toList = yn := by rw [hYN, ByteArray.toList_eq]
          rw [← hYT] at d1
          rw [← hYN] at d2
          have HMS : Hid (metN (out.take (j + 1)) ⟨xo, xt, xn, xv, xa⟩ = (metN (out.take j) ⟨xo, xt, xn, xv, xa⟩ || (YT.toList == XT.toList && YN.toList == XN.toList))) := by show _ = _; rw [eYT, eYN, HXT.out, HXN.out]; exact hms
          clear hms hYT hYN eYT eYN hgc
          cases m with
          | true =>
            have HF : Hid (true = (z || metN (out.take (j + 1)) ⟨xo, xt, xn, xv, xa⟩)) := by show true = _; rw [HMS.out, ← Bool.or_assoc, ← hm.out, Bool.true_or]
            clear hm HMS
            go_wp2
            try go_region
            all_goals (try go_wp2)
            all_goals exact ⟨⟨j + 1, by rw [cst1], by omega, (by first | exact hbi | exact hbi.drew), true, rfl, HF⟩, by simp [intOf]; omega⟩
          | false =>
            by_cases e1 : YT.toList = XT.toList
            · have e1' : (YT.toList == XT.toList) = true := by rw [beq_iff_eq]; exact e1
              by_cases e2 : YN.toList = XN.toList
              · have e2' : (YN.toList == XN.toList) = true := by rw [beq_iff_eq]; exact e2
                have HF : Hid (true = (z || metN (out.take (j + 1)) ⟨xo, xt, xn, xv, xa⟩)) := by show true = _; rw [HMS.out, ← Bool.or_assoc, ← hm.out, e1', e2']; rfl
                clear hm HMS e1 e2
                go_wp2
                try go_region
                all_goals (try go_wp2)
                all_goals exact ⟨⟨j + 1, by rw [cst1], by omega, (by first | exact hbi | exact hbi.drew), true, rfl, HF⟩, by simp [intOf]; omega⟩
              · have e2' : (YN.toList == XN.toList) = false := by rw [beq_eq_false_iff_ne]; exact e2
                have HF : Hid (false = (z || metN (out.take (j + 1)) ⟨xo, xt, xn, xv, xa⟩)) := by show false = _; rw [HMS.out, ← Bool.or_assoc, ← hm.out, e1', e2']; rfl
                clear hm HMS e1 e2
                go_wp2
                try go_region
                all_goals (try go_wp2)
                all_goals exact ⟨⟨j + 1, by rw [cst1], by omega, (by first | exact hbi | exact hbi.drew), false, rfl, HF⟩, by simp [intOf]; omega⟩
            · have e1' : (YT.toList == XT.toList) = false := by rw [beq_eq_false_iff_ne]; exact e1
              have HF : Hid (false = (z || metN (out.take (j + 1)) ⟨xo, xt, xn, xv, xa⟩)) := by show false = _; rw [HMS.out, ← Bool.or_assoc, ← hm.out, e1']; rfl
              clear hm HMS e1
              go_wp2
              try go_region
              all_goals (try go_wp2)
              all_goals exact ⟨⟨j + 1, by rw [cst1], by omega, (by first | exact hbi | exact hbi.drew), false, rfl, HF⟩, by simp [intOf]; omega⟩
        · have hjq' : ¬ (j : Int) < (q : Int) := by omega
          have hm2 : m = (xo != 2 || metN out ⟨xo, xt, xn, xv, xa⟩) := by
            have := hm.out
            rw [List.take_of_length_le (by rw [HQ.out]; omega), HZ.out] at this
            exact this
          clear hm
          cases m with
          | true =>
            rw [if_neg (by
              rintro ⟨h1, h2⟩
              rw [h2, h1] at hm2
              simp at hm2)] at HST
            clear hm2
            go_wp2
            exact ⟨⟨k + 1, out, by rw [cst1], by omega, by omega, by have := World.ownsRow.kept (row := none) HO.out ⟨hbi.os, hbi.tape, hbi.output, hbi.size, fun k hk _ => hbi.block k hk⟩ (by cases hv : (Value.slice oa out.length oc).ownBlock with | none => exact .inl rfl | some k => exact .inr (by simp)); rw [HQ.out] at this; unfold NownsR; rw [HQ.out]; exact this, below_trans hb hbi, HST⟩, by simp [intOf]; omega⟩
          | false =>
            have hm3 : xo = 2 ∧ metN out ⟨xo, xt, xn, xv, xa⟩ = false := by
              have := hm2.symm
              rw [Bool.or_eq_false_iff] at this
              exact ⟨by simpa using this.1, this.2⟩
            rw [if_pos hm3] at HST
            clear hm2 hm3
            have ho' : wi.ownsRow w.heap.size 67 8 (.slice oa q oc) q (ncells out) := by have := World.ownsRow.kept (row := none) HO.out ⟨hbi.os, hbi.tape, hbi.output, hbi.size, fun k hk _ => hbi.block k hk⟩ (by cases hv : (Value.slice oa out.length oc).ownBlock with | none => exact .inl rfl | some k => exact .inr (by simp)); rw [HQ.out] at this; exact this
            have sI := (below_trans hb hbi).size
            rw [HXT2.out] at c1
            rw [HXN2.out] at c2
            go_wp2_with (at_builtin; refine wpList_append_own _ rfl _ _ 22 rfl w.heap.size 67 i0 _ 8 88 Tryz.underlying22 hi hz0 hz1 hz2 rfl (by decide) _ _ _ rfl (World.ownsRow.alloc ho' _) ⟨wi.heap.size, 0, none⟩ 1 1 (ncs ⟨xo, xt, xn, xv, xa⟩).toList rfl rfl (World.news_of_block (cs := ncs ⟨xo, xt, xn, xv, xa⟩) (t := 67) (fr := (0, 0)) (heap_alloc_new wi _)) (one_nd ⟨xo, xt, xn, xv, xa⟩) (by unfold maxLen; omega) (by omega) (by simp; omega) ?_)
            intro v4 w4 o4 g4 _
            have B4 : Below w.heap.size w w4 := ((below_trans hb hbi).alloc sI _).grown g4 (by simp; omega) (fun k hk => (World.ownsRow.lt ho' k hk).1)
            have o5 := NownsR.push (x := ⟨xo, xt, xn, xv, xa⟩) o4 (by rw [HQ.out])
            clear o4 g4
            go_wp2
            exact ⟨⟨k + 1, out ++ [⟨xo, xt, xn, xv, xa⟩], by rw [cst1], by omega, by rw [List.length_append]; simp; omega, o5, B4, HST⟩, by simp [intOf]; omega⟩
    · have hlt' : ¬ (k : Int) < (n : Int) := by omega
      have HF : Hid (out = R) := by
        have := hH.out
        rw [List.drop_eq_nil_of_le (by rw [HN.out]; omega)] at this
        exact this
      clear hH HR
      go_wp2
      go_ret
      first | exact ⟨⟨_, rfl, HF.out ▸ ho⟩, hb⟩ | exact ⟨HF.out ▸ ho, hb⟩

theorem dep_val (l : List Nd) (h : 0 < depN mayN l) : l.length ≤ 256 ∧ dpV (runD mayN l []) = depN mayN l := by
  unfold depN at h ⊢
  split at h
  case isFalse => omega
  case isTrue hl =>
    refine ⟨hl, ?_⟩
    rw [if_pos hl]
    unfold depO at h ⊢
    split at h
    · rename_i d hd
      rw [hd]
      show d = if d ≤ 16 then d else 0
      split at h
      · rename_i h16; rw [if_pos h16]
      · omega
    · omega
set_option maxHeartbeats 2000000 in
theorem rdepth6_any (ao : Option Addr) (cap : Nat) (l : List Nd) (w : World) (hv : Nw w ao l)
    (RI : Calls Tryz.prog 10 #[.slice ao l.length cap] w fun e w' => e = .returned (.bool (decide (0 < depN mayN l))) ∧ Below w.heap.size w w')
    (OP : ∀ x ∈ l, ∀ W, Below w.heap.size w W → Calls Tryz.prog 40 #[ndv x] W fun e w' => e = .returned (.int .i64 (if mayN x = true then opsN x else -1)) ∧ Below W.heap.size W w') :
    Calls Tryz.prog 12 #[.slice ao l.length cap] w fun e w' => e = .returned (.int .i64 (depN mayN l : Int)) ∧ Below w.heap.size w w' := by
  by_cases hd : 0 < depN mayN l
  · obtain ⟨hl, he⟩ := dep_val l hd
    have DP : ∀ W, Below w.heap.size w W → _ := fun W h => rdepth_any ao cap l W (hv.later h) hl (fun x hx W' h' => OP x hx W' (below_trans h h'))
    rw [decide_eq_true hd] at RI
    rw [← he]
    clear hv OP hd he hl
    generalize dpV (runD mayN l []) = d at *
    generalize l.length = n at *
    go_enter Tryz.func12, Tryz.ntmps12
    go_wp2_with fail
    refine RI.mono ?_
    rintro e w1 ⟨rfl, b1⟩
    go_wp2_with fail
    refine (DP _ b1).mono ?_
    rintro e w2 ⟨rfl, b2⟩
    go_wp2
    go_ret
    exact ⟨rfl, below_trans b1 b2⟩
  · rw [decide_eq_false hd] at RI
    rw [show depN mayN l = 0 by omega]
    clear hv OP hd
    generalize l.length = n at *
    go_enter Tryz.func12, Tryz.ntmps12
    go_wp2_with fail
    refine RI.mono ?_
    rintro e w1 ⟨rfl, b1⟩
    go_wp2
    go_ret
    exact ⟨rfl, b1⟩
end Go.Proofs.YtclhmmgdhagloaaGreatDoor
