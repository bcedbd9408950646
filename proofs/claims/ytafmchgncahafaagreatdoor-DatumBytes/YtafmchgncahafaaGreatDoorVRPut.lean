/-
  The contract of the document's Bytes.
-/
import Derived.Test.YtafmchgncahafaaGreatDoorVRNum
import Derived.Test.YtafmchgncahafaaGreatDoorVPut2
import Derived.Deep.RegionHeld3
import Derived.Deep.AppendLies
namespace Go.Proofs.YtafmchgncahafaaGreatDoor
open Go.RowKit Go.Shelf
attribute [local go_sem] cell?_more frozen?_more setCell_more more_lt more_more more_drew more_drewN setCell_drewN alloc_drewN

theorem own_src {w : World} {base : Nat} {y : Value} {bs : List UInt8} (h : Own w base y bs) (hp : 0 < bs.length) : ∃ g c, y = .slice (some ⟨g, 0, none⟩) bs.length c ∧ ∀ j u, (bv bs)[j]? = some u → w.cell? ((⟨g, 0, none⟩ : Addr).add j) = some u := by
  obtain ⟨ao, cap, rfl, hr, hg⟩ := h.rd
  obtain ⟨b, off, hao, hc⟩ := hr.2.2.2.2 hp
  subst hao
  rcases hg with hg | ⟨g, hg, _⟩
  · cases hg
  · cases hg
    refine ⟨_, cap, rfl, fun j u hu => ?_⟩
    have hj : j < bs.length := by
      have := (List.getElem?_eq_some_iff.1 hu).1
      simpa [bv] using this
    rw [Addr.add_lit, hc j hj]
    rw [bv_at bs j hj] at hu
    exact hu

theorem own_raw {w : World} {base : Nat} {y : Value} {a b : List UInt8} (h : Own w base y (a ++ b)) : w.ownsRow base 5 1 y (a.length + b.length) (bv a ++ bv b) := by
  unfold Own at h
  rw [bv_append, List.length_append] at h
  exact h
theorem own_back {w : World} {base : Nat} {y : Value} {a b : List UInt8} (h : w.ownsRow base 5 1 y (a.length + b.length) (bv a ++ bv b)) : Own w base y (a ++ b) := own_append h
theorem own_three {w : World} {base : Nat} {y : Value} {a b c : List UInt8} (h : w.ownsRow base 5 1 y (a.length + b.length + c.length) (bv a ++ bv b ++ bv c)) : Own w base y (a ++ (b ++ c)) := by
  rw [← List.append_assoc]
  have h' : w.ownsRow base 5 1 y ((a ++ b).length + c.length) (bv (a ++ b) ++ bv c) := by
    rw [bv_append, List.length_append]
    exact h
  exact own_append h'

set_option maxRecDepth 20000 in
set_option maxHeartbeats 4000000 in
theorem rbytes_any (ao : Option Addr) (cap base : Nat) (l : List Va) (w : World) (hbase : base = w.heap.size) (hv : Vs w ao l) (hlen : l.length ≤ 64) (hall : ∀ v ∈ l, vr v = true) (hin : ∀ v ∈ l, vin v) :
    Calls Tryz.prog 20 #[.slice ao l.length cap] w fun e w' => ∃ v', e = .returned v' ∧ Own w' base v' (numBytes (l.length : Int) ++ many vbytes l) ∧ Below base w w' := by
  obtain ⟨i0, hi, hz0, hz1, hz2⟩ := info_parts Tryz.info5
  obtain ⟨n, hn⟩ : ∃ n, l.length = n := ⟨_, rfl⟩
  rw [hn] at hlen ⊢
  have HN : Hid (l.length = n) := hn
  have ML : ∀ k, k ≤ n → (many vbytes (l.take k)).length ≤ 300 * 64 := by
    intro k hk
    have h1 := many_len vbytes 300 (l.take k) (fun v hv => vbytes_len v (hall v (List.mem_of_mem_take hv)))
    have h2 : (l.take k).length = k := by simp; omega
    rw [h2] at h1
    have h3 : 300 * k ≤ 300 * 64 := Nat.mul_le_mul_left _ (by omega)
    omega
  have HM : Hid (∀ k, k ≤ n → (many vbytes (l.take k)).length ≤ 300 * 64) := ML
  have HNL : Hid ((numBytes (n : Int)).length ≤ 10) := (numBytes_len (n : Int)).2
  have HB : Hid (base = w.heap.size) := hbase
  have N0 := rnumber_any (n : Int) w (by omega) (by omega)
  rw [← hbase] at N0
  have hb0 : base ≤ w.heap.size := by omega
  clear hn ML hbase
  go_enter Tryz.func20, Tryz.ntmps20
  go_wp2_with fail
  refine N0.mono ?_
  rintro e wN ⟨y, rfl, oy, bY⟩
  go_wp2
  go_loopw [3, 4] (fun x r wr => ∃ k : Nat, r = .int .i64 (k : Int) ∧ k ≤ n ∧ Own wr base x (numBytes (n : Int) ++ many vbytes (l.take k)) ∧ Below base w wr) (fun _ r _ => n - (intOf r).toNat)
  case atStart => exact ⟨0, rfl, Nat.zero_le _, by simpa [many] using oy, bY⟩
  case round =>
    obtain ⟨k, rfl, hk, ho, hB⟩ := hrel
    have sB := hB.size
    by_cases hlt : k < n
    · have hlt' : (k : Int) < (n : Int) := by omega
      have k0 : (0 : Int) ≤ (k : Int) := by omega
      have hkl : k < l.length := by rw [HN.out]; exact hlt
      obtain ⟨b, off, rfl, hc⟩ := hv (by omega)
      obtain ⟨c0, c1, c2, c3⟩ := (hc k hkl).later (by have := HB.out; rw [← this]; exact hB)
      have hML := HM.out k (by omega)
      have hNl := HNL.out
      have hmt := many_take vbytes l k hkl
      have hvk := hall _ (List.getElem_mem hkl)
      have hik := hin _ (List.getElem_mem hkl)
      obtain ⟨v, he⟩ : ∃ v : Va, v = l[k] := ⟨_, rfl⟩
      rw [← he] at c0 c1 c2 c3 hmt hvk hik
      obtain ⟨D, hD⟩ : ∃ D, D = numBytes (n : Int) ++ many vbytes (l.take k) := ⟨_, rfl⟩
      have hDl : D.length ≤ 20000 := by rw [hD]; simp only [List.length_append]; omega
      have HD : Hid (numBytes (n : Int) ++ many vbytes (l.take (k + 1)) = D ++ vbytes v) := by
        show _ = _
        rw [hD, hmt]; simp
      rw [← hD] at ho
      have hok := (vr_iff v).1 hvk
      obtain ⟨vk, vn, vm, vb⟩ := v
      simp only [vok, vin] at hok hik
      simp only at c0 c1 c2 c3
      clear hc he hmt hD hML hNl hvk
      rcases hok with ⟨rfl, rfl, rfl, rfl⟩ | ⟨rfl, rfl, rfl⟩ | ⟨rfl, g0, g1, rfl⟩ | ⟨rfl, rfl, rfl, gl, _⟩ | ⟨rfl, g0, rfl, rfl⟩ | ⟨rfl, g0, g1, g2, g3, rfl⟩
      · have boxA := Box.new wr 0 0 0 []
        have ownA : Own (wr.alloc (.cells #[.int .i64 0, .int .i64 0, .int .i64 0, .string ⟨#[]⟩] 47)) base u3 D := World.ownsRow.alloc ho _
        have belA : Below base w (wr.alloc (.cells #[.int .i64 0, .int .i64 0, .int .i64 0, .string ⟨#[]⟩] 47)) := hB.alloc (by omega) _
        have szA := belA.size
        go_upto_region 6 with fail
        generalize hWA : wr.alloc (.cells #[.int .i64 0, .int .i64 0, .int .i64 0, .string ⟨#[]⟩] 47) = wA at *
        clear hWA c0 c1 c2 c3
        obtain ⟨c0_1, c1_1, c2_1, c3_1⟩ := boxA.at4
        have s0_1 := (belA).size
        go_wp2_with fail
        refine (rnumber_any (0 : Int) _ (by decide) (by decide)).mono ?_
        rintro e q1 ⟨y1, rfl, oy1, by1⟩
        obtain ⟨ao1, cap1, rfl, hr1, _⟩ := oy1.rd
        have own1 := ownA.later by1
        have box1 := boxA.later by1
        have bel1 := (belA).trans (by1.mono (by omega))
        have sz1 := bel1.size
        have nl1 := (numBytes_len (0 : Int)).2
        clear oy1 c0_1 c1_1 c2_1 c3_1 by1
        go_wp2_with (at_builtin; refine wpList_append_from rfl _ _ 23 23 rfl base 5 i0 (.int .u8 0) 1 1 Tryz.underlying23 hi hz0 hz1 hz2 rfl _ _ _ rfl own1 _ (numBytes (0 : Int)).length (bv (numBytes (0 : Int))) rfl (src_of_rd Tryz.underlying23 hr1) (by simp [maxLen]; omega) (by simp; omega) (by omega) ?_)
        intro v1 w1 ho1' hg1
        have box1' := box1.kept own1 hg1
        have bel1' : Below base w w1 := bel1.grown hg1 (by omega) (fun k hk => (World.ownsRow.lt own1 k hk).1)
        have ho1 := own_append ho1'
        clear ho1' hg1 own1 box1 bel1 hr1
        obtain ⟨c0, c1, c2, c3⟩ := box1'.at4
        go_wp2
        go_roundw
        case rel => exact ⟨k + 1, by go_num, by omega, by rw [HD.out]; simpa [vbytes] using ho1, bel1'⟩
        case measure => simp [intOf]; omega
      · have boxA := Box.new wr 1 vn 0 []
        have ownA : Own (wr.alloc (.cells #[.int .i64 1, .int .i64 vn, .int .i64 0, .string ⟨#[]⟩] 47)) base u3 D := World.ownsRow.alloc ho _
        have belA : Below base w (wr.alloc (.cells #[.int .i64 1, .int .i64 vn, .int .i64 0, .string ⟨#[]⟩] 47)) := hB.alloc (by omega) _
        have szA := belA.size
        go_upto_region 6 with fail
        generalize hWA : wr.alloc (.cells #[.int .i64 1, .int .i64 vn, .int .i64 0, .string ⟨#[]⟩] 47) = wA at *
        clear hWA c0 c1 c2 c3
        obtain ⟨c0_1, c1_1, c2_1, c3_1⟩ := boxA.at4
        have s0_1 := (belA).size
        go_wp2_with fail
        refine (rnumber_any (1 : Int) _ (by decide) (by decide)).mono ?_
        rintro e q1 ⟨y1, rfl, oy1, by1⟩
        obtain ⟨ao1, cap1, rfl, hr1, _⟩ := oy1.rd
        have own1 := ownA.later by1
        have box1 := boxA.later by1
        have bel1 := (belA).trans (by1.mono (by omega))
        have sz1 := bel1.size
        have nl1 := (numBytes_len (1 : Int)).2
        clear oy1 c0_1 c1_1 c2_1 c3_1 by1
        go_wp2_with (at_builtin; refine wpList_append_from rfl _ _ 23 23 rfl base 5 i0 (.int .u8 0) 1 1 Tryz.underlying23 hi hz0 hz1 hz2 rfl _ _ _ rfl own1 _ (numBytes (1 : Int)).length (bv (numBytes (1 : Int))) rfl (src_of_rd Tryz.underlying23 hr1) (by simp [maxLen]; omega) (by simp; omega) (by omega) ?_)
        intro v1 w1 ho1' hg1
        have box1' := box1.kept own1 hg1
        have bel1' : Below base w w1 := bel1.grown hg1 (by omega) (fun k hk => (World.ownsRow.lt own1 k hk).1)
        have ho1 := own_append ho1'
        clear ho1' hg1 own1 box1 bel1 hr1
        obtain ⟨c0_2, c1_2, c2_2, c3_2⟩ := box1'.at4
        have s0_2 := (bel1').size
        go_wp2_with fail
        refine (rnumber_any vn _ hik.1.1 hik.1.2).mono ?_
        rintro e q2 ⟨y2, rfl, oy2, by2⟩
        obtain ⟨ao2, cap2, rfl, hr2, _⟩ := oy2.rd
        have own2 := ho1.later by2
        have box2 := box1'.later by2
        have bel2 := (bel1').trans (by2.mono (by omega))
        have sz2 := bel2.size
        have nl2 := (numBytes_len vn).2
        clear oy2 c0_2 c1_2 c2_2 c3_2 by2
        go_wp2_with (at_builtin; refine wpList_append_from rfl _ _ 23 23 rfl base 5 i0 (.int .u8 0) 1 1 Tryz.underlying23 hi hz0 hz1 hz2 rfl _ _ _ rfl own2 _ (numBytes vn).length (bv (numBytes vn)) rfl (src_of_rd Tryz.underlying23 hr2) (by simp [maxLen]; omega) (by simp; omega) (by omega) ?_)
        intro v2 w2 ho2' hg2
        have box2' := box2.kept own2 hg2
        have bel2' : Below base w w2 := bel2.grown hg2 (by omega) (fun k hk => (World.ownsRow.lt own2 k hk).1)
        have ho2 := own_append ho2'
        clear ho2' hg2 own2 box2 bel2 hr2
        obtain ⟨c0, c1, c2, c3⟩ := box2'.at4
        go_wp2
        go_roundw
        case rel => exact ⟨k + 1, by go_num, by omega, by rw [HD.out]; simpa [vbytes] using ho2, bel2'⟩
        case measure => simp [intOf]; omega
      · have boxA := Box.new wr 2 vn vm []
        have ownA : Own (wr.alloc (.cells #[.int .i64 2, .int .i64 vn, .int .i64 vm, .string ⟨#[]⟩] 47)) base u3 D := World.ownsRow.alloc ho _
        have belA : Below base w (wr.alloc (.cells #[.int .i64 2, .int .i64 vn, .int .i64 vm, .string ⟨#[]⟩] 47)) := hB.alloc (by omega) _
        have szA := belA.size
        go_upto_region 6 with fail
        generalize hWA : wr.alloc (.cells #[.int .i64 2, .int .i64 vn, .int .i64 vm, .string ⟨#[]⟩] 47) = wA at *
        clear hWA c0 c1 c2 c3
        obtain ⟨c0_1, c1_1, c2_1, c3_1⟩ := boxA.at4
        have s0_1 := (belA).size
        go_wp2_with fail
        refine (rnumber_any (2 : Int) _ (by decide) (by decide)).mono ?_
        rintro e q1 ⟨y1, rfl, oy1, by1⟩
        obtain ⟨ao1, cap1, rfl, hr1, _⟩ := oy1.rd
        have own1 := ownA.later by1
        have box1 := boxA.later by1
        have bel1 := (belA).trans (by1.mono (by omega))
        have sz1 := bel1.size
        have nl1 := (numBytes_len (2 : Int)).2
        clear oy1 c0_1 c1_1 c2_1 c3_1 by1
        go_wp2_with (at_builtin; refine wpList_append_from rfl _ _ 23 23 rfl base 5 i0 (.int .u8 0) 1 1 Tryz.underlying23 hi hz0 hz1 hz2 rfl _ _ _ rfl own1 _ (numBytes (2 : Int)).length (bv (numBytes (2 : Int))) rfl (src_of_rd Tryz.underlying23 hr1) (by simp [maxLen]; omega) (by simp; omega) (by omega) ?_)
        intro v1 w1 ho1' hg1
        have box1' := box1.kept own1 hg1
        have bel1' : Below base w w1 := bel1.grown hg1 (by omega) (fun k hk => (World.ownsRow.lt own1 k hk).1)
        have ho1 := own_append ho1'
        clear ho1' hg1 own1 box1 bel1 hr1
        obtain ⟨c0, c1, c2, c3⟩ := box1'.at4
        have Cn := fun W => rnumber_any vn W hik.1.1 hik.1.2
        have Cm := fun W => rnumber_any vm W hik.2.1 hik.2.2
        have nl1 := (numBytes_len (2 : Int)).2
        have nl2 : 0 < (numBytes vn).length := (numBytes_len vn).1
        have nl3 : 0 < (numBytes vm).length := (numBytes_len vm).1
        have nl2' := (numBytes_len vn).2
        have nl3' := (numBytes_len vm).2
        have HV : Hid (vbytes ⟨2, vn, vm, []⟩ = numBytes (2 : Int) ++ (numBytes vn ++ numBytes vm)) := by show _ = _; simp [vbytes]
        generalize numBytes vn = N1 at *
        generalize numBytes vm = N2 at *
        have s1 := bel1'.size
        obtain ⟨D1, hD1⟩ : ∃ D1, D1 = D ++ numBytes (2 : Int) := ⟨_, rfl⟩
        have HD1 : Hid (D1 = D ++ numBytes (2 : Int)) := hD1
        have hl1 : D1.length ≤ 20010 := by rw [hD1]; simp; omega
        rw [← hD1] at ho1
        clear hD1
        go_upto_region 13 with fail
        go_region_held3 (fun W => W.cell? ⟨wr.heap.size, 1, none⟩ = some (.int .i64 vn) ∧ W.cell? ⟨wr.heap.size, 2, none⟩ = some (.int .i64 vm))
          (first | go_keep | (refine ⟨?_, ?_⟩ <;> assumption))
          ((first
            | (go_at_call_of 44 (Value.int IntKind.i64 vn); refine (Cn _).mono ?_; rintro e q2 ⟨y2, rfl, oy2, bz2⟩; have by2 : Below w1.heap.size w1 q2 := below_trans (by first | exact Below.refl _ w1 | exact (Below.refl _ w1).drew) bz2; obtain ⟨g2, k2, rfl, hs2⟩ := own_src oy2 nl2; have sz2 := by2.size; have bq2 := box1'.later by2; have ow2 := ho1.later by2; obtain ⟨e0, e1, e2, e3⟩ := bq2.at4; simp only [Nat.zero_add] at e0 e1 e2 e3)
            | (go_at_call_of 44 (Value.int IntKind.i64 vm); refine (Cm _).mono ?_; rintro e q4 ⟨y4, rfl, oy4, bz4⟩; have by4 : Below w3.heap.size w3 q4 := below_trans (by first | exact Below.refl _ w3 | exact (Below.refl _ w3).drew) bz4; obtain ⟨g4, k4, rfl, hs4⟩ := own_src oy4 nl3; have sz4 := by4.size; have bq4 := bq3.later by4; have ow4 := own_raw (ho3.later by4); obtain ⟨e0, e1, e2, e3⟩ := bq4.at4; simp only [Nat.zero_add] at e0 e1 e2 e3)
            | (refine step_append_lies _ (by rfl) _ _ _ (by rfl) base 5 i0 _ 1 1 Tryz.underlying23 hi hz0 hz1 hz2 rfl (by omega) _ (D1.length + N1.length) (bv D1 ++ bv N1) (by rfl) ow4 ⟨g4, 0, none⟩ N2.length k4 (bv N2) (by rfl) (by simp [bv]) hs4 (bv_cell _) (by omega) (by unfold maxLen; omega) (by omega) (by omega) q4.heap.size rfl ?_; intro gg5 cap5 w5 hown5 hgr5 hat5 hlt5; have bq5 := bq4.kept (own_back ow4) hgr5; obtain ⟨e0, e1, e2, e3⟩ := bq5.at4; simp only [Nat.zero_add] at e0 e1 e2 e3)
            | (refine step_append_lies _ (by rfl) _ _ _ (by rfl) base 5 i0 _ 1 1 Tryz.underlying23 hi hz0 hz1 hz2 rfl (by omega) _ (D1.length) (bv D1) (by rfl) ow2 ⟨g2, 0, none⟩ N1.length k2 (bv N1) (by rfl) (by simp [bv]) hs2 (bv_cell _) (by omega) (by unfold maxLen; omega) (by omega) (by omega) q2.heap.size rfl ?_; intro gg3 cap3 w3 hown3 hgr3 hat3 hlt3; have bq3 := bq2.kept ow2 hgr3; have ho3 := own_append hown3; have bb3 := (World.ownsRow.lt hown3 gg3 rfl).1; obtain ⟨e0, e1, e2, e3⟩ := bq3.at4; simp only [Nat.zero_add] at e0 e1 e2 e3)))
        have bel2 : Below base w q2 := bel1'.trans (by2.mono (by omega))
        have bel3 : Below base w w3 := bel2.grown hgr3 (by omega) (fun k hk => (World.ownsRow.lt ow2 k hk).1)
        have bel4 : Below base w q4 := bel3.trans (by4.mono (by omega))
        have bel5 : Below base w w5 := bel4.grown hgr5 (by omega) (fun k hk => (World.ownsRow.lt ow4 k hk).1)
        have ho5 := own_three hown5
        clear hown5 hgr5 hown3 hgr3
        go_wp2
        go_roundw
        case rel => exact ⟨k + 1, by go_num, by omega, by rw [HD.out, HV.out, ← List.append_assoc, ← HD1.out]; exact ho5, bel5⟩
        case measure => simp [intOf]; omega
      · have boxA := Box.new wr 3 0 0 vb
        have ownA : Own (wr.alloc (.cells #[.int .i64 3, .int .i64 0, .int .i64 0, .string ⟨vb.toArray⟩] 47)) base u3 D := World.ownsRow.alloc ho _
        have belA : Below base w (wr.alloc (.cells #[.int .i64 3, .int .i64 0, .int .i64 0, .string ⟨vb.toArray⟩] 47)) := hB.alloc (by omega) _
        have szA := belA.size
        go_upto_region 6 with fail
        generalize hWA : wr.alloc (.cells #[.int .i64 3, .int .i64 0, .int .i64 0, .string ⟨vb.toArray⟩] 47) = wA at *
        clear hWA c0 c1 c2 c3
        obtain ⟨c0_1, c1_1, c2_1, c3_1⟩ := boxA.at4
        have s0_1 := (belA).size
        go_wp2_with fail
        refine (rnumber_any (3 : Int) _ (by decide) (by decide)).mono ?_
        rintro e q1 ⟨y1, rfl, oy1, by1⟩
        obtain ⟨ao1, cap1, rfl, hr1, _⟩ := oy1.rd
        have own1 := ownA.later by1
        have box1 := boxA.later by1
        have bel1 := (belA).trans (by1.mono (by omega))
        have sz1 := bel1.size
        have nl1 := (numBytes_len (3 : Int)).2
        clear oy1 c0_1 c1_1 c2_1 c3_1 by1
        go_wp2_with (at_builtin; refine wpList_append_from rfl _ _ 23 23 rfl base 5 i0 (.int .u8 0) 1 1 Tryz.underlying23 hi hz0 hz1 hz2 rfl _ _ _ rfl own1 _ (numBytes (3 : Int)).length (bv (numBytes (3 : Int))) rfl (src_of_rd Tryz.underlying23 hr1) (by simp [maxLen]; omega) (by simp; omega) (by omega) ?_)
        intro v1 w1 ho1' hg1
        have box1' := box1.kept own1 hg1
        have bel1' : Below base w w1 := bel1.grown hg1 (by omega) (fun k hk => (World.ownsRow.lt own1 k hk).1)
        have ho1 := own_append ho1'
        clear ho1' hg1 own1 box1 bel1 hr1
        obtain ⟨c0_2, c1_2, c2_2, c3_2⟩ := box1'.at4
        have s0_2 := bel1'.size
        have bsz : (ByteArray.mk vb.toArray).size = vb.length := by simp [ByteArray.size]
        go_wp2_with fail
        refine (rtext_any _ _ (by omega)).mono ?_
        rintro e q2 ⟨y2, rfl, oy2, by2⟩
        obtain ⟨ao2, cap2, rfl, hr2, _⟩ := oy2.rd
        have own2 := ho1.later by2
        have box2 := box1'.later by2
        have bel2 := bel1'.trans (by2.mono (by omega))
        have sz2 := bel2.size
        have nl2 : (textBytes ⟨vb.toArray⟩).length ≤ 300 := by
          have := (numBytes_len ((ByteArray.mk vb.toArray).size : Int)).2
          simp only [textBytes, List.length_append] at *
          simp
          omega
        obtain ⟨TB, hTB⟩ : ∃ TB, TB = textBytes ⟨vb.toArray⟩ := ⟨_, rfl⟩
        rw [← hTB] at hr2 nl2
        rw [← hTB]
        have HTB : Hid (TB = textBytes ⟨vb.toArray⟩) := hTB
        clear oy2 c0_2 c1_2 c2_2 c3_2 by2 hTB bsz gl boxA ownA belA
        go_wp2_with (at_builtin; refine wpList_append_from rfl _ _ 23 23 rfl base 5 i0 (.int .u8 0) 1 1 Tryz.underlying23 hi hz0 hz1 hz2 rfl _ _ _ rfl own2 _ TB.length (bv TB) rfl (src_of_rd Tryz.underlying23 hr2) (by simp [maxLen]; omega) (by simp; omega) (by omega) ?_)
        intro v2 w2 ho2' hg2
        have box2' := box2.kept own2 hg2
        have bel2' : Below base w w2 := bel2.grown hg2 (by omega) (fun k hk => (World.ownsRow.lt own2 k hk).1)
        have ho2 := own_append ho2'
        rw [HTB.out] at ho2
        clear ho2' hg2 own2 box2 bel2 hr2
        obtain ⟨c0, c1, c2, c3⟩ := box2'.at4
        go_wp2
        go_roundw
        case rel => exact ⟨k + 1, by go_num, by omega, by rw [HD.out]; simpa [vbytes] using ho2, bel2'⟩
        case measure => simp [intOf]; omega
      · have boxA := Box.new wr 4 vn 0 []
        have ownA : Own (wr.alloc (.cells #[.int .i64 4, .int .i64 vn, .int .i64 0, .string ⟨#[]⟩] 47)) base u3 D := World.ownsRow.alloc ho _
        have belA : Below base w (wr.alloc (.cells #[.int .i64 4, .int .i64 vn, .int .i64 0, .string ⟨#[]⟩] 47)) := hB.alloc (by omega) _
        have szA := belA.size
        go_upto_region 6 with fail
        generalize hWA : wr.alloc (.cells #[.int .i64 4, .int .i64 vn, .int .i64 0, .string ⟨#[]⟩] 47) = wA at *
        clear hWA c0 c1 c2 c3
        obtain ⟨c0_1, c1_1, c2_1, c3_1⟩ := boxA.at4
        have s0_1 := (belA).size
        go_wp2_with fail
        refine (rnumber_any (4 : Int) _ (by decide) (by decide)).mono ?_
        rintro e q1 ⟨y1, rfl, oy1, by1⟩
        obtain ⟨ao1, cap1, rfl, hr1, _⟩ := oy1.rd
        have own1 := ownA.later by1
        have box1 := boxA.later by1
        have bel1 := (belA).trans (by1.mono (by omega))
        have sz1 := bel1.size
        have nl1 := (numBytes_len (4 : Int)).2
        clear oy1 c0_1 c1_1 c2_1 c3_1 by1
        go_wp2_with (at_builtin; refine wpList_append_from rfl _ _ 23 23 rfl base 5 i0 (.int .u8 0) 1 1 Tryz.underlying23 hi hz0 hz1 hz2 rfl _ _ _ rfl own1 _ (numBytes (4 : Int)).length (bv (numBytes (4 : Int))) rfl (src_of_rd Tryz.underlying23 hr1) (by simp [maxLen]; omega) (by simp; omega) (by omega) ?_)
        intro v1 w1 ho1' hg1
        have box1' := box1.kept own1 hg1
        have bel1' : Below base w w1 := bel1.grown hg1 (by omega) (fun k hk => (World.ownsRow.lt own1 k hk).1)
        have ho1 := own_append ho1'
        clear ho1' hg1 own1 box1 bel1 hr1
        obtain ⟨c0_2, c1_2, c2_2, c3_2⟩ := box1'.at4
        have s0_2 := (bel1').size
        go_wp2_with fail
        refine (rnumber_any vn _ hik.1.1 hik.1.2).mono ?_
        rintro e q2 ⟨y2, rfl, oy2, by2⟩
        obtain ⟨ao2, cap2, rfl, hr2, _⟩ := oy2.rd
        have own2 := ho1.later by2
        have box2 := box1'.later by2
        have bel2 := (bel1').trans (by2.mono (by omega))
        have sz2 := bel2.size
        have nl2 := (numBytes_len vn).2
        clear oy2 c0_2 c1_2 c2_2 c3_2 by2
        go_wp2_with (at_builtin; refine wpList_append_from rfl _ _ 23 23 rfl base 5 i0 (.int .u8 0) 1 1 Tryz.underlying23 hi hz0 hz1 hz2 rfl _ _ _ rfl own2 _ (numBytes vn).length (bv (numBytes vn)) rfl (src_of_rd Tryz.underlying23 hr2) (by simp [maxLen]; omega) (by simp; omega) (by omega) ?_)
        intro v2 w2 ho2' hg2
        have box2' := box2.kept own2 hg2
        have bel2' : Below base w w2 := bel2.grown hg2 (by omega) (fun k hk => (World.ownsRow.lt own2 k hk).1)
        have ho2 := own_append ho2'
        clear ho2' hg2 own2 box2 bel2 hr2
        obtain ⟨c0, c1, c2, c3⟩ := box2'.at4
        go_wp2
        go_roundw
        case rel => exact ⟨k + 1, by go_num, by omega, by rw [HD.out]; simpa [vbytes] using ho2, bel2'⟩
        case measure => simp [intOf]; omega
      · have boxA := Box.new wr 5 vn vm []
        have ownA : Own (wr.alloc (.cells #[.int .i64 5, .int .i64 vn, .int .i64 vm, .string ⟨#[]⟩] 47)) base u3 D := World.ownsRow.alloc ho _
        have belA : Below base w (wr.alloc (.cells #[.int .i64 5, .int .i64 vn, .int .i64 vm, .string ⟨#[]⟩] 47)) := hB.alloc (by omega) _
        have szA := belA.size
        go_upto_region 6 with fail
        generalize hWA : wr.alloc (.cells #[.int .i64 5, .int .i64 vn, .int .i64 vm, .string ⟨#[]⟩] 47) = wA at *
        clear hWA c0 c1 c2 c3
        obtain ⟨c0_1, c1_1, c2_1, c3_1⟩ := boxA.at4
        have s0_1 := (belA).size
        go_wp2_with fail
        refine (rnumber_any (5 : Int) _ (by decide) (by decide)).mono ?_
        rintro e q1 ⟨y1, rfl, oy1, by1⟩
        obtain ⟨ao1, cap1, rfl, hr1, _⟩ := oy1.rd
        have own1 := ownA.later by1
        have box1 := boxA.later by1
        have bel1 := (belA).trans (by1.mono (by omega))
        have sz1 := bel1.size
        have nl1 := (numBytes_len (5 : Int)).2
        clear oy1 c0_1 c1_1 c2_1 c3_1 by1
        go_wp2_with (at_builtin; refine wpList_append_from rfl _ _ 23 23 rfl base 5 i0 (.int .u8 0) 1 1 Tryz.underlying23 hi hz0 hz1 hz2 rfl _ _ _ rfl own1 _ (numBytes (5 : Int)).length (bv (numBytes (5 : Int))) rfl (src_of_rd Tryz.underlying23 hr1) (by simp [maxLen]; omega) (by simp; omega) (by omega) ?_)
        intro v1 w1 ho1' hg1
        have box1' := box1.kept own1 hg1
        have bel1' : Below base w w1 := bel1.grown hg1 (by omega) (fun k hk => (World.ownsRow.lt own1 k hk).1)
        have ho1 := own_append ho1'
        clear ho1' hg1 own1 box1 bel1 hr1
        obtain ⟨c0, c1, c2, c3⟩ := box1'.at4
        have Cn := fun W => rnumber_any vn W hik.1.1 hik.1.2
        have Cm := fun W => rnumber_any vm W hik.2.1 hik.2.2
        have nl1 := (numBytes_len (5 : Int)).2
        have nl2 : 0 < (numBytes vn).length := (numBytes_len vn).1
        have nl3 : 0 < (numBytes vm).length := (numBytes_len vm).1
        have nl2' := (numBytes_len vn).2
        have nl3' := (numBytes_len vm).2
        have HV : Hid (vbytes ⟨5, vn, vm, []⟩ = numBytes (5 : Int) ++ (numBytes vn ++ numBytes vm)) := by show _ = _; simp [vbytes]
        generalize numBytes vn = N1 at *
        generalize numBytes vm = N2 at *
        have s1 := bel1'.size
        obtain ⟨D1, hD1⟩ : ∃ D1, D1 = D ++ numBytes (5 : Int) := ⟨_, rfl⟩
        have HD1 : Hid (D1 = D ++ numBytes (5 : Int)) := hD1
        have hl1 : D1.length ≤ 20010 := by rw [hD1]; simp; omega
        rw [← hD1] at ho1
        clear hD1
        go_upto_region 13 with fail
        go_region_held3 (fun W => W.cell? ⟨wr.heap.size, 1, none⟩ = some (.int .i64 vn) ∧ W.cell? ⟨wr.heap.size, 2, none⟩ = some (.int .i64 vm))
          (first | go_keep | (refine ⟨?_, ?_⟩ <;> assumption))
          ((first
            | (go_at_call_of 44 (Value.int IntKind.i64 vn); refine (Cn _).mono ?_; rintro e q2 ⟨y2, rfl, oy2, bz2⟩; have by2 : Below w1.heap.size w1 q2 := below_trans (by first | exact Below.refl _ w1 | exact (Below.refl _ w1).drew) bz2; obtain ⟨g2, k2, rfl, hs2⟩ := own_src oy2 nl2; have sz2 := by2.size; have bq2 := box1'.later by2; have ow2 := ho1.later by2; obtain ⟨e0, e1, e2, e3⟩ := bq2.at4; simp only [Nat.zero_add] at e0 e1 e2 e3)
            | (go_at_call_of 44 (Value.int IntKind.i64 vm); refine (Cm _).mono ?_; rintro e q4 ⟨y4, rfl, oy4, bz4⟩; have by4 : Below w3.heap.size w3 q4 := below_trans (by first | exact Below.refl _ w3 | exact (Below.refl _ w3).drew) bz4; obtain ⟨g4, k4, rfl, hs4⟩ := own_src oy4 nl3; have sz4 := by4.size; have bq4 := bq3.later by4; have ow4 := own_raw (ho3.later by4); obtain ⟨e0, e1, e2, e3⟩ := bq4.at4; simp only [Nat.zero_add] at e0 e1 e2 e3)
            | (refine step_append_lies _ (by rfl) _ _ _ (by rfl) base 5 i0 _ 1 1 Tryz.underlying23 hi hz0 hz1 hz2 rfl (by omega) _ (D1.length + N1.length) (bv D1 ++ bv N1) (by rfl) ow4 ⟨g4, 0, none⟩ N2.length k4 (bv N2) (by rfl) (by simp [bv]) hs4 (bv_cell _) (by omega) (by unfold maxLen; omega) (by omega) (by omega) q4.heap.size rfl ?_; intro gg5 cap5 w5 hown5 hgr5 hat5 hlt5; have bq5 := bq4.kept (own_back ow4) hgr5; obtain ⟨e0, e1, e2, e3⟩ := bq5.at4; simp only [Nat.zero_add] at e0 e1 e2 e3)
            | (refine step_append_lies _ (by rfl) _ _ _ (by rfl) base 5 i0 _ 1 1 Tryz.underlying23 hi hz0 hz1 hz2 rfl (by omega) _ (D1.length) (bv D1) (by rfl) ow2 ⟨g2, 0, none⟩ N1.length k2 (bv N1) (by rfl) (by simp [bv]) hs2 (bv_cell _) (by omega) (by unfold maxLen; omega) (by omega) (by omega) q2.heap.size rfl ?_; intro gg3 cap3 w3 hown3 hgr3 hat3 hlt3; have bq3 := bq2.kept ow2 hgr3; have ho3 := own_append hown3; have bb3 := (World.ownsRow.lt hown3 gg3 rfl).1; obtain ⟨e0, e1, e2, e3⟩ := bq3.at4; simp only [Nat.zero_add] at e0 e1 e2 e3)))
        have bel2 : Below base w q2 := bel1'.trans (by2.mono (by omega))
        have bel3 : Below base w w3 := bel2.grown hgr3 (by omega) (fun k hk => (World.ownsRow.lt ow2 k hk).1)
        have bel4 : Below base w q4 := bel3.trans (by4.mono (by omega))
        have bel5 : Below base w w5 := bel4.grown hgr5 (by omega) (fun k hk => (World.ownsRow.lt ow4 k hk).1)
        have ho5 := own_three hown5
        clear hown5 hgr5 hown3 hgr3
        go_wp2
        go_roundw
        case rel => exact ⟨k + 1, by go_num, by omega, by rw [HD.out, HV.out, ← List.append_assoc, ← HD1.out]; exact ho5, bel5⟩
        case measure => simp [intOf]; omega
    · have hlt' : ¬ (k : Int) < (n : Int) := by omega
      have e1 : l.take k = l := List.take_of_length_le (by have := HN.out; omega)
      rw [e1] at ho
      clear e1
      go_wp2
      go_ret
      exact ⟨_, rfl, ho, hB⟩
end Go.Proofs.YtafmchgncahafaaGreatDoor
