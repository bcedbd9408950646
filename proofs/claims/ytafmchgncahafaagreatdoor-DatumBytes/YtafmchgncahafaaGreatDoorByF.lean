/-
  The document's From.
-/
import Derived.Test.YtafmchgncahafaaGreatDoorByM
import Derived.Deep.AppendLies
namespace Go.Proofs.YtafmchgncahafaaGreatDoor.By
open Go.RowKit Go.Proofs.YtafmchgncahafaaGreatDoor.Co Go.Proofs.YtafmchgncahafaaGreatDoor.Bk
attribute [local go_sem] cell?_more frozen?_more setCell_more more_lt more_more more_drew more_drewN setCell_drewN alloc_drewN

theorem vk_kept {w w' : World} {base p : Nat} {v : Value} {st : List Va} (h : Vk w base v st) (hg : w.grownBy w' (some p)) (hp : p < base) : Vk w' base v st :=
  World.ownsRow.kept (row := some p) h hg (by
    cases hv : v.ownBlock with
    | none => exact .inl rfl
    | some k => exact .inr (fun e => by have := (World.ownsRow.lt h k hv).1; have := Option.some.inj e; omega))
theorem vk_set {w : World} {base g j : Nat} {u v : Value} {st : List Va} (h : Vk w base v st) (hg : ∀ k, v.ownBlock = some k → k ≠ g) : Vk (w.setCell ⟨g, j, none⟩ u) base v st :=
  World.ownsRow.kept (row := some g) h (gb_setCell w g j u) (by
    cases hv : v.ownBlock with
    | none => exact .inl rfl
    | some k => exact .inr (fun e => hg k hv (Option.some.inj e)))
theorem rrdr_app {w w' : World} {p base : Nat} {bs : List UInt8} {k e : Nat} {v : Value} {st : List Va} (h : RRdr w p bs k e) (hO : Vk w base v st) (hN : st = [] → v = .slice none 0 0) (hp : p < base) (hg : w.grownBy w' v.ownBlock) : RRdr w' p bs k e := by
  cases hv : v.ownBlock with
  | none =>
    rw [hv] at hg
    exact rrdr_later h ⟨hg.os, hg.tape, hg.output, hg.size, fun k hk => hg.block k hk (by simp)⟩
  | some g =>
    rw [hv] at hg
    have hgb := (World.ownsRow.lt hO g hv).1
    refine rrdr_grown h hg (by omega) ?_
    have hne : st ≠ [] := fun hs => by rw [hN hs] at hv; cases hv
    obtain ⟨ao, cap, rfl, _, _, _, h5⟩ := Vk.shape hO
    cases ao with
    | none => cases hv
    | some a =>
      obtain ⟨g', rfl, _, _, hat⟩ := h5 a rfl
      have hg' : g' = g := by simpa [Value.ownBlock] using hv
      subst hg'
      have hpos : 0 < st.length := List.length_pos_iff.2 hne
      have := (hat 0 hpos).1
      rw [Nat.zero_mul] at this
      exact ⟨_, this⟩
theorem gb_app {w X w' : World} {r : Option Nat} {v : Value} (h : w.grownBy X r) (hg : X.grownBy w' v.ownBlock) (hO : ∀ g, v.ownBlock = some g → w.heap.size ≤ g) : w.grownBy w' r :=
  ⟨hg.os.trans h.os, hg.tape.trans h.tape, hg.output.trans h.output, Nat.le_trans h.size hg.size, fun k hk hr => (hg.block k (Nat.lt_of_lt_of_le hk h.size) (fun e => by have := hO k e.symm; omega)).trans (h.block k hk hr)⟩
theorem news_va (w : World) (x : Va) : ∀ j u, (vcs x).toList[j]? = some u → (w.alloc (.cells (vcs x) 47)).cell? ((⟨w.heap.size, 0, none⟩ : Addr).add j) = some u :=
  World.news_of_block (Cbox.new w (vcs x) 47)
set_option maxRecDepth 20000 in
set_option maxHeartbeats 4000000 in
theorem from_any (p : Nat) (bs : List UInt8) (cn : Int) (ka ea : Nat) (L : List Va) (K E : Nat) (w : World) (h : RRdr w p bs 0 0) (h0 : rNum bs 0 0 = (cn, ka, ea)) (hn : 0 ≤ cn) (hr : rdR bs (min cn.toNat 65) ka ea = (L, K, E)) :
    Calls Tryz.prog 27 #[.pointer (some ⟨p, 0, none⟩)] w fun x w' => ∃ v, x = .returned v ∧ Vk w' w.heap.size v L ∧ RRdr w' p bs K E ∧ w.grownBy w' (some p) := by
  have hpw := rrdr_lt h
  obtain ⟨F, hF⟩ : ∃ F, F = min cn.toNat 65 := ⟨_, rfl⟩
  rw [← hF] at hr
  have hF1 : F ≤ 65 := by omega
  have hn0 : ¬ cn < 0 := by omega
  go_enter Tryz.func27, Tryz.ntmps27
  go_wp2_with fail
  have N1 := rrNumber_any p bs 0 0 w h
  rw [h0] at N1
  refine N1.mono ?_
  rintro x w1 ⟨rfl, R1, g1⟩
  dsimp only at R1 ⊢
  clear N1 h0 h
  go_wp2_with fail
  go_loopw [4, 5] (fun r4 r5 wr => ∃ (i k e : Nat) (acc : List Va), r5 = .int .i64 (i : Int) ∧ i ≤ F ∧ acc.length = i ∧ Hid (acc = [] → r4 = .slice none 0 0) ∧ Hid (Vk wr w.heap.size r4 acc) ∧ Hid (RRdr wr p bs k e) ∧ Hid (w.grownBy wr (some p)) ∧ Hid (acc ++ (rdR bs (F - i) k e).1 = L ∧ (rdR bs (F - i) k e).2 = (K, E))) (fun _ r5 _ => F - (Bk.intOf r5).toNat)
  case atStart => exact ⟨0, ka, ea, [], rfl, Nat.zero_le _, rfl, fun _ => rfl, World.ownsRow_nil _ _ _ _, R1, g1, by show _ ∧ _; rw [Nat.sub_zero, hr]; exact ⟨rfl, rfl⟩⟩
  case round =>
    obtain ⟨i, k, e, acc, rfl, hi, hacc, HN, HO, HR, HG, HH⟩ := hrel
    by_cases hlt : i < F
    · have i1 : (i : Int) < cn := by omega
      have i2 : (i : Int) < 65 := by omega
      have e5 : IntKind.i64.wrap ((i : Int) + 1) = (i : Int) + 1 := by rw [IntKind.wrap_i64]; omega
      obtain ⟨ao, cap, hC, _⟩ := HR.out
      obtain ⟨c0, c1, c2⟩ := rrCell wr hC
      by_cases he : e = 0
      · subst he
        have c2' : wr.cell? ⟨p, 2, none⟩ = some (.int .i64 0) := c2
        have N1 := rrNumber_any p bs k 0 wr HR.out
        rcases h1 : rNum bs k 0 with ⟨kk, k1, e1⟩
        rw [h1] at N1
        have HST : Hid (acc ++ ((tvR bs k 0).1 :: (rdR bs (F - (i + 1)) (tvR bs k 0).2.1 (tvR bs k 0).2.2).1) = L ∧ (rdR bs (F - (i + 1)) (tvR bs k 0).2.1 (tvR bs k 0).2.2).2 = (K, E)) := by
          have hh := HH.out
          rw [show F - i = (F - (i + 1)) + 1 by omega] at hh
          simp only [rdR, ↓reduceIte] at hh
          exact hh
        clear c0 c1 c2 hC HH
        go_wp2_with fail
        refine N1.mono ?_
        rintro x w1 ⟨rfl, R1, g1⟩
        dsimp only at R1 ⊢
        have O1 := vk_kept HO.out g1 hpw
        have G1 := gb_step HG.out g1
        have s1 := G1.size
        have n1 : w1.heap.size ≠ p := by omega
        have nog : ∀ k, u4.ownBlock = some k → k ≠ w1.heap.size := fun k hk => by have := (World.ownsRow.lt O1 k hk).2; omega
        clear HO HR HG N1 c2'
        by_cases q1 : kk = 1
        · subst q1
          rcases h2 : rNum bs k1 e1 with ⟨n, k2, e2⟩
          have htv : tvR bs k 0 = (⟨1, n, 0, []⟩, k2, e2) := by unfold tvR; simp only [h1, h2]; simp
          rw [htv] at HST
          clear htv
          have uV : Below w1.heap.size w1 (w1.alloc (.cells #[.int .i64 1, .int .i64 0, .int .i64 0, .string ⟨#[]⟩] 47)) := (Below.refl _ _).alloc (Nat.le_refl _) _
          have R2 := rrdr_later R1 uV
          have V2 := Cbox.new w1 #[.int .i64 1, .int .i64 0, .int .i64 0, .string ⟨#[]⟩] 47
          have O2 := Vk.later O1 uV
          have G2 := gb_step G1 (gb_of uV)
          go_upto_region 7 with fail
          generalize w1.alloc (.cells #[.int .i64 1, .int .i64 0, .int .i64 0, .string ⟨#[]⟩] 47) = w2 at *
          clear uV
          have v0 := V2.at 0
          have v1 := V2.at 1
          have v2 := V2.at 2
          have v3 := V2.at 3
          have vl := V2.lt
          go_wp2_with fail
          have N3 := rrNumber_any p bs k1 e1 _ R2
          rw [h2] at N3
          refine N3.mono ?_
          rintro x w3 ⟨rfl, R3, g3⟩
          have V3 := cbox_grown V2 g3 (by simpa using n1)
          have O3 := vk_kept O2 g3 hpw
          have G3 := gb_step G2 g3
          clear v0 v1 v2 v3 vl
          dsimp only at R3 ⊢
          have v0 := V3.at 0
          have fv0 := V3.free 0
          have v1 := V3.at 1
          have fv1 := V3.free 1
          have v2 := V3.at 2
          have fv2 := V3.free 2
          have v3 := V3.at 3
          have fv3 := V3.free 3
          have vl := V3.lt
          have Ry := rrdr_set (j := 1) (v := .int .i64 n) R3 n1 ⟨_, v0⟩
          have Vy : Cbox (w3.setCell ⟨w1.heap.size, 1, none⟩ (.int .i64 n)) w1.heap.size #[.int .i64 1, .int .i64 n, .int .i64 0, .string ⟨#[]⟩] 47 := heap_setCell_same w3 w1.heap.size 1 _ _ _ V3
          have Oy := vk_set (j := 1) (u := .int .i64 n) O3 nog
          have Gy := gb_new G3 w1.heap.size 1 (.int .i64 n) (by have := G1.size; omega)
          go_upto_region 17 with fail
          generalize w3.setCell ⟨w1.heap.size, 1, none⟩ (.int .i64 n) = y3 at *
          clear v0 v1 v2 v3 vl fv0 fv1 fv2 fv3 V3 O3 R3 G3
          have R3 := Ry
          have V3 := Vy
          have O3 := Oy
          have G3 := Gy
          have v0 := V3.at 0
          have v1 := V3.at 1
          have v2 := V3.at 2
          have v3 := V3.at 3
          have vl := V3.lt
          obtain ⟨i0, hi, hz0, hz1, hz2⟩ := info_parts Tryz.info47
          have hs0 := G3.size
          have hal := O3.1
          go_wp2_with (at_builtin; refine wpList_append_own _ rfl _ _ 22 rfl w.heap.size 47 i0 (.agg #[.int .i64 0, .int .i64 0, .int .i64 0, .string ⟨#[]⟩]) 4 40 Tryz.underlying22 hi hz0 hz1 hz2 rfl (by decide) _ _ _ rfl (World.ownsRow.alloc O3 _) ⟨y3.heap.size, 0, none⟩ 1 1 (vcs ⟨1, n, 0, []⟩).toList rfl rfl (news_va y3 ⟨1, n, 0, []⟩) (one_va ⟨1, n, 0, []⟩) (by unfold maxLen; omega) (by omega) (by simp; omega) ?_)
          intro v9 w9 hown9 hgrow9 _
          have uX : Below y3.heap.size y3 (y3.alloc (.cells (vcs ⟨1, n, 0, []⟩) 47)) := (Below.refl _ _).alloc (Nat.le_refl _) _
          have RX := rrdr_later R3 uX
          have OX := Vk.later O3 uX
          have R9 := rrdr_app RX OX HN.out hpw hgrow9
          have O9 := Vk.push (st := acc) (d := ⟨1, n, 0, []⟩) hacc hown9
          have G9 := gb_app (gb_step G3 (gb_of uX)) hgrow9 (fun g hg => (World.ownsRow.lt OX g hg).1)
          clear hown9 hgrow9 RX OX uX v0 v1 v2 v3 vl
          go_wp2_with fail
          exact ⟨⟨i + 1, k2, e2, acc ++ [(⟨1, n, 0, []⟩ : Va)], by rw [cast1], by omega, by simp; omega, fun h => by simp at h, O9, R9, G9, by show _ ∧ _; have hh := HST.out; simpa using hh⟩, by simp [Bk.intOf]; omega⟩
        by_cases q4 : kk = 4
        · subst q4
          rcases h2 : rNum bs k1 e1 with ⟨n, k2, e2⟩
          have htv : tvR bs k 0 = (⟨4, n, 0, []⟩, k2, e2) := by unfold tvR; simp only [h1, h2]; simp
          rw [htv] at HST
          clear htv
          have uV : Below w1.heap.size w1 (w1.alloc (.cells #[.int .i64 4, .int .i64 0, .int .i64 0, .string ⟨#[]⟩] 47)) := (Below.refl _ _).alloc (Nat.le_refl _) _
          have R2 := rrdr_later R1 uV
          have V2 := Cbox.new w1 #[.int .i64 4, .int .i64 0, .int .i64 0, .string ⟨#[]⟩] 47
          have O2 := Vk.later O1 uV
          have G2 := gb_step G1 (gb_of uV)
          go_upto_region 7 with fail
          generalize w1.alloc (.cells #[.int .i64 4, .int .i64 0, .int .i64 0, .string ⟨#[]⟩] 47) = w2 at *
          clear uV
          have v0 := V2.at 0
          have v1 := V2.at 1
          have v2 := V2.at 2
          have v3 := V2.at 3
          have vl := V2.lt
          go_wp2_with fail
          have N3 := rrNumber_any p bs k1 e1 _ R2
          rw [h2] at N3
          refine N3.mono ?_
          rintro x w3 ⟨rfl, R3, g3⟩
          have V3 := cbox_grown V2 g3 (by simpa using n1)
          have O3 := vk_kept O2 g3 hpw
          have G3 := gb_step G2 g3
          clear v0 v1 v2 v3 vl
          dsimp only at R3 ⊢
          have v0 := V3.at 0
          have fv0 := V3.free 0
          have v1 := V3.at 1
          have fv1 := V3.free 1
          have v2 := V3.at 2
          have fv2 := V3.free 2
          have v3 := V3.at 3
          have fv3 := V3.free 3
          have vl := V3.lt
          have Ry := rrdr_set (j := 1) (v := .int .i64 n) R3 n1 ⟨_, v0⟩
          have Vy : Cbox (w3.setCell ⟨w1.heap.size, 1, none⟩ (.int .i64 n)) w1.heap.size #[.int .i64 4, .int .i64 n, .int .i64 0, .string ⟨#[]⟩] 47 := heap_setCell_same w3 w1.heap.size 1 _ _ _ V3
          have Oy := vk_set (j := 1) (u := .int .i64 n) O3 nog
          have Gy := gb_new G3 w1.heap.size 1 (.int .i64 n) (by have := G1.size; omega)
          go_upto_region 17 with fail
          generalize w3.setCell ⟨w1.heap.size, 1, none⟩ (.int .i64 n) = y3 at *
          clear v0 v1 v2 v3 vl fv0 fv1 fv2 fv3 V3 O3 R3 G3
          have R3 := Ry
          have V3 := Vy
          have O3 := Oy
          have G3 := Gy
          have v0 := V3.at 0
          have v1 := V3.at 1
          have v2 := V3.at 2
          have v3 := V3.at 3
          have vl := V3.lt
          obtain ⟨i0, hi, hz0, hz1, hz2⟩ := info_parts Tryz.info47
          have hs0 := G3.size
          have hal := O3.1
          go_wp2_with (at_builtin; refine wpList_append_own _ rfl _ _ 22 rfl w.heap.size 47 i0 (.agg #[.int .i64 0, .int .i64 0, .int .i64 0, .string ⟨#[]⟩]) 4 40 Tryz.underlying22 hi hz0 hz1 hz2 rfl (by decide) _ _ _ rfl (World.ownsRow.alloc O3 _) ⟨y3.heap.size, 0, none⟩ 1 1 (vcs ⟨4, n, 0, []⟩).toList rfl rfl (news_va y3 ⟨4, n, 0, []⟩) (one_va ⟨4, n, 0, []⟩) (by unfold maxLen; omega) (by omega) (by simp; omega) ?_)
          intro v9 w9 hown9 hgrow9 _
          have uX : Below y3.heap.size y3 (y3.alloc (.cells (vcs ⟨4, n, 0, []⟩) 47)) := (Below.refl _ _).alloc (Nat.le_refl _) _
          have RX := rrdr_later R3 uX
          have OX := Vk.later O3 uX
          have R9 := rrdr_app RX OX HN.out hpw hgrow9
          have O9 := Vk.push (st := acc) (d := ⟨4, n, 0, []⟩) hacc hown9
          have G9 := gb_app (gb_step G3 (gb_of uX)) hgrow9 (fun g hg => (World.ownsRow.lt OX g hg).1)
          clear hown9 hgrow9 RX OX uX v0 v1 v2 v3 vl
          go_wp2_with fail
          exact ⟨⟨i + 1, k2, e2, acc ++ [(⟨4, n, 0, []⟩ : Va)], by rw [cast1], by omega, by simp; omega, fun h => by simp at h, O9, R9, G9, by show _ ∧ _; have hh := HST.out; simpa using hh⟩, by simp [Bk.intOf]; omega⟩
        by_cases q2 : kk = 2
        · subst q2
          rcases h2 : rNum bs k1 e1 with ⟨n, k2, e2⟩
          rcases h3 : rNum bs k2 e2 with ⟨m, k3, e3⟩
          have htv : tvR bs k 0 = (⟨2, n, m, []⟩, k3, e3) := by unfold tvR; simp only [h1, h2, h3]; simp
          rw [htv] at HST
          clear htv
          have uV : Below w1.heap.size w1 (w1.alloc (.cells #[.int .i64 2, .int .i64 0, .int .i64 0, .string ⟨#[]⟩] 47)) := (Below.refl _ _).alloc (Nat.le_refl _) _
          have R2 := rrdr_later R1 uV
          have V2 := Cbox.new w1 #[.int .i64 2, .int .i64 0, .int .i64 0, .string ⟨#[]⟩] 47
          have O2 := Vk.later O1 uV
          have G2 := gb_step G1 (gb_of uV)
          go_upto_region 7 with fail
          generalize w1.alloc (.cells #[.int .i64 2, .int .i64 0, .int .i64 0, .string ⟨#[]⟩] 47) = w2 at *
          clear uV
          have v0 := V2.at 0
          have v1 := V2.at 1
          have v2 := V2.at 2
          have v3 := V2.at 3
          have vl := V2.lt
          go_wp2_with fail
          have N3 := rrNumber_any p bs k1 e1 _ R2
          rw [h2] at N3
          refine N3.mono ?_
          rintro x w3 ⟨rfl, R3, g3⟩
          have V3 := cbox_grown V2 g3 (by simpa using n1)
          have O3 := vk_kept O2 g3 hpw
          have G3 := gb_step G2 g3
          clear v0 v1 v2 v3 vl
          dsimp only at R3 ⊢
          have v0 := V3.at 0
          have fv0 := V3.free 0
          have v1 := V3.at 1
          have fv1 := V3.free 1
          have v2 := V3.at 2
          have fv2 := V3.free 2
          have v3 := V3.at 3
          have fv3 := V3.free 3
          have vl := V3.lt
          have Ry := rrdr_set (j := 1) (v := .int .i64 n) R3 n1 ⟨_, v0⟩
          have Vy : Cbox (w3.setCell ⟨w1.heap.size, 1, none⟩ (.int .i64 n)) w1.heap.size #[.int .i64 2, .int .i64 n, .int .i64 0, .string ⟨#[]⟩] 47 := heap_setCell_same w3 w1.heap.size 1 _ _ _ V3
          have Oy := vk_set (j := 1) (u := .int .i64 n) O3 nog
          have Gy := gb_new G3 w1.heap.size 1 (.int .i64 n) (by have := G1.size; omega)
          go_upto_region 14 with fail
          generalize w3.setCell ⟨w1.heap.size, 1, none⟩ (.int .i64 n) = y3 at *
          clear v0 v1 v2 v3 vl fv0 fv1 fv2 fv3 V3 O3 R3 G3
          have R3 := Ry
          have V3 := Vy
          have O3 := Oy
          have G3 := Gy
          have v0 := V3.at 0
          have v1 := V3.at 1
          have v2 := V3.at 2
          have v3 := V3.at 3
          have vl := V3.lt
          go_wp2_with fail
          have N4 := rrNumber_any p bs k2 e2 _ R3
          rw [h3] at N4
          refine N4.mono ?_
          rintro x w4 ⟨rfl, R4, g4⟩
          have V4 := cbox_grown V3 g4 (by simpa using n1)
          have O4 := vk_kept O3 g4 hpw
          have G4 := gb_step G3 g4
          clear v0 v1 v2 v3 vl
          dsimp only at R4 ⊢
          have v0 := V4.at 0
          have fv0 := V4.free 0
          have v1 := V4.at 1
          have fv1 := V4.free 1
          have v2 := V4.at 2
          have fv2 := V4.free 2
          have v3 := V4.at 3
          have fv3 := V4.free 3
          have vl := V4.lt
          have Ry := rrdr_set (j := 2) (v := .int .i64 m) R4 n1 ⟨_, v0⟩
          have Vy : Cbox (w4.setCell ⟨w1.heap.size, 2, none⟩ (.int .i64 m)) w1.heap.size #[.int .i64 2, .int .i64 n, .int .i64 m, .string ⟨#[]⟩] 47 := heap_setCell_same w4 w1.heap.size 2 _ _ _ V4
          have Oy := vk_set (j := 2) (u := .int .i64 m) O4 nog
          have Gy := gb_new G4 w1.heap.size 2 (.int .i64 m) (by have := G1.size; omega)
          go_upto_region 17 with fail
          generalize w4.setCell ⟨w1.heap.size, 2, none⟩ (.int .i64 m) = y4 at *
          clear v0 v1 v2 v3 vl fv0 fv1 fv2 fv3 V4 O4 R4 G4
          have R4 := Ry
          have V4 := Vy
          have O4 := Oy
          have G4 := Gy
          have v0 := V4.at 0
          have v1 := V4.at 1
          have v2 := V4.at 2
          have v3 := V4.at 3
          have vl := V4.lt
          obtain ⟨i0, hi, hz0, hz1, hz2⟩ := info_parts Tryz.info47
          have hs0 := G4.size
          have hal := O4.1
          go_wp2_with (at_builtin; refine wpList_append_own _ rfl _ _ 22 rfl w.heap.size 47 i0 (.agg #[.int .i64 0, .int .i64 0, .int .i64 0, .string ⟨#[]⟩]) 4 40 Tryz.underlying22 hi hz0 hz1 hz2 rfl (by decide) _ _ _ rfl (World.ownsRow.alloc O4 _) ⟨y4.heap.size, 0, none⟩ 1 1 (vcs ⟨2, n, m, []⟩).toList rfl rfl (news_va y4 ⟨2, n, m, []⟩) (one_va ⟨2, n, m, []⟩) (by unfold maxLen; omega) (by omega) (by simp; omega) ?_)
          intro v9 w9 hown9 hgrow9 _
          have uX : Below y4.heap.size y4 (y4.alloc (.cells (vcs ⟨2, n, m, []⟩) 47)) := (Below.refl _ _).alloc (Nat.le_refl _) _
          have RX := rrdr_later R4 uX
          have OX := Vk.later O4 uX
          have R9 := rrdr_app RX OX HN.out hpw hgrow9
          have O9 := Vk.push (st := acc) (d := ⟨2, n, m, []⟩) hacc hown9
          have G9 := gb_app (gb_step G4 (gb_of uX)) hgrow9 (fun g hg => (World.ownsRow.lt OX g hg).1)
          clear hown9 hgrow9 RX OX uX v0 v1 v2 v3 vl
          go_wp2_with fail
          exact ⟨⟨i + 1, k3, e3, acc ++ [(⟨2, n, m, []⟩ : Va)], by rw [cast1], by omega, by simp; omega, fun h => by simp at h, O9, R9, G9, by show _ ∧ _; have hh := HST.out; simpa using hh⟩, by simp [Bk.intOf]; omega⟩
        by_cases q5 : kk = 5
        · subst q5
          rcases h2 : rNum bs k1 e1 with ⟨n, k2, e2⟩
          rcases h3 : rNum bs k2 e2 with ⟨m, k3, e3⟩
          have htv : tvR bs k 0 = (⟨5, n, m, []⟩, k3, e3) := by unfold tvR; simp only [h1, h2, h3]; simp
          rw [htv] at HST
          clear htv
          have uV : Below w1.heap.size w1 (w1.alloc (.cells #[.int .i64 5, .int .i64 0, .int .i64 0, .string ⟨#[]⟩] 47)) := (Below.refl _ _).alloc (Nat.le_refl _) _
          have R2 := rrdr_later R1 uV
          have V2 := Cbox.new w1 #[.int .i64 5, .int .i64 0, .int .i64 0, .string ⟨#[]⟩] 47
          have O2 := Vk.later O1 uV
          have G2 := gb_step G1 (gb_of uV)
          go_upto_region 7 with fail
          generalize w1.alloc (.cells #[.int .i64 5, .int .i64 0, .int .i64 0, .string ⟨#[]⟩] 47) = w2 at *
          clear uV
          have v0 := V2.at 0
          have v1 := V2.at 1
          have v2 := V2.at 2
          have v3 := V2.at 3
          have vl := V2.lt
          go_wp2_with fail
          have N3 := rrNumber_any p bs k1 e1 _ R2
          rw [h2] at N3
          refine N3.mono ?_
          rintro x w3 ⟨rfl, R3, g3⟩
          have V3 := cbox_grown V2 g3 (by simpa using n1)
          have O3 := vk_kept O2 g3 hpw
          have G3 := gb_step G2 g3
          clear v0 v1 v2 v3 vl
          dsimp only at R3 ⊢
          have v0 := V3.at 0
          have fv0 := V3.free 0
          have v1 := V3.at 1
          have fv1 := V3.free 1
          have v2 := V3.at 2
          have fv2 := V3.free 2
          have v3 := V3.at 3
          have fv3 := V3.free 3
          have vl := V3.lt
          have Ry := rrdr_set (j := 1) (v := .int .i64 n) R3 n1 ⟨_, v0⟩
          have Vy : Cbox (w3.setCell ⟨w1.heap.size, 1, none⟩ (.int .i64 n)) w1.heap.size #[.int .i64 5, .int .i64 n, .int .i64 0, .string ⟨#[]⟩] 47 := heap_setCell_same w3 w1.heap.size 1 _ _ _ V3
          have Oy := vk_set (j := 1) (u := .int .i64 n) O3 nog
          have Gy := gb_new G3 w1.heap.size 1 (.int .i64 n) (by have := G1.size; omega)
          go_upto_region 14 with fail
          generalize w3.setCell ⟨w1.heap.size, 1, none⟩ (.int .i64 n) = y3 at *
          clear v0 v1 v2 v3 vl fv0 fv1 fv2 fv3 V3 O3 R3 G3
          have R3 := Ry
          have V3 := Vy
          have O3 := Oy
          have G3 := Gy
          have v0 := V3.at 0
          have v1 := V3.at 1
          have v2 := V3.at 2
          have v3 := V3.at 3
          have vl := V3.lt
          go_wp2_with fail
          have N4 := rrNumber_any p bs k2 e2 _ R3
          rw [h3] at N4
          refine N4.mono ?_
          rintro x w4 ⟨rfl, R4, g4⟩
          have V4 := cbox_grown V3 g4 (by simpa using n1)
          have O4 := vk_kept O3 g4 hpw
          have G4 := gb_step G3 g4
          clear v0 v1 v2 v3 vl
          dsimp only at R4 ⊢
          have v0 := V4.at 0
          have fv0 := V4.free 0
          have v1 := V4.at 1
          have fv1 := V4.free 1
          have v2 := V4.at 2
          have fv2 := V4.free 2
          have v3 := V4.at 3
          have fv3 := V4.free 3
          have vl := V4.lt
          have Ry := rrdr_set (j := 2) (v := .int .i64 m) R4 n1 ⟨_, v0⟩
          have Vy : Cbox (w4.setCell ⟨w1.heap.size, 2, none⟩ (.int .i64 m)) w1.heap.size #[.int .i64 5, .int .i64 n, .int .i64 m, .string ⟨#[]⟩] 47 := heap_setCell_same w4 w1.heap.size 2 _ _ _ V4
          have Oy := vk_set (j := 2) (u := .int .i64 m) O4 nog
          have Gy := gb_new G4 w1.heap.size 2 (.int .i64 m) (by have := G1.size; omega)
          go_upto_region 17 with fail
          generalize w4.setCell ⟨w1.heap.size, 2, none⟩ (.int .i64 m) = y4 at *
          clear v0 v1 v2 v3 vl fv0 fv1 fv2 fv3 V4 O4 R4 G4
          have R4 := Ry
          have V4 := Vy
          have O4 := Oy
          have G4 := Gy
          have v0 := V4.at 0
          have v1 := V4.at 1
          have v2 := V4.at 2
          have v3 := V4.at 3
          have vl := V4.lt
          obtain ⟨i0, hi, hz0, hz1, hz2⟩ := info_parts Tryz.info47
          have hs0 := G4.size
          have hal := O4.1
          go_wp2_with (at_builtin; refine wpList_append_own _ rfl _ _ 22 rfl w.heap.size 47 i0 (.agg #[.int .i64 0, .int .i64 0, .int .i64 0, .string ⟨#[]⟩]) 4 40 Tryz.underlying22 hi hz0 hz1 hz2 rfl (by decide) _ _ _ rfl (World.ownsRow.alloc O4 _) ⟨y4.heap.size, 0, none⟩ 1 1 (vcs ⟨5, n, m, []⟩).toList rfl rfl (news_va y4 ⟨5, n, m, []⟩) (one_va ⟨5, n, m, []⟩) (by unfold maxLen; omega) (by omega) (by simp; omega) ?_)
          intro v9 w9 hown9 hgrow9 _
          have uX : Below y4.heap.size y4 (y4.alloc (.cells (vcs ⟨5, n, m, []⟩) 47)) := (Below.refl _ _).alloc (Nat.le_refl _) _
          have RX := rrdr_later R4 uX
          have OX := Vk.later O4 uX
          have R9 := rrdr_app RX OX HN.out hpw hgrow9
          have O9 := Vk.push (st := acc) (d := ⟨5, n, m, []⟩) hacc hown9
          have G9 := gb_app (gb_step G4 (gb_of uX)) hgrow9 (fun g hg => (World.ownsRow.lt OX g hg).1)
          clear hown9 hgrow9 RX OX uX v0 v1 v2 v3 vl
          go_wp2_with fail
          exact ⟨⟨i + 1, k3, e3, acc ++ [(⟨5, n, m, []⟩ : Va)], by rw [cast1], by omega, by simp; omega, fun h => by simp at h, O9, R9, G9, by show _ ∧ _; have hh := HST.out; simpa using hh⟩, by simp [Bk.intOf]; omega⟩
        by_cases q3 : kk = 3
        · subst q3
          rcases hT : rTxt bs k1 e1 with ⟨b, kT, eT⟩
          have htv : tvR bs k 0 = (⟨3, 0, 0, b⟩, kT, eT) := by unfold tvR; simp only [h1, hT]; simp
          rw [htv] at HST
          clear htv
          have uV : Below w1.heap.size w1 (w1.alloc (.cells #[.int .i64 3, .int .i64 0, .int .i64 0, .string ⟨#[]⟩] 47)) := (Below.refl _ _).alloc (Nat.le_refl _) _
          have R2 := rrdr_later R1 uV
          have V2 := Cbox.new w1 #[.int .i64 3, .int .i64 0, .int .i64 0, .string ⟨#[]⟩] 47
          have O2 := Vk.later O1 uV
          have G2 := gb_step G1 (gb_of uV)
          go_upto_region 7 with fail
          generalize w1.alloc (.cells #[.int .i64 3, .int .i64 0, .int .i64 0, .string ⟨#[]⟩] 47) = w2 at *
          clear uV
          have v0 := V2.at 0
          have v1 := V2.at 1
          have v2 := V2.at 2
          have v3 := V2.at 3
          have vl := V2.lt
          go_wp2_with fail
          have N3 := rrText_any p bs k1 e1 _ R2
          rw [hT] at N3
          refine N3.mono ?_
          rintro x w3 ⟨rfl, R3, g3⟩
          have V3 := cbox_grown V2 g3 (by simpa using n1)
          have O3 := vk_kept O2 g3 hpw
          have G3 := gb_step G2 g3
          clear v0 v1 v2 v3 vl
          dsimp only at R3 ⊢
          have v0 := V3.at 0
          have fv0 := V3.free 0
          have v1 := V3.at 1
          have fv1 := V3.free 1
          have v2 := V3.at 2
          have fv2 := V3.free 2
          have v3 := V3.at 3
          have fv3 := V3.free 3
          have vl := V3.lt
          have Ry := rrdr_set (j := 3) (v := .string ⟨b.toArray⟩) R3 n1 ⟨_, v0⟩
          have Vy : Cbox (w3.setCell ⟨w1.heap.size, 3, none⟩ (.string ⟨b.toArray⟩)) w1.heap.size #[.int .i64 3, .int .i64 0, .int .i64 0, .string ⟨b.toArray⟩] 47 := heap_setCell_same w3 w1.heap.size 3 _ _ _ V3
          have Oy := vk_set (j := 3) (u := .string ⟨b.toArray⟩) O3 nog
          have Gy := gb_new G3 w1.heap.size 3 (.string ⟨b.toArray⟩) (by have := G1.size; omega)
          go_upto_region 17 with fail
          generalize w3.setCell ⟨w1.heap.size, 3, none⟩ (.string ⟨b.toArray⟩) = y3 at *
          clear v0 v1 v2 v3 vl fv0 fv1 fv2 fv3 V3 O3 R3 G3
          have R3 := Ry
          have V3 := Vy
          have O3 := Oy
          have G3 := Gy
          have v0 := V3.at 0
          have v1 := V3.at 1
          have v2 := V3.at 2
          have v3 := V3.at 3
          have vl := V3.lt
          obtain ⟨i0, hi, hz0, hz1, hz2⟩ := info_parts Tryz.info47
          have hs0 := G3.size
          have hal := O3.1
          go_wp2_with (at_builtin; refine wpList_append_own _ rfl _ _ 22 rfl w.heap.size 47 i0 (.agg #[.int .i64 0, .int .i64 0, .int .i64 0, .string ⟨#[]⟩]) 4 40 Tryz.underlying22 hi hz0 hz1 hz2 rfl (by decide) _ _ _ rfl (World.ownsRow.alloc O3 _) ⟨y3.heap.size, 0, none⟩ 1 1 (vcs ⟨3, 0, 0, b⟩).toList rfl rfl (news_va y3 ⟨3, 0, 0, b⟩) (one_va ⟨3, 0, 0, b⟩) (by unfold maxLen; omega) (by omega) (by simp; omega) ?_)
          intro v9 w9 hown9 hgrow9 _
          have uX : Below y3.heap.size y3 (y3.alloc (.cells (vcs ⟨3, 0, 0, b⟩) 47)) := (Below.refl _ _).alloc (Nat.le_refl _) _
          have RX := rrdr_later R3 uX
          have OX := Vk.later O3 uX
          have R9 := rrdr_app RX OX HN.out hpw hgrow9
          have O9 := Vk.push (st := acc) (d := ⟨3, 0, 0, b⟩) hacc hown9
          have G9 := gb_app (gb_step G3 (gb_of uX)) hgrow9 (fun g hg => (World.ownsRow.lt OX g hg).1)
          clear hown9 hgrow9 RX OX uX v0 v1 v2 v3 vl
          go_wp2_with fail
          exact ⟨⟨i + 1, kT, eT, acc ++ [(⟨3, 0, 0, b⟩ : Va)], by rw [cast1], by omega, by simp; omega, fun h => by simp at h, O9, R9, G9, by show _ ∧ _; have hh := HST.out; simpa using hh⟩, by simp [Bk.intOf]; omega⟩
        have b1 : (kk == 1) = false := by simpa using q1
        have b2 : (kk == 2) = false := by simpa using q2
        have b3 : (kk == 3) = false := by simpa using q3
        have b4 : (kk == 4) = false := by simpa using q4
        have b5 : (kk == 5) = false := by simpa using q5
        have htv : tvR bs k 0 = (⟨kk, 0, 0, []⟩, k1, e1) := by unfold tvR; simp only [h1]; simp [q1, q2, q3, q4, q5]
        rw [htv] at HST
        clear htv
        have uV : Below w1.heap.size w1 (w1.alloc (.cells #[.int .i64 kk, .int .i64 0, .int .i64 0, .string ⟨#[]⟩] 47)) := (Below.refl _ _).alloc (Nat.le_refl _) _
        have R2 := rrdr_later R1 uV
        have V2 := Cbox.new w1 #[.int .i64 kk, .int .i64 0, .int .i64 0, .string ⟨#[]⟩] 47
        have O2 := Vk.later O1 uV
        have G2 := gb_step G1 (gb_of uV)
        go_upto_region 7 with fail
        generalize w1.alloc (.cells #[.int .i64 kk, .int .i64 0, .int .i64 0, .string ⟨#[]⟩] 47) = w2 at *
        clear uV
        have v0 := V2.at 0
        have v1 := V2.at 1
        have v2 := V2.at 2
        have v3 := V2.at 3
        have vl := V2.lt
        go_upto_region 17 with fail
        obtain ⟨i0, hi, hz0, hz1, hz2⟩ := info_parts Tryz.info47
        have hs0 := G2.size
        have hal := O2.1
        go_wp2_with (at_builtin; refine wpList_append_own _ rfl _ _ 22 rfl w.heap.size 47 i0 (.agg #[.int .i64 0, .int .i64 0, .int .i64 0, .string ⟨#[]⟩]) 4 40 Tryz.underlying22 hi hz0 hz1 hz2 rfl (by decide) _ _ _ rfl (World.ownsRow.alloc O2 _) ⟨w2.heap.size, 0, none⟩ 1 1 (vcs ⟨kk, 0, 0, []⟩).toList rfl rfl (news_va w2 ⟨kk, 0, 0, []⟩) (one_va ⟨kk, 0, 0, []⟩) (by unfold maxLen; omega) (by omega) (by simp; omega) ?_)
        intro v9 w9 hown9 hgrow9 _
        have uX : Below w2.heap.size w2 (w2.alloc (.cells (vcs ⟨kk, 0, 0, []⟩) 47)) := (Below.refl _ _).alloc (Nat.le_refl _) _
        have RX := rrdr_later R2 uX
        have OX := Vk.later O2 uX
        have R9 := rrdr_app RX OX HN.out hpw hgrow9
        have O9 := Vk.push (st := acc) (d := ⟨kk, 0, 0, []⟩) hacc hown9
        have G9 := gb_app (gb_step G2 (gb_of uX)) hgrow9 (fun g hg => (World.ownsRow.lt OX g hg).1)
        clear hown9 hgrow9 RX OX uX v0 v1 v2 v3 vl
        go_wp2_with fail
        exact ⟨⟨i + 1, k1, e1, acc ++ [(⟨kk, 0, 0, []⟩ : Va)], by rw [cast1], by omega, by simp; omega, fun h => by simp at h, O9, R9, G9, by show _ ∧ _; have hh := HST.out; simpa using hh⟩, by simp [Bk.intOf]; omega⟩
      · have he' : ((e : Int) == 0) = false := by simpa using he
        have hfin : acc = L ∧ k = K ∧ e = E := by
          have hh := HH.out
          rw [show F - i = (F - (i + 1)) + 1 by omega] at hh
          simp only [rdR] at hh
          rw [if_neg he] at hh
          simp only [List.append_nil, Prod.mk.injEq] at hh
          exact ⟨hh.1, hh.2.1, hh.2.2⟩
        obtain ⟨rfl, rfl, rfl⟩ := hfin
        clear hC HH c0 c1
        go_wp2_with fail
        refine bodyPost_ret_by (v := u4) ?_ rfl ⟨_, rfl, HO.out, HR.out, HG.out⟩
        simp [results, Tryz.results27, go_sem]
    · have hfin : acc = L ∧ k = K ∧ e = E := by
        have hh := HH.out
        rw [show F - i = 0 by omega] at hh
        simp only [rdR, List.append_nil, Prod.mk.injEq] at hh
        exact ⟨hh.1, hh.2.1, hh.2.2⟩
      obtain ⟨rfl, rfl, rfl⟩ := hfin
      clear HH
      by_cases hin : (i : Int) < cn
      · have h65 : ¬ (i : Int) < 65 := by omega
        go_wp2_with fail
        refine bodyPost_ret_by (v := u4) ?_ rfl ⟨_, rfl, HO.out, HR.out, HG.out⟩
        simp [results, Tryz.results27, go_sem]
      · go_wp2_with fail
        refine bodyPost_ret_by (v := u4) ?_ rfl ⟨_, rfl, HO.out, HR.out, HG.out⟩
        simp [results, Tryz.results27, go_sem]
end Go.Proofs.YtafmchgncahafaaGreatDoor.By
