/-
  EvalNamed's walk.
-/
import Derived.Test.YtgapmofhnjfdiaaGreatDoorMXXNmX
import Derived.Test.YtgapmofhnjfdiaaGreatDoorMBVOrd1
import Derived.BigRegion
import Derived.Test.YtgapmofhnjfdiaaGreatDoorMGXNdB
import Derived.Test.YtgapmofhnjfdiaaGreatDoorMOQUn
import Derived.Deep.CutRange
namespace Go.Proofs.YtgapmofhnjfdiaaGreatDoor
open Go.RowKit Go.Shelf
attribute [local go_sem] cell?_more frozen?_more setCell_more more_lt more_more more_drew more_drewN setCell_drewN alloc_drewN

set_option maxRecDepth 20000 in
set_option maxHeartbeats 4000000 in
theorem named_lt (lo ta na ro oo : Option Addr) (lc tc nc rc oc : Nat) (l : List Nd) (ts ns : List (List UInt8)) (row other : List Va) (w : World) (hv : Nw w lo l) (hln : l.length * 88 ≤ 140737488351232) (hs : shN l) (hi6 : ∀ x ∈ l, vin x.v) (ht : Sl w ta ts) (hn : Sl w na ns) (ht0 : ta = none → ts = []) (hn0 : na = none → ns = []) (hlt : ts.length * 16 ≤ 140737488351232) (hlnn : ns.length * 16 ≤ 140737488351232) (hr : Vs w ro row) (hr0 : ro = none → row = []) (hlr : row.length * 40 ≤ 140737488351232) (hir : ∀ v ∈ row, vin v) (hoo : Vs w oo other) (hlo : other.length * 40 ≤ 140737488351232) (hio : ∀ v ∈ other, vin v) (hT : Tabs w) (hPw : Pw w)
    (h600 : l.length ≤ 600) (hrn : row.length = ns.length) (htn : ts.length = ns.length) (hckr : ckE row = 0) (hcko : ckE other = 0) (hmo : other.length < row.length) :
    Calls Tryz.prog 7 #[.slice lo l.length lc, scv ta na ts.length ns.length tc nc, .slice ro row.length rc, .slice oo other.length oc] w fun e w' => e = .returned (.bool true) ∧ Below w.heap.size w w' := by
  have har : row.all vr = true := by
    unfold ckE at hckr
    split at hckr
    · simp at hckr
    · split at hckr
      · assumption
      · simp at hckr
  have hao : other.all vr = true := by
    unfold ckE at hcko
    split at hcko
    · simp at hcko
    · split at hcko
      · assumption
      · simp at hcko
  have OW : Hid (∀ W, Below w.heap.size w W → Calls Tryz.prog 8 #[.slice lo l.length lc] W fun e w' => (∃ ao' cap', e = .returned (.slice ao' l.length cap') ∧ Nw w' ao' l ∧ Nowns w' W.heap.size (.slice ao' l.length cap') l) ∧ Below W.heap.size W w') := fun W h => own6_any lo lc l W (hv.later h) hln
  have CO : Hid (∀ W a c, Below w.heap.size w W → Nw W a l → Calls Tryz.prog 11 #[.slice a l.length c] W fun e w' => (∃ v, e = .returned v ∧ Nowns w' W.heap.size v (if 0 < depN mayN l then colsL l [] else [])) ∧ Below W.heap.size W w') := fun W a c h h1 => columns_any a c l W h1 (by omega) hs (hT.later h)
  have VOW : Hid (∀ W, Below w.heap.size w W → Calls Tryz.prog 21 #[.slice ro row.length rc] W fun e w' => (∃ v, e = .returned v ∧ Vk w' W.heap.size v row) ∧ Below W.heap.size W w') := fun W h => vown_own ro rc row W (hr.later h) hr0 hlr
  have RW1 : Hid (∀ W, Below w.heap.size w W → Calls Tryz.prog 33 #[.slice ro row.length rc] W fun e w' => e = .returned (.bool true) ∧ Below W.heap.size W w') := fun W h => by
    have := rrow_any ro rc row W (hr.later h) (by omega)
    rw [hckr] at this
    exact this
  have RW2 : Hid (∀ W, Below w.heap.size w W → Calls Tryz.prog 33 #[.slice oo other.length oc] W fun e w' => e = .returned (.bool true) ∧ Below W.heap.size W w') := fun W h => by
    have := rrow_any oo oc other W (hoo.later h) (by omega)
    rw [hcko] at this
    exact this
  have SCO : Hid (∀ W, Below w.heap.size w W → Calls Tryz.prog 26 #[scv ta na ts.length ns.length tc nc] W fun e w' => (∃ ta' na' tc' nc', e = .returned (scv ta' na' ts.length ns.length tc' nc') ∧ Sl w' ta' ts ∧ Sl w' na' ns) ∧ Below W.heap.size W w') := fun W h => scope_any ta na tc nc ts ns W (ht.later h) (hn.later h) ht0 hn0 hlt hlnn
  have EVX : Hid (∀ W la lc' ta' na' tc' nc' ra rc' (cur : List Va), Below w.heap.size w W → cur.length = row.length → (∀ v ∈ cur, vin v) → Nw W la l → Sl W ta' ts → Sl W na' ns → Vs W ra cur → Calls Tryz.prog 28 #[.slice la l.length lc', scv ta' na' ts.length ns.length tc' nc', .slice ra cur.length rc'] W fun e w' => e = .returned (rs (evR l ts ns cur)) ∧ Below W.heap.size W w') := fun W la lc' ta' na' tc' nc' ra rc' cur h h1 h2 h3 h4 h5 h6 =>
    eval_any la ta' na' ra lc' tc' nc' rc' l ts ns cur W h3 (by omega) hs (hT.later h) (hPw.below h) h4 h5 h6 (by omega) hi6 h2
  have KN : Hid (∀ W, Below w.heap.size w W → Calls Tryz.prog 20 #[] W fun e w' => e = .returned (.bool true) ∧ Below W.heap.size W w') := fun W h => knows7_any W (hT.later h) (hPw.below h)
  have CHE : Hid (∀ cur, chgd (if 0 < depN mayN l then colsL l [] else []) ns row other cur → evR l ts ns row = evR l ts ns cur ∧ (∀ v ∈ cur, vin v)) := fun cur h => ⟨(chgd_ev h hrn.symm har hao).1, chgd_vin h hrn.symm hir hio⟩
  have CH0 : Hid (chgd (if 0 < depN mayN l then colsL l [] else []) ns row other row) := ⟨rfl, fun j _ _ _ => .inl rfl⟩
  have CLEN : Hid ((if 0 < depN mayN l then colsL l [] else []).length ≤ 600) := by
    show _ ≤ _
    have h1 : ∀ (l : List Nd) out, (colsL l out).length ≤ out.length + l.length := by
      intro l
      induction l with
      | nil => intro out; show out.length ≤ _; omega
      | cons x l ih =>
        intro out
        have := ih (if x.o = 2 ∧ memN out x = false then out ++ [⟨2, x.t, x.n, vz0, 0⟩] else out)
        show (colsL l (if x.o = 2 ∧ memN out x = false then out ++ [⟨2, x.t, x.n, vz0, 0⟩] else out)).length ≤ _
        have h2 : (if x.o = 2 ∧ memN out x = false then out ++ [⟨2, x.t, x.n, vz0, 0⟩] else out).length ≤ out.length + 1 := by
          split <;> simp
        rw [List.length_cons]
        omega
    split
    · have := h1 l []
      simp at this
      omega
    · simp
  generalize (if 0 < depN mayN l then colsL l [] else []) = C at CO CHE CH0 CLEN
  have HSn : Hid (Sl w na ns) := hn
  have HVo : Hid (Vs w oo other) := hoo
  obtain ⟨m, hm⟩ : ∃ m, ns.length = m := ⟨_, rfl⟩
  obtain ⟨n, hnn⟩ : ∃ n, l.length = n := ⟨_, rfl⟩
  obtain ⟨o, ho⟩ : ∃ o, other.length = o := ⟨_, rfl⟩
  have HR : Hid (row.length = m) := by show _ = _; omega
  have HNS : Hid (ns.length = m) := hm
  have HOL : Hid (other.length = o) := ho
  rw [hnn] at h600 OW CO
  have EV1 : Hid (∀ W la lc' ta' na' tc' nc' ra rc', Below w.heap.size w W → Nw W la l → Sl W ta' ts → Sl W na' ns → Vs W ra row → Calls Tryz.prog 28 #[.slice la n lc', scv ta' na' m m tc' nc', .slice ra m rc'] W fun e w' => e = .returned (rs (evR l ts ns row)) ∧ Below W.heap.size W w') := fun W la lc' ta' na' tc' nc' ra rc' h h1 h2 h3 h4 => by
    have := EVX.out W la lc' ta' na' tc' nc' ra rc' row h rfl hir h1 h2 h3 h4
    rw [hnn, htn, hm, hrn, hm] at this
    exact this
  have EVC : Hid (∀ cur, chgd C ns row other cur → ∀ W la lc' ta' na' tc' nc' ra rc', Below w.heap.size w W → Nw W la l → Sl W ta' ts → Sl W na' ns → Vs W ra cur → Calls Tryz.prog 28 #[.slice la n lc', scv ta' na' m m tc' nc', .slice ra m rc'] W fun e w' => e = .returned (rs (evR l ts ns row)) ∧ Below W.heap.size W w') := fun cur hc W la lc' ta' na' tc' nc' ra rc' h h1 h2 h3 h4 => by
    have := EVX.out W la lc' ta' na' tc' nc' ra rc' cur h hc.1 (CHE.out cur hc).2 h1 h2 h3 h4
    rw [← (CHE.out cur hc).1, hc.1, hnn, htn, hm, hrn, hm] at this
    exact this
  rw [hrn, hm] at VOW RW1
  rw [ho] at RW2
  rw [htn, hm] at SCO
  rw [hnn, htn, hm, hrn, hm, ho]
  rw [hrn, hm, ho] at hmo
  rw [hm] at hlnn
  rw [ho] at hlo
  rcases hev : evR l ts ns row with ⟨⟨vk, vn, vm, vb⟩, ek⟩
  rw [hev] at EV1 EVC
  have h600' : ¬ (600 : Int) < (n : Int) := by omega
  clear EVX CHE hv hln hs hi6 ht hn ht0 hn0 hlt hr hr0 hlr hir hoo hio hT hPw hrn htn hckr hcko har hao hev hm hnn ho
  have h1 := Cbox.new w #[.slice ta m tc, .slice na m nc] 53
  have B0 : Below w.heap.size w (w.alloc (.cells #[.slice ta m tc, .slice na m nc] 53)) := (Below.refl _ w).alloc (Nat.le_refl _) _
  generalize hw0 : (w.alloc (.cells #[.slice ta m tc, .slice na m nc] 53)) = w0 at h1 B0
  have SB0 : Hid (Cbox w0 w.heap.size #[.slice ta m tc, .slice na m nc] 53) := h1
  have z0 := h1.at 0
  have z1 := h1.at 1
  have zl := h1.lt
  clear h1
  go_enter Tryz.func7, Tryz.ntmps7
  go_upto_region 1 with fail
  try rw [hw0]
  clear hw0
  have R1 := RW1.out w0 B0
  go_wp2_with fail
  refine R1.mono ?_
  rintro e w1 ⟨rfl, b1⟩
  have B1 := below_trans B0 b1
  have R2 := RW2.out w1 B1
  clear R1 z0 z1 zl
  go_wp2_with fail
  refine R2.mono ?_
  rintro e w2 ⟨rfl, b2⟩
  have B2 := below_trans B1 b2
  have O2 := OW.out w2 B2
  clear R2
  go_wp2_with fail
  refine O2.mono ?_
  rintro e w3 ⟨⟨a3, c3, rfl, n3, _⟩, b3⟩
  have B3 := below_trans B2 b3
  have C3 := CO.out w3 a3 c3 B3 n3
  clear O2
  go_wp2_with fail
  refine C3.mono ?_
  rintro e w4 ⟨⟨v4, rfl, o4⟩, b4⟩
  have B4 := below_trans B3 b4
  obtain ⟨a4, c4, hv4, q4⟩ := o4.lies
  obtain ⟨c, hc⟩ : ∃ c, C.length = c := ⟨_, rfl⟩
  have HC : Hid (C.length = c) := hc
  have hc600 : c ≤ 600 := by have := CLEN.out; omega
  rw [hc] at hv4
  subst hv4
  have Q4 : Hid (Nw w4 a4 C) := q4
  have SB4 : Hid (Cbox w4 w.heap.size #[.slice ta m tc, .slice na m nc] 53) := (((SB0.out.later b1).later b2).later b3).later b4
  have V4 := VOW.out w4 B4
  clear C3 o4 q4 n3 hc CLEN CO RW1 RW2 SB0
  go_wp2_with fail
  refine V4.mono ?_
  rintro e w5 ⟨⟨v5, rfl, k5⟩, b5⟩
  obtain ⟨so, sc, hv5, _, hsn, _, hcell⟩ := Vk.shape k5
  rw [HR.out] at hv5
  subst hv5
  have CEL5 : Hid (0 < m → ∃ g, so = some ⟨g, 0, none⟩ ∧ w4.heap.size ≤ g ∧ g < w5.heap.size ∧ (∀ j, w5.frozen? ⟨g, j, none⟩ = false) ∧ ∀ j (h : j < row.length), At4 w5 g (j * 4) row[j]) := by
    intro hp
    cases so with
    | none => have := (hsn rfl).1; have h2 := HR.out; rw [this] at h2; simp at h2; omega
    | some a =>
      obtain ⟨g, rfl, h1, h2, h3⟩ := hcell a rfl
      exact ⟨g, rfl, h1, h2, Vk.free k5, h3⟩
  clear V4 k5 hsn hcell
  go_wp2
  go_loopw [11] (fun r11 wr => ∃ (k : Nat) (cur : List Va), r11 = .int .i64 (k : Int) ∧ k ≤ m ∧ k ≤ o ∧ Below w4.heap.size w4 wr ∧ Hid (chgd C ns row other cur) ∧ Hid (0 < m → ∃ g, so = some ⟨g, 0, none⟩ ∧ w4.heap.size ≤ g ∧ g < wr.heap.size ∧ (∀ j, wr.frozen? ⟨g, j, none⟩ = false) ∧ ∀ j (h : j < cur.length), At4 wr g (j * 4) cur[j])) (fun r _ => m - (intOf r).toNat)
  case atStart => exact ⟨0, row, rfl, Nat.zero_le _, Nat.zero_le _, b5, CH0, CEL5⟩
  case round =>
    rename World => wo
    obtain ⟨k, cur, rfl, hkm, hko, hb, HCH, HCE⟩ := hrel
    by_cases hlt : k < o
    · have hltm : (k : Int) < (m : Int) := by omega
      have hlto : (k : Int) < (o : Int) := by omega
      have k0 : (0 : Int) ≤ (k : Int) := by omega
      have hkn : k < ns.length := by rw [HNS.out]; omega
      have hkoo : k < other.length := by rw [HOL.out]; omega
      have Bo := below_trans B4 hb
      obtain ⟨nb, noff, rfl, hcn⟩ := HSn.out (by omega)
      have cn := (Bo.cell (p := ⟨nb, noff + k, none⟩) (World.block_lt_of_cell? w _ (hcn k hkn))).trans (hcn k hkn)
      obtain ⟨ob, ooff, rfl, hco⟩ := HVo.out (by omega)
      have co : Hid (At4 wo ob (ooff + k * 4) other[k]) := (hco k hkoo).later Bo
      have SBo : Hid (Cbox wo w.heap.size #[.slice ta m tc, .slice (some ⟨nb, noff, none⟩) m nc] 53) := SB4.out.later hb
      obtain ⟨SN, hSN⟩ : ∃ SN : ByteArray, SN = ⟨ns[k].toArray⟩ := ⟨_, rfl⟩
      have eSN : Hid (SN.toList = ns[k]) := by show _ = _; rw [hSN, ByteArray.toList_eq]
      rw [← hSN] at cn
      have CN : Hid (wo.cell? ⟨nb, noff + k, none⟩ = some (.string SN)) := cn
      have NLT : Hid (nb < wo.heap.size) := World.block_lt_of_cell? _ ⟨nb, noff + k, none⟩ cn
      have Q4o : Hid (Nw wo a4 C) := Q4.out.later hb
      clear hcn hco hSN cn
      go_wp2
      go_loopw [12, 13] (fun r12 r13 wr => ∃ (j : Nat) (nm : Bool), r12 = .bool nm ∧ r13 = .int .i64 (j : Int) ∧ j ≤ c ∧ Below wo.heap.size wo wr ∧ Hid (nmd C SN.toList j nm)) (fun _ r _ => c - (intOf r).toNat)
      case atStart => exact ⟨0, false, rfl, rfl, Nat.zero_le _, Below.refl _ _, ⟨fun h => (by cases h), fun ⟨i, _, h, _⟩ => (by omega)⟩⟩
      case round =>
        obtain ⟨j, nm, rfl, rfl, hj, hbj, HNM⟩ := hrel
        by_cases hltj : j < c
        · have hltj' : (j : Int) < (c : Int) := by omega
          have j0 : (0 : Int) ≤ (j : Int) := by omega
          have hjl : j < C.length := by rw [HC.out]; exact hltj
          obtain ⟨qb, qoff, rfl, hq⟩ := Q4o.out (by omega)
          have q2 := ((hq j hjl).later hbj).2.2.1
          have ql := ((hq j hjl).later hbj).lt
          have cn := (hbj.cell (p := ⟨nb, noff + k, none⟩) NLT.out).trans CN.out
          have nl := Nat.lt_of_lt_of_le NLT.out hbj.size
          have s1 := (SBo.out.later hbj).at 1
          have sl := (SBo.out.later hbj).lt
          obtain ⟨QN, hQN⟩ : ∃ QN : ByteArray, QN = ⟨C[j].n.toArray⟩ := ⟨_, rfl⟩
          have eQN : Hid (QN.toList = C[j].n) := by show _ = _; rw [hQN, ByteArray.toList_eq]
          rw [← hQN] at q2
          have HBJ : Hid (Below wo.heap.size wo wr) := hbj
          clear hq hQN hbj
          cases nm with
          | true =>
            have HN2 : Hid (nmd C SN.toList (j + 1) true) := ⟨fun _ => by obtain ⟨i, h, h1, h2⟩ := HNM.out.1 rfl; exact ⟨i, h, by omega, h2⟩, fun _ => rfl⟩
            clear HNM
            go_wp2
            go_region
            all_goals go_wp2
            all_goals exact ⟨⟨j + 1, true, rfl, by rw [cst1], by omega, by first | exact HBJ.out | exact HBJ.out.drew, HN2⟩, by simp [intOf]; omega⟩
          | false =>
            by_cases he : QN.toList = SN.toList
            · have he' : (QN.toList == SN.toList) = true := by rw [beq_iff_eq]; exact he
              have HN2 : Hid (nmd C SN.toList (j + 1) true) := ⟨fun _ => ⟨j, hjl, by omega, by rw [← eQN.out]; exact he⟩, fun _ => rfl⟩
              clear HNM he
              go_wp2
              go_region
              all_goals go_wp2
              all_goals exact ⟨⟨j + 1, true, rfl, by rw [cst1], by omega, by first | exact HBJ.out | exact HBJ.out.drew, HN2⟩, by simp [intOf]; omega⟩
            · have he' : (QN.toList == SN.toList) = false := by rw [beq_eq_false_iff_ne]; exact he
              have HN2 : Hid (nmd C SN.toList (j + 1) false) := ⟨fun h => (by cases h), fun ⟨i, h, h1, h2⟩ => by
                by_cases e : i = j
                · subst e; exact absurd (eQN.out.trans h2) he
                · exact HNM.out.2 ⟨i, h, by omega, h2⟩⟩
              clear HNM he
              go_wp2
              go_region
              all_goals go_wp2
              all_goals exact ⟨⟨j + 1, false, rfl, by rw [cst1], by omega, by first | exact HBJ.out | exact HBJ.out.drew, HN2⟩, by simp [intOf]; omega⟩
        · have hltj' : ¬ (j : Int) < (c : Int) := by omega
          have Bj := hb.trans (hbj.mono hb.size)
          cases nm with
          | true =>
            have HCE2 : Hid (0 < m → ∃ g, so = some ⟨g, 0, none⟩ ∧ w4.heap.size ≤ g ∧ g < wr.heap.size ∧ (∀ j, wr.frozen? ⟨g, j, none⟩ = false) ∧ ∀ j (h : j < cur.length), At4 wr g (j * 4) cur[j]) := fun hp => by
              obtain ⟨g, h1, h2, h3, h4, h5⟩ := HCE.out hp
              exact ⟨g, h1, h2, Nat.lt_of_lt_of_le h3 hbj.size, fun j => (hbj.frozen (p := ⟨g, j, none⟩) h3).trans (h4 j), fun j h => (h5 j h).later hbj⟩
            clear HNM HCE hbj
            go_wp2
            exact ⟨⟨k + 1, cur, by rw [cst1], by omega, by omega, Bj, HCH, HCE2⟩, by simp [intOf]; omega⟩
          | false =>
            obtain ⟨g, rfl, hg1, hg2, hg3, hg4⟩ := HCE.out (by omega)
            have hcl : cur.length = m := by have := HCH.out.1; rw [HR.out] at this; exact this
            have hkc : k < cur.length := by omega
            have u4 := (hg4 k hkc).later hbj
            have o4 := co.out.later hbj
            have gl := u4.lt
            have ol := o4.lt
            have fz : ∀ j, wr.frozen? ⟨g, j, none⟩ = false := fun j => (hbj.frozen (p := ⟨g, j, none⟩) hg2).trans (hg3 j)
            have f0 := fz (k * 4)
            have f1 := fz (k * 4 + 1)
            have f2 := fz (k * 4 + 2)
            have f3 := fz (k * 4 + 3)
            have HG4 : Hid (∀ j (h : j < cur.length), At4 wr g (j * 4) cur[j]) := fun j h => (hg4 j h).later hbj
            have HFZ : Hid (∀ j, wr.frozen? ⟨g, j, none⟩ = false) := fz
            have HCH2 : Hid (chgd C ns row other (cur.set k other[k])) := chgd_set HCH.out k hkoo hkn (fun cc hcc hcn => by
              obtain ⟨i, hi, rfl⟩ := List.mem_iff_getElem.1 hcc
              have := HNM.out.2 ⟨i, hi, by rw [HC.out] at hi; omega, by rw [eSN.out]; exact hcn⟩
              cases this)
            have U4 : Hid (At4 wr g (k * 4) cur[k]) := u4
            generalize hok : other[k] = ok at o4 HCH2
            clear hok
            generalize cur[k] = uu at u4 U4
            obtain ⟨pk, pn, pm, pb⟩ := uu
            obtain ⟨ok1, on1, om1, ob1⟩ := ok
            obtain ⟨x0, x1, x2, x3⟩ := o4
            obtain ⟨t0, t1, t2, t3⟩ := u4
            dsimp only at x0 x1 x2 x3 t0 t1 t2 t3
            have BF := res_kept4 (o := k * 4) Bj (q := g) (by omega) ok1 on1 om1 ⟨ob1.toArray⟩
            have HCE2 : Hid (0 < m → ∃ g', (some (⟨g, 0, none⟩ : Addr)) = some ⟨g', 0, none⟩ ∧ w4.heap.size ≤ g' ∧ g' < (((((wr.setCell ⟨g, k * 4, none⟩ (.int .i64 ok1)).setCell ⟨g, k * 4 + 1, none⟩ (.int .i64 on1)).setCell ⟨g, k * 4 + 2, none⟩ (.int .i64 om1)).setCell ⟨g, k * 4 + 3, none⟩ (.string ⟨ob1.toArray⟩))).heap.size ∧ (∀ j, ((((wr.setCell ⟨g, k * 4, none⟩ (.int .i64 ok1)).setCell ⟨g, k * 4 + 1, none⟩ (.int .i64 on1)).setCell ⟨g, k * 4 + 2, none⟩ (.int .i64 om1)).setCell ⟨g, k * 4 + 3, none⟩ (.string ⟨ob1.toArray⟩)).frozen? ⟨g', j, none⟩ = false) ∧ ∀ j (h : j < (cur.set k ⟨ok1, on1, om1, ob1⟩).length), At4 ((((wr.setCell ⟨g, k * 4, none⟩ (.int .i64 ok1)).setCell ⟨g, k * 4 + 1, none⟩ (.int .i64 on1)).setCell ⟨g, k * 4 + 2, none⟩ (.int .i64 om1)).setCell ⟨g, k * 4 + 3, none⟩ (.string ⟨ob1.toArray⟩)) g' (j * 4) (cur.set k ⟨ok1, on1, om1, ob1⟩)[j]) := fun _ => ⟨g, rfl, hg1, by simp [World.setCell]; exact gl, fun j => by simp only [World.frozen?_setCell]; exact HFZ.out j, fun j h => by
              by_cases e : k = j
              · subst e
                rw [List.getElem_set_self]
                exact at4_set (v := ⟨ok1, on1, om1, ob1⟩) U4.out
              · rw [List.getElem_set_ne e]
                rw [List.length_set] at h
                exact at4_off _ _ _ _ (HG4.out j h) (by omega)⟩
            clear HNM HCE hbj HG4 HFZ U4 hg4 hg3 fz HCH
            go_wp2
            exact ⟨⟨k + 1, cur.set k ⟨ok1, on1, om1, ob1⟩, by rw [cst1], by omega, by omega, BF, HCH2, HCE2⟩, by simp [intOf]; omega⟩
    · have hltm : (k : Int) < (m : Int) := by omega
      have hlto : ¬ (k : Int) < (o : Int) := by omega
      rename World => wL
      have BL := below_trans B4 hb
      have EV2 := EVC.out cur HCH.out
      have EV2H : Hid (∀ W la lc' ta' na' tc' nc' ra rc', Below w.heap.size w W → Nw W la l → Sl W ta' ts → Sl W na' ns → Vs W ra cur → Calls Tryz.prog 28 #[.slice la n lc', scv ta' na' m m tc' nc', .slice ra m rc'] W fun e w' => e = .returned (.tuple #[va vk vn vm ⟨vb.toArray⟩, .int .i64 ek]) ∧ Below W.heap.size W w') := EV2
      have EV1H : Hid (∀ W la lc' ta' na' tc' nc' ra rc', Below w.heap.size w W → Nw W la l → Sl W ta' ts → Sl W na' ns → Vs W ra row → Calls Tryz.prog 28 #[.slice la n lc', scv ta' na' m m tc' nc', .slice ra m rc'] W fun e w' => e = .returned (.tuple #[va vk vn vm ⟨vb.toArray⟩, .int .i64 ek]) ∧ Below W.heap.size W w') := EV1.out
      have CVL : Hid (Vs wL so cur) := fun hp => by
        have hcl : cur.length = m := by have := HCH.out.1; rw [HR.out] at this; exact this
        obtain ⟨g, h1, _, _, _, h5⟩ := HCE.out (by omega)
        exact ⟨g, 0, h1, fun i hi => by rw [Nat.zero_add]; exact h5 i hi⟩
      have SB15 : Hid (Cbox wL w.heap.size #[.slice ta m tc, .slice na m nc] 53) := SB4.out.later hb
      have BS15 := BL
      clear EV2 EVC EV1 HCE HCH hb CH0 CEL5 Q4 SB4
      go_wp2_with fail
      go_cut [14, 15] from 95 (fun sA sB wn => ∃ p : Nat, sA = .pointer (some ⟨p, 0, none⟩) ∧ sB = .int .i64 ek ∧ At4 wn p 0 ⟨vk, vn, vm, vb⟩ ∧ wL.heap.size ≤ p ∧ Below wL.heap.size wL wn)
      case first =>
        as_aux_lemma =>
          refine wp_region_held_drew (S := (fun W => Below wL.heap.size wL W)) (by kernel_rfl) ?_ (fun hHeld => ?_)
          · ((try dsimp only); exact (Below.refl _ _).drew)
          refine wpAnyH_take (i := 0) (oi := nmO15x0) (v := ?_) rfl (by kernel_rfl) (by kernel_rfl) (by kernel_rfl) (fun _ _ _ h => h) (Or.inl ⟨by rfl, ?_⟩) (by assumption) ?_
          rotate_left
          · (intro W hSw; (try dsimp only at hSw); have D := SB15.out.later hSw; have e0 := D.at 0; have e1 := D.at 1; clear D; try simp only [nmO15x0]; first | (go_simp; done) | (go_simp; with_reducible rfl))
          try simp only [nmO15x0, Act.put, List.setIfInBounds_toArray, List.set_cons_zero, List.set_cons_succ]
          refine wpAnyH_take (i := 2) (oi := nmO15x2) (v := ?_) rfl (by kernel_rfl) (by kernel_rfl) (by kernel_rfl) (fun _ _ _ h => h) (Or.inl ⟨by rfl, ?_⟩) (by assumption) ?_
          rotate_left
          · (intro W hSw; (try dsimp only at hSw); have D := SB15.out.later hSw; have e0 := D.at 0; have e1 := D.at 1; clear D; try simp only [nmO15x2]; first | (go_simp; done) | (go_simp; with_reducible rfl))
          try simp only [nmO15x2, Act.put, List.setIfInBounds_toArray, List.set_cons_zero, List.set_cons_succ]
          refine wpAnyH_take (i := 4) (oi := nmO15x4) (v := ?_) rfl (by kernel_rfl) (by kernel_rfl) (by kernel_rfl) (fun _ _ _ h => h) (Or.inl ⟨by rfl, ?_⟩) (by assumption) ?_
          rotate_left
          · (intro W hSw; (try dsimp only at hSw); have D := SB15.out.later hSw; have e0 := D.at 0; have e1 := D.at 1; clear D; try simp only [nmO15x4]; first | (go_simp; done) | (go_simp; with_reducible rfl))
          try simp only [nmO15x4, Act.put, List.setIfInBounds_toArray, List.set_cons_zero, List.set_cons_succ]
          refine wpAnyH_ready (rs := [1, 10]) (by kernel_rfl) (by simp) ?_
          refine AllReadyH.cons (o := nmO15x1) rfl (fun K hK => ?_) (AllReadyH.cons (o := nmO15x10) rfl (fun K hK => ?_) AllReadyH.nil)
          ·
            try simp only [nmO15x1]
            go_simp
            go_wp2_with fail
            refine (OW.out _ (below_trans BS15 ((Below.refl _ _).drew))).mono ?_
            rintro e u151 ⟨⟨la15, lc15, rfl, nl15, _⟩, b151⟩
            refine hK.out _ _ ?_ (fun hHeld => ?_)
            · ((try dsimp only); exact below_trans hHeld b151)
            clear hK K
            try simp only [Act.put, List.setIfInBounds_toArray, List.set_cons_zero, List.set_cons_succ]
            refine wpAnyH_ready (rs := [3, 10]) (by kernel_rfl) (by simp) ?_
            refine AllReadyH.cons (o := nmO15x3) rfl (fun K hK => ?_) (AllReadyH.cons (o := nmO15x10) rfl (fun K hK => ?_) AllReadyH.nil)
            ·
              try simp only [nmO15x3]
              go_simp
              go_wp2_with fail
              refine (SCO.out _ (below_trans BS15 ((below_trans ((Below.refl _ _).drew) b151)))).mono ?_
              rintro e u153 ⟨⟨ta15, na15, tc15, nc15, rfl, sT15, sN15⟩, b153⟩
              refine hK.out _ _ ?_ (fun hHeld => ?_)
              · ((try dsimp only); exact below_trans hHeld b153)
              clear hK K
              try simp only [Act.put, List.setIfInBounds_toArray, List.set_cons_zero, List.set_cons_succ]
              refine wpAnyH_ready (rs := [5, 10]) (by kernel_rfl) (by simp) ?_
              refine AllReadyH.cons (o := nmO15x5) rfl (fun K hK => ?_) (AllReadyH.cons (o := nmO15x10) rfl (fun K hK => ?_) AllReadyH.nil)
              ·
                try simp only [nmO15x5]
                go_simp
                go_wp2_with fail
                refine (VOW.out _ (below_trans BS15 ((below_trans ((below_trans ((Below.refl _ _).drew) b151)) b153)))).mono ?_
                rintro e u155 ⟨⟨vv15, rfl, ok15⟩, b155⟩
                obtain ⟨ra15, rc15, hve, rs15⟩ := vk_vs ok15
                rw [HR.out] at hve
                subst hve
                refine hK.out _ _ ?_ (fun hHeld => ?_)
                · ((try dsimp only); exact below_trans hHeld b155)
                clear hK K
                try simp only [Act.put, List.setIfInBounds_toArray, List.set_cons_zero, List.set_cons_succ]
                refine wpAnyH_ready (rs := [6, 10]) (by kernel_rfl) (by simp) ?_
                refine AllReadyH.cons (o := nmO15x6) rfl (fun K hK => ?_) (AllReadyH.cons (o := nmO15x10) rfl (fun K hK => ?_) AllReadyH.nil)
                ·
                  try simp only [nmO15x6]
                  go_simp
                  go_wp2_with fail
                  refine (EV1H.out _ la15 lc15 ta15 na15 tc15 nc15 ra15 rc15 (below_trans BS15 ((below_trans ((below_trans ((below_trans ((Below.refl _ _).drew) b151)) b153)) b155))) (nl15.later ((below_trans ((below_trans (Below.refl _ _) b153)) b155))) (sT15.later ((below_trans (Below.refl _ _) b155))) (sN15.later ((below_trans (Below.refl _ _) b155))) (rs15.later (Below.refl _ _))).mono ?_
                  rintro e u156 ⟨rfl, b156⟩
                  refine hK.out _ _ ?_ (fun hHeld => ?_)
                  · ((try dsimp only); exact below_trans hHeld b156)
                  clear hK K
                  try simp only [Act.put, List.setIfInBounds_toArray, List.set_cons_zero, List.set_cons_succ]
                  refine wpAnyH_take (i := 7) (oi := nmO15x7) (v := ?_) rfl (by kernel_rfl) (by kernel_rfl) (by kernel_rfl) (fun _ _ _ h => h) (Or.inl ⟨by rfl, ?_⟩) (by assumption) ?_
                  rotate_left
                  · (intro W hSw; (try dsimp only at hSw); have D := SB15.out.later hSw; have e0 := D.at 0; have e1 := D.at 1; clear D; try simp only [nmO15x7]; first | (go_simp; done) | (go_simp; with_reducible rfl))
                  try simp only [nmO15x7, Act.put, List.setIfInBounds_toArray, List.set_cons_zero, List.set_cons_succ]
                  refine wpAnyH_take (i := 8) (oi := nmO15x8) (v := ?_) rfl (by kernel_rfl) (by kernel_rfl) (by kernel_rfl) (fun _ _ _ h => h) (Or.inl ⟨by rfl, ?_⟩) (by assumption) ?_
                  rotate_left
                  · (intro W hSw; (try dsimp only at hSw); have D := SB15.out.later hSw; have e0 := D.at 0; have e1 := D.at 1; clear D; try simp only [nmO15x8]; first | (go_simp; done) | (go_simp; with_reducible rfl))
                  try simp only [nmO15x8, Act.put, List.setIfInBounds_toArray, List.set_cons_zero, List.set_cons_succ]
                  refine wpAnyH_take (i := 9) (oi := nmO15x9) (v := ?_) rfl (by kernel_rfl) (by kernel_rfl) (by kernel_rfl) (fun _ _ _ h => h) (Or.inl ⟨by rfl, ?_⟩) (by assumption) ?_
                  rotate_left
                  · (intro W hSw; (try dsimp only at hSw); have D := SB15.out.later hSw; have e0 := D.at 0; have e1 := D.at 1; clear D; try simp only [nmO15x9]; first | (go_simp; done) | (go_simp; with_reducible rfl))
                  try simp only [nmO15x9, Act.put, List.setIfInBounds_toArray, List.set_cons_zero, List.set_cons_succ]
                  refine wpAnyH_ready (rs := [10]) (by kernel_rfl) (by simp) ?_
                  refine AllReadyH.cons (o := nmO15x10) rfl (fun K hK => ?_) AllReadyH.nil
                  try simp only [nmO15x10]
                  go_simp
                  refine hK.out _ _ ?_ (fun hHeld => ?_)
                  · ((try dsimp only); exact hHeld.alloc hHeld.size _)
                  clear hK K
                  try simp only [Act.put, List.setIfInBounds_toArray, List.set_cons_zero, List.set_cons_succ]
                  have b1510 := (Below.refl _ (u156)).alloc (Nat.le_refl _) (.cells #[.int .i64 0, .int .i64 0, .int .i64 0, .string ⟨#[]⟩] 30)
                  refine wpAnyH_ready (rs := [11]) (by kernel_rfl) (by simp) ?_
                  refine AllReadyH.cons (o := nmO15x11) rfl (fun K hK => ?_) AllReadyH.nil
                  try simp only [nmO15x11]
                  go_simp
                  refine hK.out _ _ ?_ (fun hHeld => ?_)
                  · ((try dsimp only); exact ((((below_trans ((below_trans ((below_trans ((below_trans ((Below.refl _ _).drew) b151)) b153)) b155)) b156)) : Below wL.heap.size wL u156)).alloc ((((below_trans ((below_trans ((below_trans ((below_trans ((Below.refl _ _).drew) b151)) b153)) b155)) b156)) : Below wL.heap.size wL u156)).size _)
                  clear hK K
                  try simp only [Act.put, List.setIfInBounds_toArray, List.set_cons_zero, List.set_cons_succ]
                  refine wpAnyH_take (i := 12) (oi := nmO15x12) (v := ?_) rfl (by kernel_rfl) (by kernel_rfl) (by kernel_rfl) (fun _ _ _ h => h) (Or.inl ⟨by rfl, ?_⟩) (by assumption) ?_
                  rotate_left
                  · (intro W hSw; (try dsimp only at hSw); have D := SB15.out.later hSw; have e0 := D.at 0; have e1 := D.at 1; clear D; try simp only [nmO15x12]; first | (go_simp; done) | (go_simp; with_reducible rfl))
                  try simp only [nmO15x12, Act.put, List.setIfInBounds_toArray, List.set_cons_zero, List.set_cons_succ]
                  refine wpAnyH_done (by kernel_rfl) ?_ _
                  go_wp2_with fail
                  go_meet
                  exact ⟨u156.heap.size, rfl, rfl, ⟨by simp (maxDischargeDepth := 12) [go_sem], by simp (maxDischargeDepth := 12) [go_sem], by simp (maxDischargeDepth := 12) [go_sem], by simp (maxDischargeDepth := 12) [go_sem]⟩, (show Below wL.heap.size wL _ from ((below_trans ((below_trans ((below_trans ((below_trans ((Below.refl _ _).drew) b151)) b153)) b155)) b156))).size, hHeld⟩
                ·
                  try simp only [nmO15x10]
                  go_simp
                  refine hK.out _ _ ?_ (fun hHeld => ?_)
                  · ((try dsimp only); exact hHeld.alloc hHeld.size _)
                  clear hK K
                  try simp only [Act.put, List.setIfInBounds_toArray, List.set_cons_zero, List.set_cons_succ]
                  have b1510 := (Below.refl _ (u155)).alloc (Nat.le_refl _) (.cells #[.int .i64 0, .int .i64 0, .int .i64 0, .string ⟨#[]⟩] 30)
                  refine wpAnyH_ready (rs := [6]) (by kernel_rfl) (by simp) ?_
                  refine AllReadyH.cons (o := nmO15x6) rfl (fun K hK => ?_) AllReadyH.nil
                  try simp only [nmO15x6]
                  go_simp
                  go_wp2_with fail
                  refine (EV1H.out _ la15 lc15 ta15 na15 tc15 nc15 ra15 rc15 (below_trans BS15 ((below_trans ((below_trans ((below_trans ((below_trans ((Below.refl _ _).drew) b151)) b153)) b155)) b1510))) (nl15.later ((below_trans ((below_trans ((below_trans (Below.refl _ _) b153)) b155)) b1510))) (sT15.later ((below_trans ((below_trans (Below.refl _ _) b155)) b1510))) (sN15.later ((below_trans ((below_trans (Below.refl _ _) b155)) b1510))) (rs15.later ((below_trans (Below.refl _ _) b1510)))).mono ?_
                  rintro e u156 ⟨rfl, b156⟩
                  have bx : Box u156 u155.heap.size nul := (Box.new u155 0 0 0 []).later ((below_trans (Below.refl _ _) b156))
                  have y0 := bx.at4.1
                  have y1 := bx.at4.2.1
                  have y2 := bx.at4.2.2.1
                  have y3 := bx.at4.2.2.2
                  have yl := bx.lt
                  have g0 := bx.free 0
                  have g1 := bx.free 1
                  have g2 := bx.free 2
                  have g3 := bx.free 3
                  dsimp only [nul] at y0 y1 y2 y3
                  simp only [Nat.zero_add] at y1 y2 y3
                  clear bx
                  refine hK.out _ _ ?_ (fun hHeld => ?_)
                  · ((try dsimp only); exact below_trans hHeld b156)
                  clear hK K
                  try simp only [Act.put, List.setIfInBounds_toArray, List.set_cons_zero, List.set_cons_succ]
                  refine wpAnyH_take (i := 7) (oi := nmO15x7) (v := ?_) rfl (by kernel_rfl) (by kernel_rfl) (by kernel_rfl) (fun _ _ _ h => h) (Or.inl ⟨by rfl, ?_⟩) (by assumption) ?_
                  rotate_left
                  · (intro W hSw; (try dsimp only at hSw); have D := SB15.out.later hSw; have e0 := D.at 0; have e1 := D.at 1; clear D; try simp only [nmO15x7]; first | (go_simp; done) | (go_simp; with_reducible rfl))
                  try simp only [nmO15x7, Act.put, List.setIfInBounds_toArray, List.set_cons_zero, List.set_cons_succ]
                  refine wpAnyH_take (i := 8) (oi := nmO15x8) (v := ?_) rfl (by kernel_rfl) (by kernel_rfl) (by kernel_rfl) (fun _ _ _ h => h) (Or.inl ⟨by rfl, ?_⟩) (by assumption) ?_
                  rotate_left
                  · (intro W hSw; (try dsimp only at hSw); have D := SB15.out.later hSw; have e0 := D.at 0; have e1 := D.at 1; clear D; try simp only [nmO15x8]; first | (go_simp; done) | (go_simp; with_reducible rfl))
                  try simp only [nmO15x8, Act.put, List.setIfInBounds_toArray, List.set_cons_zero, List.set_cons_succ]
                  refine wpAnyH_take (i := 9) (oi := nmO15x9) (v := ?_) rfl (by kernel_rfl) (by kernel_rfl) (by kernel_rfl) (fun _ _ _ h => h) (Or.inl ⟨by rfl, ?_⟩) (by assumption) ?_
                  rotate_left
                  · (intro W hSw; (try dsimp only at hSw); have D := SB15.out.later hSw; have e0 := D.at 0; have e1 := D.at 1; clear D; try simp only [nmO15x9]; first | (go_simp; done) | (go_simp; with_reducible rfl))
                  try simp only [nmO15x9, Act.put, List.setIfInBounds_toArray, List.set_cons_zero, List.set_cons_succ]
                  refine wpAnyH_ready (rs := [11]) (by kernel_rfl) (by simp) ?_
                  refine AllReadyH.cons (o := nmO15x11) rfl (fun K hK => ?_) AllReadyH.nil
                  try simp only [nmO15x11]
                  go_simp
                  refine hK.out _ _ ?_ (fun hHeld => ?_)
                  · ((try dsimp only); exact res_kept (q := u155.heap.size) hHeld (show Below wL.heap.size wL _ from ((below_trans ((below_trans ((below_trans ((Below.refl _ _).drew) b151)) b153)) b155))).size _ _ _ _)
                  clear hK K
                  try simp only [Act.put, List.setIfInBounds_toArray, List.set_cons_zero, List.set_cons_succ]
                  refine wpAnyH_take (i := 12) (oi := nmO15x12) (v := ?_) rfl (by kernel_rfl) (by kernel_rfl) (by kernel_rfl) (fun _ _ _ h => h) (Or.inl ⟨by rfl, ?_⟩) (by assumption) ?_
                  rotate_left
                  · (intro W hSw; (try dsimp only at hSw); have D := SB15.out.later hSw; have e0 := D.at 0; have e1 := D.at 1; clear D; try simp only [nmO15x12]; first | (go_simp; done) | (go_simp; with_reducible rfl))
                  try simp only [nmO15x12, Act.put, List.setIfInBounds_toArray, List.set_cons_zero, List.set_cons_succ]
                  refine wpAnyH_done (by kernel_rfl) ?_ _
                  go_wp2_with fail
                  go_meet
                  exact ⟨u155.heap.size, rfl, rfl, ⟨by simp (maxDischargeDepth := 12) [go_sem, y0], by simp (maxDischargeDepth := 12) [go_sem, y1], by simp (maxDischargeDepth := 12) [go_sem, y2], by simp (maxDischargeDepth := 12) [go_sem, y3]⟩, (show Below wL.heap.size wL _ from ((below_trans ((below_trans ((below_trans ((Below.refl _ _).drew) b151)) b153)) b155))).size, hHeld⟩
              ·
                try simp only [nmO15x10]
                go_simp
                refine hK.out _ _ ?_ (fun hHeld => ?_)
                · ((try dsimp only); exact hHeld.alloc hHeld.size _)
                clear hK K
                try simp only [Act.put, List.setIfInBounds_toArray, List.set_cons_zero, List.set_cons_succ]
                have b1510 := (Below.refl _ (u153)).alloc (Nat.le_refl _) (.cells #[.int .i64 0, .int .i64 0, .int .i64 0, .string ⟨#[]⟩] 30)
                refine wpAnyH_ready (rs := [5]) (by kernel_rfl) (by simp) ?_
                refine AllReadyH.cons (o := nmO15x5) rfl (fun K hK => ?_) AllReadyH.nil
                try simp only [nmO15x5]
                go_simp
                go_wp2_with fail
                refine (VOW.out _ (below_trans BS15 ((below_trans ((below_trans ((below_trans ((Below.refl _ _).drew) b151)) b153)) b1510)))).mono ?_
                rintro e u155 ⟨⟨vv15, rfl, ok15⟩, b155⟩
                obtain ⟨ra15, rc15, hve, rs15⟩ := vk_vs ok15
                rw [HR.out] at hve
                subst hve
                refine hK.out _ _ ?_ (fun hHeld => ?_)
                · ((try dsimp only); exact below_trans hHeld b155)
                clear hK K
                try simp only [Act.put, List.setIfInBounds_toArray, List.set_cons_zero, List.set_cons_succ]
                refine wpAnyH_ready (rs := [6]) (by kernel_rfl) (by simp) ?_
                refine AllReadyH.cons (o := nmO15x6) rfl (fun K hK => ?_) AllReadyH.nil
                try simp only [nmO15x6]
                go_simp
                go_wp2_with fail
                refine (EV1H.out _ la15 lc15 ta15 na15 tc15 nc15 ra15 rc15 (below_trans BS15 ((below_trans ((below_trans ((below_trans ((below_trans ((Below.refl _ _).drew) b151)) b153)) b1510)) b155))) (nl15.later ((below_trans ((below_trans ((below_trans (Below.refl _ _) b153)) b1510)) b155))) (sT15.later ((below_trans ((below_trans (Below.refl _ _) b1510)) b155))) (sN15.later ((below_trans ((below_trans (Below.refl _ _) b1510)) b155))) (rs15.later (Below.refl _ _))).mono ?_
                rintro e u156 ⟨rfl, b156⟩
                have bx : Box u156 u153.heap.size nul := (Box.new u153 0 0 0 []).later ((below_trans ((below_trans (Below.refl _ _) b155)) b156))
                have y0 := bx.at4.1
                have y1 := bx.at4.2.1
                have y2 := bx.at4.2.2.1
                have y3 := bx.at4.2.2.2
                have yl := bx.lt
                have g0 := bx.free 0
                have g1 := bx.free 1
                have g2 := bx.free 2
                have g3 := bx.free 3
                dsimp only [nul] at y0 y1 y2 y3
                simp only [Nat.zero_add] at y1 y2 y3
                clear bx
                refine hK.out _ _ ?_ (fun hHeld => ?_)
                · ((try dsimp only); exact below_trans hHeld b156)
                clear hK K
                try simp only [Act.put, List.setIfInBounds_toArray, List.set_cons_zero, List.set_cons_succ]
                refine wpAnyH_take (i := 7) (oi := nmO15x7) (v := ?_) rfl (by kernel_rfl) (by kernel_rfl) (by kernel_rfl) (fun _ _ _ h => h) (Or.inl ⟨by rfl, ?_⟩) (by assumption) ?_
                rotate_left
                · (intro W hSw; (try dsimp only at hSw); have D := SB15.out.later hSw; have e0 := D.at 0; have e1 := D.at 1; clear D; try simp only [nmO15x7]; first | (go_simp; done) | (go_simp; with_reducible rfl))
                try simp only [nmO15x7, Act.put, List.setIfInBounds_toArray, List.set_cons_zero, List.set_cons_succ]
                refine wpAnyH_take (i := 8) (oi := nmO15x8) (v := ?_) rfl (by kernel_rfl) (by kernel_rfl) (by kernel_rfl) (fun _ _ _ h => h) (Or.inl ⟨by rfl, ?_⟩) (by assumption) ?_
                rotate_left
                · (intro W hSw; (try dsimp only at hSw); have D := SB15.out.later hSw; have e0 := D.at 0; have e1 := D.at 1; clear D; try simp only [nmO15x8]; first | (go_simp; done) | (go_simp; with_reducible rfl))
                try simp only [nmO15x8, Act.put, List.setIfInBounds_toArray, List.set_cons_zero, List.set_cons_succ]
                refine wpAnyH_take (i := 9) (oi := nmO15x9) (v := ?_) rfl (by kernel_rfl) (by kernel_rfl) (by kernel_rfl) (fun _ _ _ h => h) (Or.inl ⟨by rfl, ?_⟩) (by assumption) ?_
                rotate_left
                · (intro W hSw; (try dsimp only at hSw); have D := SB15.out.later hSw; have e0 := D.at 0; have e1 := D.at 1; clear D; try simp only [nmO15x9]; first | (go_simp; done) | (go_simp; with_reducible rfl))
                try simp only [nmO15x9, Act.put, List.setIfInBounds_toArray, List.set_cons_zero, List.set_cons_succ]
                refine wpAnyH_ready (rs := [11]) (by kernel_rfl) (by simp) ?_
                refine AllReadyH.cons (o := nmO15x11) rfl (fun K hK => ?_) AllReadyH.nil
                try simp only [nmO15x11]
                go_simp
                refine hK.out _ _ ?_ (fun hHeld => ?_)
                · ((try dsimp only); exact res_kept (q := u153.heap.size) hHeld (show Below wL.heap.size wL _ from ((below_trans ((below_trans ((Below.refl _ _).drew) b151)) b153))).size _ _ _ _)
                clear hK K
                try simp only [Act.put, List.setIfInBounds_toArray, List.set_cons_zero, List.set_cons_succ]
                refine wpAnyH_take (i := 12) (oi := nmO15x12) (v := ?_) rfl (by kernel_rfl) (by kernel_rfl) (by kernel_rfl) (fun _ _ _ h => h) (Or.inl ⟨by rfl, ?_⟩) (by assumption) ?_
                rotate_left
                · (intro W hSw; (try dsimp only at hSw); have D := SB15.out.later hSw; have e0 := D.at 0; have e1 := D.at 1; clear D; try simp only [nmO15x12]; first | (go_simp; done) | (go_simp; with_reducible rfl))
                try simp only [nmO15x12, Act.put, List.setIfInBounds_toArray, List.set_cons_zero, List.set_cons_succ]
                refine wpAnyH_done (by kernel_rfl) ?_ _
                go_wp2_with fail
                go_meet
                exact ⟨u153.heap.size, rfl, rfl, ⟨by simp (maxDischargeDepth := 12) [go_sem, y0], by simp (maxDischargeDepth := 12) [go_sem, y1], by simp (maxDischargeDepth := 12) [go_sem, y2], by simp (maxDischargeDepth := 12) [go_sem, y3]⟩, (show Below wL.heap.size wL _ from ((below_trans ((below_trans ((Below.refl _ _).drew) b151)) b153))).size, hHeld⟩
            ·
              try simp only [nmO15x10]
              go_simp
              refine hK.out _ _ ?_ (fun hHeld => ?_)
              · ((try dsimp only); exact hHeld.alloc hHeld.size _)
              clear hK K
              try simp only [Act.put, List.setIfInBounds_toArray, List.set_cons_zero, List.set_cons_succ]
              have b1510 := (Below.refl _ (u151)).alloc (Nat.le_refl _) (.cells #[.int .i64 0, .int .i64 0, .int .i64 0, .string ⟨#[]⟩] 30)
              refine wpAnyH_ready (rs := [3]) (by kernel_rfl) (by simp) ?_
              refine AllReadyH.cons (o := nmO15x3) rfl (fun K hK => ?_) AllReadyH.nil
              try simp only [nmO15x3]
              go_simp
              go_wp2_with fail
              refine (SCO.out _ (below_trans BS15 ((below_trans ((below_trans ((Below.refl _ _).drew) b151)) b1510)))).mono ?_
              rintro e u153 ⟨⟨ta15, na15, tc15, nc15, rfl, sT15, sN15⟩, b153⟩
              refine hK.out _ _ ?_ (fun hHeld => ?_)
              · ((try dsimp only); exact below_trans hHeld b153)
              clear hK K
              try simp only [Act.put, List.setIfInBounds_toArray, List.set_cons_zero, List.set_cons_succ]
              refine wpAnyH_ready (rs := [5]) (by kernel_rfl) (by simp) ?_
              refine AllReadyH.cons (o := nmO15x5) rfl (fun K hK => ?_) AllReadyH.nil
              try simp only [nmO15x5]
              go_simp
              go_wp2_with fail
              refine (VOW.out _ (below_trans BS15 ((below_trans ((below_trans ((below_trans ((Below.refl _ _).drew) b151)) b1510)) b153)))).mono ?_
              rintro e u155 ⟨⟨vv15, rfl, ok15⟩, b155⟩
              obtain ⟨ra15, rc15, hve, rs15⟩ := vk_vs ok15
              rw [HR.out] at hve
              subst hve
              refine hK.out _ _ ?_ (fun hHeld => ?_)
              · ((try dsimp only); exact below_trans hHeld b155)
              clear hK K
              try simp only [Act.put, List.setIfInBounds_toArray, List.set_cons_zero, List.set_cons_succ]
              refine wpAnyH_ready (rs := [6]) (by kernel_rfl) (by simp) ?_
              refine AllReadyH.cons (o := nmO15x6) rfl (fun K hK => ?_) AllReadyH.nil
              try simp only [nmO15x6]
              go_simp
              go_wp2_with fail
              refine (EV1H.out _ la15 lc15 ta15 na15 tc15 nc15 ra15 rc15 (below_trans BS15 ((below_trans ((below_trans ((below_trans ((below_trans ((Below.refl _ _).drew) b151)) b1510)) b153)) b155))) (nl15.later ((below_trans ((below_trans ((below_trans (Below.refl _ _) b1510)) b153)) b155))) (sT15.later ((below_trans (Below.refl _ _) b155))) (sN15.later ((below_trans (Below.refl _ _) b155))) (rs15.later (Below.refl _ _))).mono ?_
              rintro e u156 ⟨rfl, b156⟩
              have bx : Box u156 u151.heap.size nul := (Box.new u151 0 0 0 []).later ((below_trans ((below_trans ((below_trans (Below.refl _ _) b153)) b155)) b156))
              have y0 := bx.at4.1
              have y1 := bx.at4.2.1
              have y2 := bx.at4.2.2.1
              have y3 := bx.at4.2.2.2
              have yl := bx.lt
              have g0 := bx.free 0
              have g1 := bx.free 1
              have g2 := bx.free 2
              have g3 := bx.free 3
              dsimp only [nul] at y0 y1 y2 y3
              simp only [Nat.zero_add] at y1 y2 y3
              clear bx
              refine hK.out _ _ ?_ (fun hHeld => ?_)
              · ((try dsimp only); exact below_trans hHeld b156)
              clear hK K
              try simp only [Act.put, List.setIfInBounds_toArray, List.set_cons_zero, List.set_cons_succ]
              refine wpAnyH_take (i := 7) (oi := nmO15x7) (v := ?_) rfl (by kernel_rfl) (by kernel_rfl) (by kernel_rfl) (fun _ _ _ h => h) (Or.inl ⟨by rfl, ?_⟩) (by assumption) ?_
              rotate_left
              · (intro W hSw; (try dsimp only at hSw); have D := SB15.out.later hSw; have e0 := D.at 0; have e1 := D.at 1; clear D; try simp only [nmO15x7]; first | (go_simp; done) | (go_simp; with_reducible rfl))
              try simp only [nmO15x7, Act.put, List.setIfInBounds_toArray, List.set_cons_zero, List.set_cons_succ]
              refine wpAnyH_take (i := 8) (oi := nmO15x8) (v := ?_) rfl (by kernel_rfl) (by kernel_rfl) (by kernel_rfl) (fun _ _ _ h => h) (Or.inl ⟨by rfl, ?_⟩) (by assumption) ?_
              rotate_left
              · (intro W hSw; (try dsimp only at hSw); have D := SB15.out.later hSw; have e0 := D.at 0; have e1 := D.at 1; clear D; try simp only [nmO15x8]; first | (go_simp; done) | (go_simp; with_reducible rfl))
              try simp only [nmO15x8, Act.put, List.setIfInBounds_toArray, List.set_cons_zero, List.set_cons_succ]
              refine wpAnyH_take (i := 9) (oi := nmO15x9) (v := ?_) rfl (by kernel_rfl) (by kernel_rfl) (by kernel_rfl) (fun _ _ _ h => h) (Or.inl ⟨by rfl, ?_⟩) (by assumption) ?_
              rotate_left
              · (intro W hSw; (try dsimp only at hSw); have D := SB15.out.later hSw; have e0 := D.at 0; have e1 := D.at 1; clear D; try simp only [nmO15x9]; first | (go_simp; done) | (go_simp; with_reducible rfl))
              try simp only [nmO15x9, Act.put, List.setIfInBounds_toArray, List.set_cons_zero, List.set_cons_succ]
              refine wpAnyH_ready (rs := [11]) (by kernel_rfl) (by simp) ?_
              refine AllReadyH.cons (o := nmO15x11) rfl (fun K hK => ?_) AllReadyH.nil
              try simp only [nmO15x11]
              go_simp
              refine hK.out _ _ ?_ (fun hHeld => ?_)
              · ((try dsimp only); exact res_kept (q := u151.heap.size) hHeld (show Below wL.heap.size wL _ from ((below_trans ((Below.refl _ _).drew) b151))).size _ _ _ _)
              clear hK K
              try simp only [Act.put, List.setIfInBounds_toArray, List.set_cons_zero, List.set_cons_succ]
              refine wpAnyH_take (i := 12) (oi := nmO15x12) (v := ?_) rfl (by kernel_rfl) (by kernel_rfl) (by kernel_rfl) (fun _ _ _ h => h) (Or.inl ⟨by rfl, ?_⟩) (by assumption) ?_
              rotate_left
              · (intro W hSw; (try dsimp only at hSw); have D := SB15.out.later hSw; have e0 := D.at 0; have e1 := D.at 1; clear D; try simp only [nmO15x12]; first | (go_simp; done) | (go_simp; with_reducible rfl))
              try simp only [nmO15x12, Act.put, List.setIfInBounds_toArray, List.set_cons_zero, List.set_cons_succ]
              refine wpAnyH_done (by kernel_rfl) ?_ _
              go_wp2_with fail
              go_meet
              exact ⟨u151.heap.size, rfl, rfl, ⟨by simp (maxDischargeDepth := 12) [go_sem, y0], by simp (maxDischargeDepth := 12) [go_sem, y1], by simp (maxDischargeDepth := 12) [go_sem, y2], by simp (maxDischargeDepth := 12) [go_sem, y3]⟩, (show Below wL.heap.size wL _ from ((below_trans ((Below.refl _ _).drew) b151))).size, hHeld⟩
          ·
            try simp only [nmO15x10]
            go_simp
            refine hK.out _ _ ?_ (fun hHeld => ?_)
            · ((try dsimp only); exact hHeld.alloc hHeld.size _)
            clear hK K
            try simp only [Act.put, List.setIfInBounds_toArray, List.set_cons_zero, List.set_cons_succ]
            have b1510 := (Below.refl _ (wL.drew)).alloc (Nat.le_refl _) (.cells #[.int .i64 0, .int .i64 0, .int .i64 0, .string ⟨#[]⟩] 30)
            refine wpAnyH_ready (rs := [1]) (by kernel_rfl) (by simp) ?_
            refine AllReadyH.cons (o := nmO15x1) rfl (fun K hK => ?_) AllReadyH.nil
            try simp only [nmO15x1]
            go_simp
            go_wp2_with fail
            refine (OW.out _ (below_trans BS15 ((below_trans ((Below.refl _ _).drew) b1510)))).mono ?_
            rintro e u151 ⟨⟨la15, lc15, rfl, nl15, _⟩, b151⟩
            refine hK.out _ _ ?_ (fun hHeld => ?_)
            · ((try dsimp only); exact below_trans hHeld b151)
            clear hK K
            try simp only [Act.put, List.setIfInBounds_toArray, List.set_cons_zero, List.set_cons_succ]
            refine wpAnyH_ready (rs := [3]) (by kernel_rfl) (by simp) ?_
            refine AllReadyH.cons (o := nmO15x3) rfl (fun K hK => ?_) AllReadyH.nil
            try simp only [nmO15x3]
            go_simp
            go_wp2_with fail
            refine (SCO.out _ (below_trans BS15 ((below_trans ((below_trans ((Below.refl _ _).drew) b1510)) b151)))).mono ?_
            rintro e u153 ⟨⟨ta15, na15, tc15, nc15, rfl, sT15, sN15⟩, b153⟩
            refine hK.out _ _ ?_ (fun hHeld => ?_)
            · ((try dsimp only); exact below_trans hHeld b153)
            clear hK K
            try simp only [Act.put, List.setIfInBounds_toArray, List.set_cons_zero, List.set_cons_succ]
            refine wpAnyH_ready (rs := [5]) (by kernel_rfl) (by simp) ?_
            refine AllReadyH.cons (o := nmO15x5) rfl (fun K hK => ?_) AllReadyH.nil
            try simp only [nmO15x5]
            go_simp
            go_wp2_with fail
            refine (VOW.out _ (below_trans BS15 ((below_trans ((below_trans ((below_trans ((Below.refl _ _).drew) b1510)) b151)) b153)))).mono ?_
            rintro e u155 ⟨⟨vv15, rfl, ok15⟩, b155⟩
            obtain ⟨ra15, rc15, hve, rs15⟩ := vk_vs ok15
            rw [HR.out] at hve
            subst hve
            refine hK.out _ _ ?_ (fun hHeld => ?_)
            · ((try dsimp only); exact below_trans hHeld b155)
            clear hK K
            try simp only [Act.put, List.setIfInBounds_toArray, List.set_cons_zero, List.set_cons_succ]
            refine wpAnyH_ready (rs := [6]) (by kernel_rfl) (by simp) ?_
            refine AllReadyH.cons (o := nmO15x6) rfl (fun K hK => ?_) AllReadyH.nil
            try simp only [nmO15x6]
            go_simp
            go_wp2_with fail
            refine (EV1H.out _ la15 lc15 ta15 na15 tc15 nc15 ra15 rc15 (below_trans BS15 ((below_trans ((below_trans ((below_trans ((below_trans ((Below.refl _ _).drew) b1510)) b151)) b153)) b155))) (nl15.later ((below_trans ((below_trans (Below.refl _ _) b153)) b155))) (sT15.later ((below_trans (Below.refl _ _) b155))) (sN15.later ((below_trans (Below.refl _ _) b155))) (rs15.later (Below.refl _ _))).mono ?_
            rintro e u156 ⟨rfl, b156⟩
            have bx : Box u156 wL.heap.size nul := (Box.new wL.drew 0 0 0 []).later ((below_trans ((below_trans ((below_trans ((below_trans (Below.refl _ _) b151)) b153)) b155)) b156))
            have y0 := bx.at4.1
            have y1 := bx.at4.2.1
            have y2 := bx.at4.2.2.1
            have y3 := bx.at4.2.2.2
            have yl := bx.lt
            have g0 := bx.free 0
            have g1 := bx.free 1
            have g2 := bx.free 2
            have g3 := bx.free 3
            dsimp only [nul] at y0 y1 y2 y3
            simp only [Nat.zero_add] at y1 y2 y3
            clear bx
            refine hK.out _ _ ?_ (fun hHeld => ?_)
            · ((try dsimp only); exact below_trans hHeld b156)
            clear hK K
            try simp only [Act.put, List.setIfInBounds_toArray, List.set_cons_zero, List.set_cons_succ]
            refine wpAnyH_take (i := 7) (oi := nmO15x7) (v := ?_) rfl (by kernel_rfl) (by kernel_rfl) (by kernel_rfl) (fun _ _ _ h => h) (Or.inl ⟨by rfl, ?_⟩) (by assumption) ?_
            rotate_left
            · (intro W hSw; (try dsimp only at hSw); have D := SB15.out.later hSw; have e0 := D.at 0; have e1 := D.at 1; clear D; try simp only [nmO15x7]; first | (go_simp; done) | (go_simp; with_reducible rfl))
            try simp only [nmO15x7, Act.put, List.setIfInBounds_toArray, List.set_cons_zero, List.set_cons_succ]
            refine wpAnyH_take (i := 8) (oi := nmO15x8) (v := ?_) rfl (by kernel_rfl) (by kernel_rfl) (by kernel_rfl) (fun _ _ _ h => h) (Or.inl ⟨by rfl, ?_⟩) (by assumption) ?_
            rotate_left
            · (intro W hSw; (try dsimp only at hSw); have D := SB15.out.later hSw; have e0 := D.at 0; have e1 := D.at 1; clear D; try simp only [nmO15x8]; first | (go_simp; done) | (go_simp; with_reducible rfl))
            try simp only [nmO15x8, Act.put, List.setIfInBounds_toArray, List.set_cons_zero, List.set_cons_succ]
            refine wpAnyH_take (i := 9) (oi := nmO15x9) (v := ?_) rfl (by kernel_rfl) (by kernel_rfl) (by kernel_rfl) (fun _ _ _ h => h) (Or.inl ⟨by rfl, ?_⟩) (by assumption) ?_
            rotate_left
            · (intro W hSw; (try dsimp only at hSw); have D := SB15.out.later hSw; have e0 := D.at 0; have e1 := D.at 1; clear D; try simp only [nmO15x9]; first | (go_simp; done) | (go_simp; with_reducible rfl))
            try simp only [nmO15x9, Act.put, List.setIfInBounds_toArray, List.set_cons_zero, List.set_cons_succ]
            refine wpAnyH_ready (rs := [11]) (by kernel_rfl) (by simp) ?_
            refine AllReadyH.cons (o := nmO15x11) rfl (fun K hK => ?_) AllReadyH.nil
            try simp only [nmO15x11]
            go_simp
            refine hK.out _ _ ?_ (fun hHeld => ?_)
            · ((try dsimp only); exact res_kept (q := wL.heap.size) hHeld (show Below wL.heap.size wL _ from ((Below.refl _ _).drew)).size _ _ _ _)
            clear hK K
            try simp only [Act.put, List.setIfInBounds_toArray, List.set_cons_zero, List.set_cons_succ]
            refine wpAnyH_take (i := 12) (oi := nmO15x12) (v := ?_) rfl (by kernel_rfl) (by kernel_rfl) (by kernel_rfl) (fun _ _ _ h => h) (Or.inl ⟨by rfl, ?_⟩) (by assumption) ?_
            rotate_left
            · (intro W hSw; (try dsimp only at hSw); have D := SB15.out.later hSw; have e0 := D.at 0; have e1 := D.at 1; clear D; try simp only [nmO15x12]; first | (go_simp; done) | (go_simp; with_reducible rfl))
            try simp only [nmO15x12, Act.put, List.setIfInBounds_toArray, List.set_cons_zero, List.set_cons_succ]
            refine wpAnyH_done (by kernel_rfl) ?_ _
            go_wp2_with fail
            go_meet
            exact ⟨wL.heap.size, rfl, rfl, ⟨by simp (maxDischargeDepth := 12) [go_sem, y0], by simp (maxDischargeDepth := 12) [go_sem, y1], by simp (maxDischargeDepth := 12) [go_sem, y2], by simp (maxDischargeDepth := 12) [go_sem, y3]⟩, (show Below wL.heap.size wL _ from ((Below.refl _ _).drew)).size, hHeld⟩
      rename World => wx
      obtain ⟨p, rfl, rfl, h4, hp, b15⟩ := hcut
      have BS16 := below_trans BL b15
      have SB16 : Hid (Cbox wx w.heap.size #[.slice ta m tc, .slice na m nc] 53) := SB15.out.later b15
      have CV : Hid (Vs wx so cur) := CVL.out.later b15
      have H4 : Hid (At4 wx p 0 ⟨vk, vn, vm, vb⟩) := h4
      clear h4 CVL SB15 BS15
      go_wp2_with fail
      go_cut [16, 17] from 105 (fun sA sB wn => ∃ p : Nat, sA = .pointer (some ⟨p, 0, none⟩) ∧ sB = .int .i64 ek ∧ At4 wn p 0 ⟨vk, vn, vm, vb⟩ ∧ wx.heap.size ≤ p ∧ Below wx.heap.size wx wn)
      case first =>
        as_aux_lemma =>
          refine wp_region_held_drew (S := (fun W => Below wx.heap.size wx W)) (by kernel_rfl) ?_ (fun hHeld => ?_)
          · ((try dsimp only); exact (Below.refl _ _).drew)
          refine wpAnyH_take (i := 0) (oi := nmO16x0) (v := ?_) rfl (by kernel_rfl) (by kernel_rfl) (by kernel_rfl) (fun _ _ _ h => h) (Or.inl ⟨by rfl, ?_⟩) (by assumption) ?_
          rotate_left
          · (intro W hSw; (try dsimp only at hSw); have D := SB16.out.later hSw; have e0 := D.at 0; have e1 := D.at 1; clear D; try simp only [nmO16x0]; first | (go_simp; done) | (go_simp; with_reducible rfl))
          try simp only [nmO16x0, Act.put, List.setIfInBounds_toArray, List.set_cons_zero, List.set_cons_succ]
          refine wpAnyH_take (i := 2) (oi := nmO16x2) (v := ?_) rfl (by kernel_rfl) (by kernel_rfl) (by kernel_rfl) (fun _ _ _ h => h) (Or.inl ⟨by rfl, ?_⟩) (by assumption) ?_
          rotate_left
          · (intro W hSw; (try dsimp only at hSw); have D := SB16.out.later hSw; have e0 := D.at 0; have e1 := D.at 1; clear D; try simp only [nmO16x2]; first | (go_simp; done) | (go_simp; with_reducible rfl))
          try simp only [nmO16x2, Act.put, List.setIfInBounds_toArray, List.set_cons_zero, List.set_cons_succ]
          refine wpAnyH_take (i := 4) (oi := nmO16x4) (v := ?_) rfl (by kernel_rfl) (by kernel_rfl) (by kernel_rfl) (fun _ _ _ h => h) (Or.inl ⟨by rfl, ?_⟩) (by assumption) ?_
          rotate_left
          · (intro W hSw; (try dsimp only at hSw); have D := SB16.out.later hSw; have e0 := D.at 0; have e1 := D.at 1; clear D; try simp only [nmO16x4]; first | (go_simp; done) | (go_simp; with_reducible rfl))
          try simp only [nmO16x4, Act.put, List.setIfInBounds_toArray, List.set_cons_zero, List.set_cons_succ]
          refine wpAnyH_ready (rs := [1, 9]) (by kernel_rfl) (by simp) ?_
          refine AllReadyH.cons (o := nmO16x1) rfl (fun K hK => ?_) (AllReadyH.cons (o := nmO16x9) rfl (fun K hK => ?_) AllReadyH.nil)
          ·
            try simp only [nmO16x1]
            go_simp
            go_wp2_with fail
            refine (OW.out _ (below_trans BS16 ((Below.refl _ _).drew))).mono ?_
            rintro e u161 ⟨⟨la16, lc16, rfl, nl16, _⟩, b161⟩
            refine hK.out _ _ ?_ (fun hHeld => ?_)
            · ((try dsimp only); exact below_trans hHeld b161)
            clear hK K
            try simp only [Act.put, List.setIfInBounds_toArray, List.set_cons_zero, List.set_cons_succ]
            refine wpAnyH_ready (rs := [3, 9]) (by kernel_rfl) (by simp) ?_
            refine AllReadyH.cons (o := nmO16x3) rfl (fun K hK => ?_) (AllReadyH.cons (o := nmO16x9) rfl (fun K hK => ?_) AllReadyH.nil)
            ·
              try simp only [nmO16x3]
              go_simp
              go_wp2_with fail
              refine (SCO.out _ (below_trans BS16 ((below_trans ((Below.refl _ _).drew) b161)))).mono ?_
              rintro e u163 ⟨⟨ta16, na16, tc16, nc16, rfl, sT16, sN16⟩, b163⟩
              refine hK.out _ _ ?_ (fun hHeld => ?_)
              · ((try dsimp only); exact below_trans hHeld b163)
              clear hK K
              try simp only [Act.put, List.setIfInBounds_toArray, List.set_cons_zero, List.set_cons_succ]
              refine wpAnyH_ready (rs := [5, 9]) (by kernel_rfl) (by simp) ?_
              refine AllReadyH.cons (o := nmO16x5) rfl (fun K hK => ?_) (AllReadyH.cons (o := nmO16x9) rfl (fun K hK => ?_) AllReadyH.nil)
              ·
                try simp only [nmO16x5]
                go_simp
                go_wp2_with fail
                refine (EV2H.out _ la16 lc16 ta16 na16 tc16 nc16 so sc (below_trans BS16 ((below_trans ((below_trans ((Below.refl _ _).drew) b161)) b163))) (nl16.later ((below_trans (Below.refl _ _) b163))) (sT16.later (Below.refl _ _)) (sN16.later (Below.refl _ _)) (CV.out.later ((below_trans ((below_trans ((Below.refl _ _).drew) b161)) b163)))).mono ?_
                rintro e u165 ⟨rfl, b165⟩
                refine hK.out _ _ ?_ (fun hHeld => ?_)
                · ((try dsimp only); exact below_trans hHeld b165)
                clear hK K
                try simp only [Act.put, List.setIfInBounds_toArray, List.set_cons_zero, List.set_cons_succ]
                refine wpAnyH_take (i := 6) (oi := nmO16x6) (v := ?_) rfl (by kernel_rfl) (by kernel_rfl) (by kernel_rfl) (fun _ _ _ h => h) (Or.inl ⟨by rfl, ?_⟩) (by assumption) ?_
                rotate_left
                · (intro W hSw; (try dsimp only at hSw); have D := SB16.out.later hSw; have e0 := D.at 0; have e1 := D.at 1; clear D; try simp only [nmO16x6]; first | (go_simp; done) | (go_simp; with_reducible rfl))
                try simp only [nmO16x6, Act.put, List.setIfInBounds_toArray, List.set_cons_zero, List.set_cons_succ]
                refine wpAnyH_take (i := 7) (oi := nmO16x7) (v := ?_) rfl (by kernel_rfl) (by kernel_rfl) (by kernel_rfl) (fun _ _ _ h => h) (Or.inl ⟨by rfl, ?_⟩) (by assumption) ?_
                rotate_left
                · (intro W hSw; (try dsimp only at hSw); have D := SB16.out.later hSw; have e0 := D.at 0; have e1 := D.at 1; clear D; try simp only [nmO16x7]; first | (go_simp; done) | (go_simp; with_reducible rfl))
                try simp only [nmO16x7, Act.put, List.setIfInBounds_toArray, List.set_cons_zero, List.set_cons_succ]
                refine wpAnyH_take (i := 8) (oi := nmO16x8) (v := ?_) rfl (by kernel_rfl) (by kernel_rfl) (by kernel_rfl) (fun _ _ _ h => h) (Or.inl ⟨by rfl, ?_⟩) (by assumption) ?_
                rotate_left
                · (intro W hSw; (try dsimp only at hSw); have D := SB16.out.later hSw; have e0 := D.at 0; have e1 := D.at 1; clear D; try simp only [nmO16x8]; first | (go_simp; done) | (go_simp; with_reducible rfl))
                try simp only [nmO16x8, Act.put, List.setIfInBounds_toArray, List.set_cons_zero, List.set_cons_succ]
                refine wpAnyH_ready (rs := [9]) (by kernel_rfl) (by simp) ?_
                refine AllReadyH.cons (o := nmO16x9) rfl (fun K hK => ?_) AllReadyH.nil
                try simp only [nmO16x9]
                go_simp
                refine hK.out _ _ ?_ (fun hHeld => ?_)
                · ((try dsimp only); exact hHeld.alloc hHeld.size _)
                clear hK K
                try simp only [Act.put, List.setIfInBounds_toArray, List.set_cons_zero, List.set_cons_succ]
                have b169 := (Below.refl _ (u165)).alloc (Nat.le_refl _) (.cells #[.int .i64 0, .int .i64 0, .int .i64 0, .string ⟨#[]⟩] 30)
                refine wpAnyH_ready (rs := [10]) (by kernel_rfl) (by simp) ?_
                refine AllReadyH.cons (o := nmO16x10) rfl (fun K hK => ?_) AllReadyH.nil
                try simp only [nmO16x10]
                go_simp
                refine hK.out _ _ ?_ (fun hHeld => ?_)
                · ((try dsimp only); exact ((((below_trans ((below_trans ((below_trans ((Below.refl _ _).drew) b161)) b163)) b165)) : Below wx.heap.size wx u165)).alloc ((((below_trans ((below_trans ((below_trans ((Below.refl _ _).drew) b161)) b163)) b165)) : Below wx.heap.size wx u165)).size _)
                clear hK K
                try simp only [Act.put, List.setIfInBounds_toArray, List.set_cons_zero, List.set_cons_succ]
                refine wpAnyH_take (i := 11) (oi := nmO16x11) (v := ?_) rfl (by kernel_rfl) (by kernel_rfl) (by kernel_rfl) (fun _ _ _ h => h) (Or.inl ⟨by rfl, ?_⟩) (by assumption) ?_
                rotate_left
                · (intro W hSw; (try dsimp only at hSw); have D := SB16.out.later hSw; have e0 := D.at 0; have e1 := D.at 1; clear D; try simp only [nmO16x11]; first | (go_simp; done) | (go_simp; with_reducible rfl))
                try simp only [nmO16x11, Act.put, List.setIfInBounds_toArray, List.set_cons_zero, List.set_cons_succ]
                refine wpAnyH_done (by kernel_rfl) ?_ _
                go_wp2_with fail
                go_meet
                exact ⟨u165.heap.size, rfl, rfl, ⟨by simp (maxDischargeDepth := 12) [go_sem], by simp (maxDischargeDepth := 12) [go_sem], by simp (maxDischargeDepth := 12) [go_sem], by simp (maxDischargeDepth := 12) [go_sem]⟩, (show Below wx.heap.size wx _ from ((below_trans ((below_trans ((below_trans ((Below.refl _ _).drew) b161)) b163)) b165))).size, hHeld⟩
              ·
                try simp only [nmO16x9]
                go_simp
                refine hK.out _ _ ?_ (fun hHeld => ?_)
                · ((try dsimp only); exact hHeld.alloc hHeld.size _)
                clear hK K
                try simp only [Act.put, List.setIfInBounds_toArray, List.set_cons_zero, List.set_cons_succ]
                have b169 := (Below.refl _ (u163)).alloc (Nat.le_refl _) (.cells #[.int .i64 0, .int .i64 0, .int .i64 0, .string ⟨#[]⟩] 30)
                refine wpAnyH_ready (rs := [5]) (by kernel_rfl) (by simp) ?_
                refine AllReadyH.cons (o := nmO16x5) rfl (fun K hK => ?_) AllReadyH.nil
                try simp only [nmO16x5]
                go_simp
                go_wp2_with fail
                refine (EV2H.out _ la16 lc16 ta16 na16 tc16 nc16 so sc (below_trans BS16 ((below_trans ((below_trans ((below_trans ((Below.refl _ _).drew) b161)) b163)) b169))) (nl16.later ((below_trans ((below_trans (Below.refl _ _) b163)) b169))) (sT16.later ((below_trans (Below.refl _ _) b169))) (sN16.later ((below_trans (Below.refl _ _) b169))) (CV.out.later ((below_trans ((below_trans ((below_trans ((Below.refl _ _).drew) b161)) b163)) b169)))).mono ?_
                rintro e u165 ⟨rfl, b165⟩
                have bx : Box u165 u163.heap.size nul := (Box.new u163 0 0 0 []).later ((below_trans (Below.refl _ _) b165))
                have y0 := bx.at4.1
                have y1 := bx.at4.2.1
                have y2 := bx.at4.2.2.1
                have y3 := bx.at4.2.2.2
                have yl := bx.lt
                have g0 := bx.free 0
                have g1 := bx.free 1
                have g2 := bx.free 2
                have g3 := bx.free 3
                dsimp only [nul] at y0 y1 y2 y3
                simp only [Nat.zero_add] at y1 y2 y3
                clear bx
                refine hK.out _ _ ?_ (fun hHeld => ?_)
                · ((try dsimp only); exact below_trans hHeld b165)
                clear hK K
                try simp only [Act.put, List.setIfInBounds_toArray, List.set_cons_zero, List.set_cons_succ]
                refine wpAnyH_take (i := 6) (oi := nmO16x6) (v := ?_) rfl (by kernel_rfl) (by kernel_rfl) (by kernel_rfl) (fun _ _ _ h => h) (Or.inl ⟨by rfl, ?_⟩) (by assumption) ?_
                rotate_left
                · (intro W hSw; (try dsimp only at hSw); have D := SB16.out.later hSw; have e0 := D.at 0; have e1 := D.at 1; clear D; try simp only [nmO16x6]; first | (go_simp; done) | (go_simp; with_reducible rfl))
                try simp only [nmO16x6, Act.put, List.setIfInBounds_toArray, List.set_cons_zero, List.set_cons_succ]
                refine wpAnyH_take (i := 7) (oi := nmO16x7) (v := ?_) rfl (by kernel_rfl) (by kernel_rfl) (by kernel_rfl) (fun _ _ _ h => h) (Or.inl ⟨by rfl, ?_⟩) (by assumption) ?_
                rotate_left
                · (intro W hSw; (try dsimp only at hSw); have D := SB16.out.later hSw; have e0 := D.at 0; have e1 := D.at 1; clear D; try simp only [nmO16x7]; first | (go_simp; done) | (go_simp; with_reducible rfl))
                try simp only [nmO16x7, Act.put, List.setIfInBounds_toArray, List.set_cons_zero, List.set_cons_succ]
                refine wpAnyH_take (i := 8) (oi := nmO16x8) (v := ?_) rfl (by kernel_rfl) (by kernel_rfl) (by kernel_rfl) (fun _ _ _ h => h) (Or.inl ⟨by rfl, ?_⟩) (by assumption) ?_
                rotate_left
                · (intro W hSw; (try dsimp only at hSw); have D := SB16.out.later hSw; have e0 := D.at 0; have e1 := D.at 1; clear D; try simp only [nmO16x8]; first | (go_simp; done) | (go_simp; with_reducible rfl))
                try simp only [nmO16x8, Act.put, List.setIfInBounds_toArray, List.set_cons_zero, List.set_cons_succ]
                refine wpAnyH_ready (rs := [10]) (by kernel_rfl) (by simp) ?_
                refine AllReadyH.cons (o := nmO16x10) rfl (fun K hK => ?_) AllReadyH.nil
                try simp only [nmO16x10]
                go_simp
                refine hK.out _ _ ?_ (fun hHeld => ?_)
                · ((try dsimp only); exact res_kept (q := u163.heap.size) hHeld (show Below wx.heap.size wx _ from ((below_trans ((below_trans ((Below.refl _ _).drew) b161)) b163))).size _ _ _ _)
                clear hK K
                try simp only [Act.put, List.setIfInBounds_toArray, List.set_cons_zero, List.set_cons_succ]
                refine wpAnyH_take (i := 11) (oi := nmO16x11) (v := ?_) rfl (by kernel_rfl) (by kernel_rfl) (by kernel_rfl) (fun _ _ _ h => h) (Or.inl ⟨by rfl, ?_⟩) (by assumption) ?_
                rotate_left
                · (intro W hSw; (try dsimp only at hSw); have D := SB16.out.later hSw; have e0 := D.at 0; have e1 := D.at 1; clear D; try simp only [nmO16x11]; first | (go_simp; done) | (go_simp; with_reducible rfl))
                try simp only [nmO16x11, Act.put, List.setIfInBounds_toArray, List.set_cons_zero, List.set_cons_succ]
                refine wpAnyH_done (by kernel_rfl) ?_ _
                go_wp2_with fail
                go_meet
                exact ⟨u163.heap.size, rfl, rfl, ⟨by simp (maxDischargeDepth := 12) [go_sem, y0], by simp (maxDischargeDepth := 12) [go_sem, y1], by simp (maxDischargeDepth := 12) [go_sem, y2], by simp (maxDischargeDepth := 12) [go_sem, y3]⟩, (show Below wx.heap.size wx _ from ((below_trans ((below_trans ((Below.refl _ _).drew) b161)) b163))).size, hHeld⟩
            ·
              try simp only [nmO16x9]
              go_simp
              refine hK.out _ _ ?_ (fun hHeld => ?_)
              · ((try dsimp only); exact hHeld.alloc hHeld.size _)
              clear hK K
              try simp only [Act.put, List.setIfInBounds_toArray, List.set_cons_zero, List.set_cons_succ]
              have b169 := (Below.refl _ (u161)).alloc (Nat.le_refl _) (.cells #[.int .i64 0, .int .i64 0, .int .i64 0, .string ⟨#[]⟩] 30)
              refine wpAnyH_ready (rs := [3]) (by kernel_rfl) (by simp) ?_
              refine AllReadyH.cons (o := nmO16x3) rfl (fun K hK => ?_) AllReadyH.nil
              try simp only [nmO16x3]
              go_simp
              go_wp2_with fail
              refine (SCO.out _ (below_trans BS16 ((below_trans ((below_trans ((Below.refl _ _).drew) b161)) b169)))).mono ?_
              rintro e u163 ⟨⟨ta16, na16, tc16, nc16, rfl, sT16, sN16⟩, b163⟩
              refine hK.out _ _ ?_ (fun hHeld => ?_)
              · ((try dsimp only); exact below_trans hHeld b163)
              clear hK K
              try simp only [Act.put, List.setIfInBounds_toArray, List.set_cons_zero, List.set_cons_succ]
              refine wpAnyH_ready (rs := [5]) (by kernel_rfl) (by simp) ?_
              refine AllReadyH.cons (o := nmO16x5) rfl (fun K hK => ?_) AllReadyH.nil
              try simp only [nmO16x5]
              go_simp
              go_wp2_with fail
              refine (EV2H.out _ la16 lc16 ta16 na16 tc16 nc16 so sc (below_trans BS16 ((below_trans ((below_trans ((below_trans ((Below.refl _ _).drew) b161)) b169)) b163))) (nl16.later ((below_trans ((below_trans (Below.refl _ _) b169)) b163))) (sT16.later (Below.refl _ _)) (sN16.later (Below.refl _ _)) (CV.out.later ((below_trans ((below_trans ((below_trans ((Below.refl _ _).drew) b161)) b169)) b163)))).mono ?_
              rintro e u165 ⟨rfl, b165⟩
              have bx : Box u165 u161.heap.size nul := (Box.new u161 0 0 0 []).later ((below_trans ((below_trans (Below.refl _ _) b163)) b165))
              have y0 := bx.at4.1
              have y1 := bx.at4.2.1
              have y2 := bx.at4.2.2.1
              have y3 := bx.at4.2.2.2
              have yl := bx.lt
              have g0 := bx.free 0
              have g1 := bx.free 1
              have g2 := bx.free 2
              have g3 := bx.free 3
              dsimp only [nul] at y0 y1 y2 y3
              simp only [Nat.zero_add] at y1 y2 y3
              clear bx
              refine hK.out _ _ ?_ (fun hHeld => ?_)
              · ((try dsimp only); exact below_trans hHeld b165)
              clear hK K
              try simp only [Act.put, List.setIfInBounds_toArray, List.set_cons_zero, List.set_cons_succ]
              refine wpAnyH_take (i := 6) (oi := nmO16x6) (v := ?_) rfl (by kernel_rfl) (by kernel_rfl) (by kernel_rfl) (fun _ _ _ h => h) (Or.inl ⟨by rfl, ?_⟩) (by assumption) ?_
              rotate_left
              · (intro W hSw; (try dsimp only at hSw); have D := SB16.out.later hSw; have e0 := D.at 0; have e1 := D.at 1; clear D; try simp only [nmO16x6]; first | (go_simp; done) | (go_simp; with_reducible rfl))
              try simp only [nmO16x6, Act.put, List.setIfInBounds_toArray, List.set_cons_zero, List.set_cons_succ]
              refine wpAnyH_take (i := 7) (oi := nmO16x7) (v := ?_) rfl (by kernel_rfl) (by kernel_rfl) (by kernel_rfl) (fun _ _ _ h => h) (Or.inl ⟨by rfl, ?_⟩) (by assumption) ?_
              rotate_left
              · (intro W hSw; (try dsimp only at hSw); have D := SB16.out.later hSw; have e0 := D.at 0; have e1 := D.at 1; clear D; try simp only [nmO16x7]; first | (go_simp; done) | (go_simp; with_reducible rfl))
              try simp only [nmO16x7, Act.put, List.setIfInBounds_toArray, List.set_cons_zero, List.set_cons_succ]
              refine wpAnyH_take (i := 8) (oi := nmO16x8) (v := ?_) rfl (by kernel_rfl) (by kernel_rfl) (by kernel_rfl) (fun _ _ _ h => h) (Or.inl ⟨by rfl, ?_⟩) (by assumption) ?_
              rotate_left
              · (intro W hSw; (try dsimp only at hSw); have D := SB16.out.later hSw; have e0 := D.at 0; have e1 := D.at 1; clear D; try simp only [nmO16x8]; first | (go_simp; done) | (go_simp; with_reducible rfl))
              try simp only [nmO16x8, Act.put, List.setIfInBounds_toArray, List.set_cons_zero, List.set_cons_succ]
              refine wpAnyH_ready (rs := [10]) (by kernel_rfl) (by simp) ?_
              refine AllReadyH.cons (o := nmO16x10) rfl (fun K hK => ?_) AllReadyH.nil
              try simp only [nmO16x10]
              go_simp
              refine hK.out _ _ ?_ (fun hHeld => ?_)
              · ((try dsimp only); exact res_kept (q := u161.heap.size) hHeld (show Below wx.heap.size wx _ from ((below_trans ((Below.refl _ _).drew) b161))).size _ _ _ _)
              clear hK K
              try simp only [Act.put, List.setIfInBounds_toArray, List.set_cons_zero, List.set_cons_succ]
              refine wpAnyH_take (i := 11) (oi := nmO16x11) (v := ?_) rfl (by kernel_rfl) (by kernel_rfl) (by kernel_rfl) (fun _ _ _ h => h) (Or.inl ⟨by rfl, ?_⟩) (by assumption) ?_
              rotate_left
              · (intro W hSw; (try dsimp only at hSw); have D := SB16.out.later hSw; have e0 := D.at 0; have e1 := D.at 1; clear D; try simp only [nmO16x11]; first | (go_simp; done) | (go_simp; with_reducible rfl))
              try simp only [nmO16x11, Act.put, List.setIfInBounds_toArray, List.set_cons_zero, List.set_cons_succ]
              refine wpAnyH_done (by kernel_rfl) ?_ _
              go_wp2_with fail
              go_meet
              exact ⟨u161.heap.size, rfl, rfl, ⟨by simp (maxDischargeDepth := 12) [go_sem, y0], by simp (maxDischargeDepth := 12) [go_sem, y1], by simp (maxDischargeDepth := 12) [go_sem, y2], by simp (maxDischargeDepth := 12) [go_sem, y3]⟩, (show Below wx.heap.size wx _ from ((below_trans ((Below.refl _ _).drew) b161))).size, hHeld⟩
          ·
            try simp only [nmO16x9]
            go_simp
            refine hK.out _ _ ?_ (fun hHeld => ?_)
            · ((try dsimp only); exact hHeld.alloc hHeld.size _)
            clear hK K
            try simp only [Act.put, List.setIfInBounds_toArray, List.set_cons_zero, List.set_cons_succ]
            have b169 := (Below.refl _ (wx.drew)).alloc (Nat.le_refl _) (.cells #[.int .i64 0, .int .i64 0, .int .i64 0, .string ⟨#[]⟩] 30)
            refine wpAnyH_ready (rs := [1]) (by kernel_rfl) (by simp) ?_
            refine AllReadyH.cons (o := nmO16x1) rfl (fun K hK => ?_) AllReadyH.nil
            try simp only [nmO16x1]
            go_simp
            go_wp2_with fail
            refine (OW.out _ (below_trans BS16 ((below_trans ((Below.refl _ _).drew) b169)))).mono ?_
            rintro e u161 ⟨⟨la16, lc16, rfl, nl16, _⟩, b161⟩
            refine hK.out _ _ ?_ (fun hHeld => ?_)
            · ((try dsimp only); exact below_trans hHeld b161)
            clear hK K
            try simp only [Act.put, List.setIfInBounds_toArray, List.set_cons_zero, List.set_cons_succ]
            refine wpAnyH_ready (rs := [3]) (by kernel_rfl) (by simp) ?_
            refine AllReadyH.cons (o := nmO16x3) rfl (fun K hK => ?_) AllReadyH.nil
            try simp only [nmO16x3]
            go_simp
            go_wp2_with fail
            refine (SCO.out _ (below_trans BS16 ((below_trans ((below_trans ((Below.refl _ _).drew) b169)) b161)))).mono ?_
            rintro e u163 ⟨⟨ta16, na16, tc16, nc16, rfl, sT16, sN16⟩, b163⟩
            refine hK.out _ _ ?_ (fun hHeld => ?_)
            · ((try dsimp only); exact below_trans hHeld b163)
            clear hK K
            try simp only [Act.put, List.setIfInBounds_toArray, List.set_cons_zero, List.set_cons_succ]
            refine wpAnyH_ready (rs := [5]) (by kernel_rfl) (by simp) ?_
            refine AllReadyH.cons (o := nmO16x5) rfl (fun K hK => ?_) AllReadyH.nil
            try simp only [nmO16x5]
            go_simp
            go_wp2_with fail
            refine (EV2H.out _ la16 lc16 ta16 na16 tc16 nc16 so sc (below_trans BS16 ((below_trans ((below_trans ((below_trans ((Below.refl _ _).drew) b169)) b161)) b163))) (nl16.later ((below_trans (Below.refl _ _) b163))) (sT16.later (Below.refl _ _)) (sN16.later (Below.refl _ _)) (CV.out.later ((below_trans ((below_trans ((below_trans ((Below.refl _ _).drew) b169)) b161)) b163)))).mono ?_
            rintro e u165 ⟨rfl, b165⟩
            have bx : Box u165 wx.heap.size nul := (Box.new wx.drew 0 0 0 []).later ((below_trans ((below_trans ((below_trans (Below.refl _ _) b161)) b163)) b165))
            have y0 := bx.at4.1
            have y1 := bx.at4.2.1
            have y2 := bx.at4.2.2.1
            have y3 := bx.at4.2.2.2
            have yl := bx.lt
            have g0 := bx.free 0
            have g1 := bx.free 1
            have g2 := bx.free 2
            have g3 := bx.free 3
            dsimp only [nul] at y0 y1 y2 y3
            simp only [Nat.zero_add] at y1 y2 y3
            clear bx
            refine hK.out _ _ ?_ (fun hHeld => ?_)
            · ((try dsimp only); exact below_trans hHeld b165)
            clear hK K
            try simp only [Act.put, List.setIfInBounds_toArray, List.set_cons_zero, List.set_cons_succ]
            refine wpAnyH_take (i := 6) (oi := nmO16x6) (v := ?_) rfl (by kernel_rfl) (by kernel_rfl) (by kernel_rfl) (fun _ _ _ h => h) (Or.inl ⟨by rfl, ?_⟩) (by assumption) ?_
            rotate_left
            · (intro W hSw; (try dsimp only at hSw); have D := SB16.out.later hSw; have e0 := D.at 0; have e1 := D.at 1; clear D; try simp only [nmO16x6]; first | (go_simp; done) | (go_simp; with_reducible rfl))
            try simp only [nmO16x6, Act.put, List.setIfInBounds_toArray, List.set_cons_zero, List.set_cons_succ]
            refine wpAnyH_take (i := 7) (oi := nmO16x7) (v := ?_) rfl (by kernel_rfl) (by kernel_rfl) (by kernel_rfl) (fun _ _ _ h => h) (Or.inl ⟨by rfl, ?_⟩) (by assumption) ?_
            rotate_left
            · (intro W hSw; (try dsimp only at hSw); have D := SB16.out.later hSw; have e0 := D.at 0; have e1 := D.at 1; clear D; try simp only [nmO16x7]; first | (go_simp; done) | (go_simp; with_reducible rfl))
            try simp only [nmO16x7, Act.put, List.setIfInBounds_toArray, List.set_cons_zero, List.set_cons_succ]
            refine wpAnyH_take (i := 8) (oi := nmO16x8) (v := ?_) rfl (by kernel_rfl) (by kernel_rfl) (by kernel_rfl) (fun _ _ _ h => h) (Or.inl ⟨by rfl, ?_⟩) (by assumption) ?_
            rotate_left
            · (intro W hSw; (try dsimp only at hSw); have D := SB16.out.later hSw; have e0 := D.at 0; have e1 := D.at 1; clear D; try simp only [nmO16x8]; first | (go_simp; done) | (go_simp; with_reducible rfl))
            try simp only [nmO16x8, Act.put, List.setIfInBounds_toArray, List.set_cons_zero, List.set_cons_succ]
            refine wpAnyH_ready (rs := [10]) (by kernel_rfl) (by simp) ?_
            refine AllReadyH.cons (o := nmO16x10) rfl (fun K hK => ?_) AllReadyH.nil
            try simp only [nmO16x10]
            go_simp
            refine hK.out _ _ ?_ (fun hHeld => ?_)
            · ((try dsimp only); exact res_kept (q := wx.heap.size) hHeld (show Below wx.heap.size wx _ from ((Below.refl _ _).drew)).size _ _ _ _)
            clear hK K
            try simp only [Act.put, List.setIfInBounds_toArray, List.set_cons_zero, List.set_cons_succ]
            refine wpAnyH_take (i := 11) (oi := nmO16x11) (v := ?_) rfl (by kernel_rfl) (by kernel_rfl) (by kernel_rfl) (fun _ _ _ h => h) (Or.inl ⟨by rfl, ?_⟩) (by assumption) ?_
            rotate_left
            · (intro W hSw; (try dsimp only at hSw); have D := SB16.out.later hSw; have e0 := D.at 0; have e1 := D.at 1; clear D; try simp only [nmO16x11]; first | (go_simp; done) | (go_simp; with_reducible rfl))
            try simp only [nmO16x11, Act.put, List.setIfInBounds_toArray, List.set_cons_zero, List.set_cons_succ]
            refine wpAnyH_done (by kernel_rfl) ?_ _
            go_wp2_with fail
            go_meet
            exact ⟨wx.heap.size, rfl, rfl, ⟨by simp (maxDischargeDepth := 12) [go_sem, y0], by simp (maxDischargeDepth := 12) [go_sem, y1], by simp (maxDischargeDepth := 12) [go_sem, y2], by simp (maxDischargeDepth := 12) [go_sem, y3]⟩, (show Below wx.heap.size wx _ from ((Below.refl _ _).drew)).size, hHeld⟩
      rename World => wy
      obtain ⟨p2, rfl, rfl, h5, hp2, b16⟩ := hcut
      have BY := below_trans BS16 b16
      have h4y := H4.out.later b16
      have l4 := h4y.lt
      have l5 := h5.lt
      obtain ⟨y0, y1, y2, y3⟩ := h4y
      obtain ⟨x0, x1, x2, x3⟩ := h5
      dsimp only at y0 y1 y2 y3 x0 x1 x2 x3
      simp only [Nat.zero_add] at y1 y2 y3 x1 x2 x3
      have SA := fun W => rsame_any vk vn vm ⟨vb.toArray⟩ vk vn vm ⟨vb.toArray⟩ W
      rw [show (vk == vk && (vn == vn && (vm == vm && (ByteArray.mk vb.toArray).toList == (ByteArray.mk vb.toArray).toList))) = true by simp] at SA
      have NU := fun W => qnum7_any ek W
      clear H4 CV SB16 BS16 EV1H EV2H OW SCO VOW
      go_wp2_with fail
      refine (SA _).mono ?_
      rintro e wz ⟨rfl, gz⟩
      have bz := gz.below
      have BZ := below_trans BY bz
      have K9 := KN.out wz BZ
      clear y0 y1 y2 y3 x0 x1 x2 x3 gz bz SA
      go_wp2_with (first | (go_at_call 19; refine (NU _).mono ?_; rintro e w' ⟨rfl, rfl⟩))
      refine K9.mono ?_
      rintro e wk ⟨rfl, bk⟩
      go_wp2
      go_ret
      exact ⟨rfl, below_trans BZ bk⟩
end Go.Proofs.YtgapmofhnjfdiaaGreatDoor
