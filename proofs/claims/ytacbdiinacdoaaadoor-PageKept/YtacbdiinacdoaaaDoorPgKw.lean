/-
  The walk of PageKept.
-/
import Derived.Test.YtacbdiinacdoaaaDoorPgKm
import Derived.Deep.Cut
import Derived.Deep.CutBlock
namespace Go.Proofs.YtacbdiinacdoaaaDoor
open Go.RowKit Go.Shelf

/-- A step as plain data. -/
structure Sp where
  kd : Int
  sl : Int
  ao : Option Addr
  n : Nat
  cap : Nat
  b : List UInt8
def At3 (w : World) (b o : Nat) (s : Sp) : Prop := w.cell? ⟨b, o, none⟩ = some (.int .i64 s.kd) ∧ w.cell? ⟨b, o + 1, none⟩ = some (.int .i64 s.sl) ∧ w.cell? ⟨b, o + 2, none⟩ = some (.slice s.ao s.n s.cap)
/-- Steps lie behind an address; their records can be read. -/
def StW (w : World) (ao : Option Addr) (ss : List Sp) : Prop :=
  (0 < ss.length → ∃ b off, b < w.heap.size ∧ ao = some ⟨b, off, none⟩ ∧ ∀ i (h : i < ss.length), At3 w b (off + i * 3) ss[i]) ∧ ∀ i (h : i < ss.length), Rd w ss[i].ao ss[i].n ss[i].cap ss[i].b ∧ ss[i].n ≤ 140737488351232 ∧ wf64 ss[i].sl

set_option maxRecDepth 20000 in
set_option maxHeartbeats 8000000 in
theorem kept_any (ao : Option Addr) (cap : Nat) (ss : List Sp) (w : World) (hT : Tab w) (hS : StW w ao ss) (_hlen : ss.length ≤ 9223372036854775807) :
    Calls Tryd.prog 5 #[.slice ao ss.length cap] w fun e w' => e = .returned (.bool true) ∧ Below w.heap.size w w' := by
  obtain ⟨n, hn⟩ : ∃ n, ss.length = n := ⟨_, rfl⟩
  have HN : Hid (ss.length = n) := hn
  rw [hn]
  clear hn
  have C0 := new_any w hT
  have hmm := @run_makeMap Tryd.prog
  go_enter Tryd.func5, Tryd.ntmps5
  go_wp2_with fail
  refine C0.mono ?_
  rintro e w1 ⟨g, rfl, hg, hP, b1⟩
  clear C0
  go_wp2_with fail
  go_loopw [3, 5, 6] (fun p u i wr => ∃ (k g : Nat) (l : List Slt) (uv : Int), k ≤ n ∧ k ≤ 120 ∧ i = .int .i64 k ∧ p = .slice (some ⟨g, 0, none⟩) 512 512 ∧ u = .int .i64 uv ∧ Hid (Pb wr g (pageL l) ∧ fits l ∧ lastOk l) ∧ Hid (MW wr w1.heap.size k (getS (some l))) ∧ Below w.heap.size w wr) (fun _ _ i _ => 120 - (intOf i).toNat)
  case atStart => exact ⟨0, g, [], 0, Nat.zero_le _, by omega, rfl, rfl, rfl, ⟨hP.later ((Below.refl _ w1).alloc (Nat.le_refl _) _) hP.lt, fits_nil, by decide⟩, MW.new w1, b1.alloc b1.size _⟩
  case round =>
    have hmb : w.heap.size ≤ w1.heap.size := b1.size
    clear hP hg b1
    obtain ⟨k, g, l, uv, hk, hk120, rfl, rfl, rfl, hPg, hMW, hB⟩ := hrel
    have CK := knows_any wr (hT.later hB hT.pos)
    by_cases hlt : k < n
    · by_cases hlt2 : k < 120
      · have hkl : k < ss.length := by rw [HN.out]; exact hlt
        obtain ⟨b0, off0, hb0, rfl, hA⟩ := hS.1 (by omega)
        have hA := hA k hkl
        obtain ⟨hrd, hsn, hwf⟩ := hS.2 k hkl
        generalize ss[k] = s at hA hrd hsn hwf
        obtain ⟨kd, sl, sao, sn, scap, sbs⟩ := s
        dsimp only at hrd hsn hwf
        obtain ⟨a0, a1, a2⟩ := hA
        dsimp only at a0 a1 a2
        have d0 : wr.cell? ⟨b0, off0 + k * 3, none⟩ = some (.int .i64 kd) := (hB.cell (p := ⟨b0, off0 + k * 3, none⟩) hb0).trans a0
        have d1 : wr.cell? ⟨b0, off0 + k * 3 + 1, none⟩ = some (.int .i64 sl) := (hB.cell (p := ⟨b0, off0 + k * 3 + 1, none⟩) hb0).trans a1
        have d2 : wr.cell? ⟨b0, off0 + k * 3 + 2, none⟩ = some (.slice sao sn scap) := (hB.cell (p := ⟨b0, off0 + k * 3 + 2, none⟩) hb0).trans a2
        have A2 : Below wr.heap.size wr (wr.alloc (.cells #[.int .i64 kd, .int .i64 sl, .slice sao sn scap] 48)) := (Below.refl _ _).alloc (Nat.le_refl _) _
        have hM2 := hMW.out.later A2
        have LK := hM2.look sl hwf
        obtain ⟨th, hth⟩ : ∃ th, th = (getS (some l) sl).isSome := ⟨_, rfl⟩
        obtain ⟨tx, htx⟩ : ∃ tx : ByteArray, tx = ⟨(sb (getS (some l) sl)).toArray⟩ := ⟨_, rfl⟩
        rw [← hth, ← htx] at LK
        have HTH : Hid (th = (getS (some l) sl).isSome) := hth
        clear hth htx a0 a1 a2 CK
        have hki1 : (k : Int) < 120 := by omega
        have hki2 : (k : Int) < (n : Int) := by omega
        go_upto_block 2 with fail
        go_cut [10, 11, 12, 13, 14, 15, 16, 17, 18, 19, 20] from 52 to 129 (fun s10 s11 _ _ _ _ _ _ _ _ _ wx => ∃ (er : Int) (l' : List Slt) (g' : Nat), s10 = .int .i64 er ∧ (er = 0 ∨ er = 3 ∨ er = 7) ∧ Hid (Pb wx g' (pageL l') ∧ fits l' ∧ lastOk l') ∧ Hid (MW wx w1.heap.size (k + 1) (getS (some l'))) ∧ Below w.heap.size w wx ∧ Hid (wx.cell? ⟨wr.heap.size, 0, none⟩ = some (.int .i64 kd)) ∧ ((er = 0 ∧ 0 ≤ kd ∧ kd ≤ 2 ∧ s11 = .slice (some ⟨g', 0, none⟩) 512 512) ∨ (¬ (er = 0 ∧ 0 ≤ kd ∧ kd ≤ 2) ∧ g' = g)))
        case first =>
          have hPP := hPg.out
          have hP2 := hPP.1.later A2 hPP.1.lt
          have hrd2 : Rd (wr.alloc (.cells #[.int .i64 kd, .int .i64 sl, .slice sao sn scap] 48)) sao sn scap sbs := (hrd.later hB).later A2
          have hB2 : Below w.heap.size w (wr.alloc (.cells #[.int .i64 kd, .int .i64 sl, .slice sao sn scap] 48)) := hB.trans (A2.mono hB.size)
          have c0 : (wr.alloc (.cells #[.int .i64 kd, .int .i64 sl, .slice sao sn scap] 48)).cell? ⟨wr.heap.size, 0, none⟩ = some (.int .i64 kd) := by simp
          have c1 : (wr.alloc (.cells #[.int .i64 kd, .int .i64 sl, .slice sao sn scap] 48)).cell? ⟨wr.heap.size, 1, none⟩ = some (.int .i64 sl) := by simp
          have c2 : (wr.alloc (.cells #[.int .i64 kd, .int .i64 sl, .slice sao sn scap] 48)).cell? ⟨wr.heap.size, 2, none⟩ = some (.slice sao sn scap) := by simp
          have hxb : wr.heap.size < (wr.alloc (.cells #[.int .i64 kd, .int .i64 sl, .slice sao sn scap] 48)).heap.size := by simp
          have hmbl : w1.heap.size < wr.heap.size := hMW.out.lt
          have HM2 : Hid (MW (wr.alloc (.cells #[.int .i64 kd, .int .i64 sl, .slice sao sn scap] 48)) w1.heap.size k (getS (some l))) := hM2
          have hfl : fits l := hPP.2.1
          have hla : lastOk l := hPP.2.2
          have hpg : pg (pageL l) = some l := pg_page l hfl hla
          have hcnt := fits_count hfl
          have hT2 := hT.later hB2 hT.pos
          have hR2 := hP2.page hfl
          have HFL : Hid (fits l ∧ lastOk l) := ⟨hfl, hla⟩
          have hsz : (⟨sbs.toArray⟩ : ByteArray).size ≤ maxLen := by
            have h0 := hrd.1
            show sbs.toArray.size ≤ _
            unfold maxLen
            simp
            omega
          clear hM2 LK d0 d1 d2 A2 hPP hrd hMW hPg hB
          generalize wr.alloc (.cells #[.int .i64 kd, .int .i64 sl, .slice sao sn scap] 48) = w2 at *
          have HP2 : Hid (Pb w2 g (pageL l)) := hP2
          clear hP2 hfl hla
          by_cases k0 : kd = 0
          · subst k0
            have CIn := insert_any _ _ _ _ _ _ _ sbs w2 hT2 hR2 hrd2 (by omega)
            rw [hpg] at CIn
            have hfe := feS_le l
            by_cases hfit : fits (insL l sbs)
            · have e1 : insP (some l) sbs = some (insL l sbs) := if_pos hfit
              have e2 : insE (some l) sbs = 0 := if_pos hfit
              have e3 : insK (some l) sbs = feS l := by unfold insK; rw [e1]; rfl
              rw [e1, e2, e3] at CIn
              have HFI : Hid (fits (insL l sbs)) := hfit
              have hwfe : wf64 (feS l : Int) := ⟨by omega, by omega⟩
              have hge : (0 : Int) ≤ (feS l : Int) := by omega
              have HGF : Hid (∀ x, (if x = (feS l : Int) then some sbs else getS (some l) x) = getS (some (insL l sbs)) x) := fun x => (getS_ins l sbs x).symm
              have HNF : Hid (getS (some l) (feS l : Int) = none) := getS_fe l
              clear e1 e2 e3 hpg hR2 hT2 hfit hfe
              generalize feS l = fe at *
              go_wp2_with fail
              refine CIn.mono ?_
              rintro e w3 ⟨v, rfl, ⟨gg, rfl, hgg, hP3⟩, b3⟩
              clear CIn
              have hrd3 := hrd2.later b3
              have q3 := run_string_of (P := Tryd.prog) 22 9 5 Tryd.underlying22 Tryd.underlying5 Tryd.underlying9 hrd3
              have x0 : w3.cell? ⟨wr.heap.size, 0, none⟩ = some (.int .i64 0) := (b3.cell (p := ⟨wr.heap.size, 0, none⟩) hxb).trans c0
              have x1 : w3.cell? ⟨wr.heap.size, 1, none⟩ = some (.int .i64 sl) := (b3.cell (p := ⟨wr.heap.size, 1, none⟩) hxb).trans c1
              have x2 : w3.cell? ⟨wr.heap.size, 2, none⟩ = some (.slice sao sn scap) := (b3.cell (p := ⟨wr.heap.size, 2, none⟩) hxb).trans c2
              have hB3 := hB2.trans (b3.mono hB2.size)
              have HM3 := HM2.out.later b3
              have LK3 := HM3.look (fe : Int) hwfe
              rw [HNF.out] at LK3
              obtain ⟨D, o1, o2, o3⟩ := HM3
              have O3 : Hid (∀ x, wf64 x → Maps.has D (.int .i64 x) = (getS (some l) x).isSome ∧ D.atKey (.int .i64 x) (.lit (.string [])) = .lit (.string (sb (getS (some l) x)))) := o3
              clear o3
              go_wp2_with (first | (go_at_call 25; refine (num_any _ _).mono ?_; rintro e w' ⟨rfl, rfl⟩) | (at_mapUpdate; refine wpList_mapUpdate_own _ rfl _ _ _ 46 rfl 3 9 (Maps.int_keyed Tryd.underlying3) Tryd.underlying46 _ w1.heap.size k D rfl o1 (by unfold maxLen; omega) _ _ _ rfl rfl (Maps.keyOf_int_mk Tryd.underlying3 (wf_lit hwfe)) _ [] (plainElem_string Tryd.underlying9 hsz) ?_; intro w4 hown4 hgrow4))
              go_meet
              exact ⟨0, insL l sbs, gg, rfl, .inl rfl, ⟨hP3.turn hgrow4 (by omega), HFI.out, lastOk_ins l sbs HFL.out.2⟩, (MW.put o2 O3.out (fe : Int) sbs hown4).ext (fun x _ => HGF.out x), hB3.grown hgrow4 hB3.size (fun j e => by cases e; exact hmb), (hgrow4.cell_far ⟨wr.heap.size, 0, none⟩ (by show wr.heap.size < _; have := b3.size; omega) (by simp; omega)).trans x0, .inl ⟨rfl, by omega, by omega, rfl⟩⟩
            · have e1 : insP (some l) sbs = none := if_neg hfit
              have e2 : insE (some l) sbs = 7 := if_neg hfit
              have e3 : insK (some l) sbs = 0 := by unfold insK; rw [e1]
              rw [e1, e2, e3] at CIn
              clear e1 e2 e3 hpg hR2 hT2 hfit hfe
              go_wp2_with fail
              refine CIn.mono ?_
              rintro e w3 ⟨v, rfl, hv, b3⟩
              obtain rfl : v = .slice none 0 0 := hv
              clear CIn
              have hrd3 := hrd2.later b3
              have q3 := run_string_of (P := Tryd.prog) 22 9 5 Tryd.underlying22 Tryd.underlying5 Tryd.underlying9 hrd3
              have x0 : w3.cell? ⟨wr.heap.size, 0, none⟩ = some (.int .i64 0) := (b3.cell (p := ⟨wr.heap.size, 0, none⟩) hxb).trans c0
              have x1 : w3.cell? ⟨wr.heap.size, 1, none⟩ = some (.int .i64 sl) := (b3.cell (p := ⟨wr.heap.size, 1, none⟩) hxb).trans c1
              have x2 : w3.cell? ⟨wr.heap.size, 2, none⟩ = some (.slice sao sn scap) := (b3.cell (p := ⟨wr.heap.size, 2, none⟩) hxb).trans c2
              have hB3 := hB2.trans (b3.mono hB2.size)
              have HM3 := HM2.out.later b3
              have HM4 : Hid (MW w3 w1.heap.size k (getS (some l))) := HM3
              clear HM3
              go_wp2_with (go_at_call 25; refine (num_any _ _).mono ?_; rintro e w' ⟨rfl, rfl⟩)
              go_meet
              exact ⟨7, l, g, rfl, .inr (.inr rfl), ⟨HP2.out.later b3 HP2.out.lt, HFL.out⟩, HM4.out.more (by omega), hB3, x0, .inr ⟨by omega, rfl⟩⟩
          by_cases k1 : kd = 1
          · subst k1
            have CU := update_any _ _ _ _ sl _ _ _ sbs w2 hT2 hR2 hrd2 (by omega)
            rw [hpg] at CU
            cases th with
            | false =>
              have hg0 : getS (some l) sl = none := by
                have h0 := HTH.out
                cases h : getS (some l) sl with
                | none => rfl
                | some r0 => rw [h] at h0; cases h0
              have e1 : updP (some l) sl sbs = none := if_neg (fun h => by rw [hg0] at h; cases h.1)
              have e2 : updE (some l) sl sbs = 3 := if_neg (by rw [hg0]; simp)
              rw [e1, e2] at CU
              clear e1 e2 hpg hR2 hT2 hg0
              go_wp2_with fail
              refine CU.mono ?_
              rintro e w3 ⟨v, rfl, hv, b3⟩
              obtain rfl : v = .slice none 0 0 := hv
              clear CU
              have hrd3 := hrd2.later b3
              have q3 := run_string_of (P := Tryd.prog) 22 9 5 Tryd.underlying22 Tryd.underlying5 Tryd.underlying9 hrd3
              have x0 : w3.cell? ⟨wr.heap.size, 0, none⟩ = some (.int .i64 1) := (b3.cell (p := ⟨wr.heap.size, 0, none⟩) hxb).trans c0
              have x1 : w3.cell? ⟨wr.heap.size, 1, none⟩ = some (.int .i64 sl) := (b3.cell (p := ⟨wr.heap.size, 1, none⟩) hxb).trans c1
              have x2 : w3.cell? ⟨wr.heap.size, 2, none⟩ = some (.slice sao sn scap) := (b3.cell (p := ⟨wr.heap.size, 2, none⟩) hxb).trans c2
              have hB3 := hB2.trans (b3.mono hB2.size)
              have HM3 := HM2.out.later b3
              have HM4 : Hid (MW w3 w1.heap.size k (getS (some l))) := HM3
              clear HM3
              go_wp2_with (go_at_call 25; refine (num_any _ _).mono ?_; rintro e w' ⟨rfl, rfl⟩)
              go_meet
              exact ⟨3, l, g, rfl, .inr (.inl rfl), ⟨HP2.out.later b3 HP2.out.lt, HFL.out⟩, HM4.out.more (by omega), hB3, x0, .inr ⟨by omega, rfl⟩⟩
            | true =>
              obtain ⟨r0, hg0⟩ : ∃ r0, getS (some l) sl = some r0 := by
                have h0 := HTH.out
                cases h : getS (some l) sl with
                | none => rw [h] at h0; cases h0
                | some r0 => exact ⟨r0, rfl⟩
              obtain ⟨kk, hkk, hkl2, hlk⟩ := getS_some hg0
              have htn : sl.toNat = kk := by omega
              by_cases hfit : fits (l.set kk (some sbs))
              · have e1 : updP (some l) sl sbs = some (l.set kk (some sbs)) := by
                  have h0 : updP (some l) sl sbs = if (getS (some l) sl).isSome ∧ fits (l.set sl.toNat (some sbs)) then some (l.set sl.toNat (some sbs)) else none := rfl
                  rw [h0, htn, if_pos ⟨by rw [hg0]; rfl, hfit⟩]
                have e2 : updE (some l) sl sbs = 0 := by
                  have h0 : updE (some l) sl sbs = if (getS (some l) sl).isSome then (if fits (l.set sl.toNat (some sbs)) then 0 else 7) else 3 := rfl
                  rw [h0, htn, if_pos (by rw [hg0]; rfl), if_pos hfit]
                rw [e1, e2] at CU
                have HFI : Hid (fits (l.set kk (some sbs))) := hfit
                have HLO : Hid (lastOk (l.set kk (some sbs))) := lastOk_set l kk sbs HFL.out.2
                have HGF : Hid (∀ x, (if x = sl then some sbs else getS (some l) x) = getS (some (l.set kk (some sbs))) x) := fun x => by rw [getS_set l kk (some sbs) hkl2 x, hkk]
                clear e1 e2 hpg hR2 hT2 hfit hg0 hkk htn hlk
                go_wp2_with fail
                refine CU.mono ?_
                rintro e w3 ⟨v, rfl, ⟨gg, rfl, hgg, hP3⟩, b3⟩
                clear CU
                have hrd3 := hrd2.later b3
                have q3 := run_string_of (P := Tryd.prog) 22 9 5 Tryd.underlying22 Tryd.underlying5 Tryd.underlying9 hrd3
                have x0 : w3.cell? ⟨wr.heap.size, 0, none⟩ = some (.int .i64 1) := (b3.cell (p := ⟨wr.heap.size, 0, none⟩) hxb).trans c0
                have x1 : w3.cell? ⟨wr.heap.size, 1, none⟩ = some (.int .i64 sl) := (b3.cell (p := ⟨wr.heap.size, 1, none⟩) hxb).trans c1
                have x2 : w3.cell? ⟨wr.heap.size, 2, none⟩ = some (.slice sao sn scap) := (b3.cell (p := ⟨wr.heap.size, 2, none⟩) hxb).trans c2
                have hB3 := hB2.trans (b3.mono hB2.size)
                have HM3 := HM2.out.later b3
                obtain ⟨D, o1, o2, o3⟩ := HM3
                have O3 : Hid (∀ x, wf64 x → Maps.has D (.int .i64 x) = (getS (some l) x).isSome ∧ D.atKey (.int .i64 x) (.lit (.string [])) = .lit (.string (sb (getS (some l) x)))) := o3
                clear o3
                go_wp2_with (first | (go_at_call 25; refine (num_any _ _).mono ?_; rintro e w' ⟨rfl, rfl⟩) | (at_mapUpdate; refine wpList_mapUpdate_own _ rfl _ _ _ 46 rfl 3 9 (Maps.int_keyed Tryd.underlying3) Tryd.underlying46 _ w1.heap.size k D rfl o1 (by unfold maxLen; omega) _ _ _ rfl rfl (Maps.keyOf_int_mk Tryd.underlying3 (wf_lit hwf)) _ [] (plainElem_string Tryd.underlying9 hsz) ?_; intro w4 hown4 hgrow4))
                go_meet
                exact ⟨0, l.set kk (some sbs), gg, rfl, .inl rfl, ⟨hP3.turn hgrow4 (by omega), HFI.out, HLO.out⟩, (MW.put o2 O3.out sl sbs hown4).ext (fun x _ => HGF.out x), hB3.grown hgrow4 hB3.size (fun j e => by cases e; exact hmb), (hgrow4.cell_far ⟨wr.heap.size, 0, none⟩ (by show wr.heap.size < _; have := b3.size; omega) (by simp; omega)).trans x0, .inl ⟨rfl, by omega, by omega, rfl⟩⟩
              · have e1 : updP (some l) sl sbs = none := by
                  have h0 : updP (some l) sl sbs = if (getS (some l) sl).isSome ∧ fits (l.set sl.toNat (some sbs)) then some (l.set sl.toNat (some sbs)) else none := rfl
                  rw [h0, htn, if_neg (fun h => hfit h.2)]
                have e2 : updE (some l) sl sbs = 7 := by
                  have h0 : updE (some l) sl sbs = if (getS (some l) sl).isSome then (if fits (l.set sl.toNat (some sbs)) then 0 else 7) else 3 := rfl
                  rw [h0, htn, if_pos (by rw [hg0]; rfl), if_neg hfit]
                rw [e1, e2] at CU
                clear e1 e2 hpg hR2 hT2 hfit hg0 hkk htn hlk
                go_wp2_with fail
                refine CU.mono ?_
                rintro e w3 ⟨v, rfl, hv, b3⟩
                obtain rfl : v = .slice none 0 0 := hv
                clear CU
                have hrd3 := hrd2.later b3
                have q3 := run_string_of (P := Tryd.prog) 22 9 5 Tryd.underlying22 Tryd.underlying5 Tryd.underlying9 hrd3
                have x0 : w3.cell? ⟨wr.heap.size, 0, none⟩ = some (.int .i64 1) := (b3.cell (p := ⟨wr.heap.size, 0, none⟩) hxb).trans c0
                have x1 : w3.cell? ⟨wr.heap.size, 1, none⟩ = some (.int .i64 sl) := (b3.cell (p := ⟨wr.heap.size, 1, none⟩) hxb).trans c1
                have x2 : w3.cell? ⟨wr.heap.size, 2, none⟩ = some (.slice sao sn scap) := (b3.cell (p := ⟨wr.heap.size, 2, none⟩) hxb).trans c2
                have hB3 := hB2.trans (b3.mono hB2.size)
                have HM3 := HM2.out.later b3
                have HM4 : Hid (MW w3 w1.heap.size k (getS (some l))) := HM3
                clear HM3
                go_wp2_with (go_at_call 25; refine (num_any _ _).mono ?_; rintro e w' ⟨rfl, rfl⟩)
                go_meet
                exact ⟨7, l, g, rfl, .inr (.inr rfl), ⟨HP2.out.later b3 HP2.out.lt, HFL.out⟩, HM4.out.more (by omega), hB3, x0, .inr ⟨by omega, rfl⟩⟩
          by_cases k2 : kd = 2
          · subst k2
            cases th with
            | false =>
              have hg0 : getS (some l) sl = none := by
                have h0 := HTH.out
                cases h : getS (some l) sl with
                | none => rfl
                | some r0 => rw [h] at h0; cases h0
              have e3 : tkE (some l) sl = 3 := by rw [tkE_some, hg0]; rfl
              have CD := delete_bad _ _ _ _ sl w2 hT2 hR2 (by rw [hpg, e3]; decide)
              rw [hpg, e3] at CD
              have HGF : Hid (∀ x, (if x = sl then none else getS (some l) x) = getS (some l) x) := fun x => by
                by_cases e : x = sl
                · subst e; rw [if_pos rfl, hg0]
                · rw [if_neg e]
              clear e3 hpg hR2 hT2 hg0
              go_wp2_with fail
              refine CD.mono ?_
              rintro e w3 ⟨rfl, b3⟩
              clear CD
              have hrd3 := hrd2.later b3
              have q3 := run_string_of (P := Tryd.prog) 22 9 5 Tryd.underlying22 Tryd.underlying5 Tryd.underlying9 hrd3
              have x0 : w3.cell? ⟨wr.heap.size, 0, none⟩ = some (.int .i64 2) := (b3.cell (p := ⟨wr.heap.size, 0, none⟩) hxb).trans c0
              have x1 : w3.cell? ⟨wr.heap.size, 1, none⟩ = some (.int .i64 sl) := (b3.cell (p := ⟨wr.heap.size, 1, none⟩) hxb).trans c1
              have x2 : w3.cell? ⟨wr.heap.size, 2, none⟩ = some (.slice sao sn scap) := (b3.cell (p := ⟨wr.heap.size, 2, none⟩) hxb).trans c2
              have hB3 := hB2.trans (b3.mono hB2.size)
              have HM3 := HM2.out.later b3
              obtain ⟨D, o1, o2, o3⟩ := HM3
              have O3 : Hid (∀ x, wf64 x → Maps.has D (.int .i64 x) = (getS (some l) x).isSome ∧ D.atKey (.int .i64 x) (.lit (.string [])) = .lit (.string (sb (getS (some l) x)))) := o3
              clear o3
              go_wp2_with (first | (go_at_call 25; refine (num_any _ _).mono ?_; rintro e w' ⟨rfl, rfl⟩) | (at_delete; refine wpList_delete_own _ rfl _ _ 46 3 rfl 9 (Maps.int_keyed Tryd.underlying3) Tryd.underlying46 _ w1.heap.size k D rfl o1 _ _ rfl (Maps.keyOf_int_mk Tryd.underlying3 (wf_lit hwf)) ?_; intro w4 hown4 hturn4; have hgrow4 := hturn4.grown))
              go_meet
              exact ⟨3, l, g, rfl, .inr (.inl rfl), ⟨(HP2.out.later b3 HP2.out.lt).turn hgrow4 (fun e => map_not_cells (HP2.out.later b3 HP2.out.lt) o1 e), HFL.out⟩, ((MW.del o2 O3.out sl hown4).ext (fun x _ => HGF.out x)).more (by omega), hB3.grown hgrow4 hB3.size (fun j e => by cases e; exact hmb), (hgrow4.cell_far ⟨wr.heap.size, 0, none⟩ (by show wr.heap.size < _; have := b3.size; omega) (by simp; omega)).trans x0, .inr ⟨by omega, rfl⟩⟩
            | true =>
              obtain ⟨r0, hg0⟩ : ∃ r0, getS (some l) sl = some r0 := by
                have h0 := HTH.out
                cases h : getS (some l) sl with
                | none => rw [h] at h0; cases h0
                | some r0 => exact ⟨r0, rfl⟩
              obtain ⟨kk, hkk, hkl2, hlk⟩ := getS_some hg0
              have CD := delete_good _ _ _ _ l kk r0 w2 hT2 hR2 hpg hkl2 hlk
              rw [← hkk] at CD
              have hf0 : fits (l.set kk none) := by
                have h0 := used_set_none l kk
                have h1 := HFL.out.1
                unfold fits at *
                rw [List.length_set]
                omega
              have HF0 : Hid (fits (l.set kk none)) := hf0
              have HKK : Hid (sl = (kk : Int)) := hkk
              clear hpg hR2 hT2 hg0 hlk hf0 hkk
              go_wp2_with fail
              refine CD.mono ?_
              rintro e w3 ⟨⟨v, l2, rfl, hstr, ⟨gg, rfl, hgg, hP3⟩⟩, b3⟩
              clear CD
              have HF2 : Hid (fits l2 ∧ lastOk l2) := ⟨hstr.fits HF0.out, by obtain ⟨_, _, _, _, h⟩ := hstr; exact h⟩
              have HGF : Hid (∀ x, (if x = sl then none else getS (some l) x) = getS (some l2) x) := fun x => by rw [getS_strip hkl2 hstr x, HKK.out]
              clear hstr
              have hrd3 := hrd2.later b3
              have q3 := run_string_of (P := Tryd.prog) 22 9 5 Tryd.underlying22 Tryd.underlying5 Tryd.underlying9 hrd3
              have x0 : w3.cell? ⟨wr.heap.size, 0, none⟩ = some (.int .i64 2) := (b3.cell (p := ⟨wr.heap.size, 0, none⟩) hxb).trans c0
              have x1 : w3.cell? ⟨wr.heap.size, 1, none⟩ = some (.int .i64 sl) := (b3.cell (p := ⟨wr.heap.size, 1, none⟩) hxb).trans c1
              have x2 : w3.cell? ⟨wr.heap.size, 2, none⟩ = some (.slice sao sn scap) := (b3.cell (p := ⟨wr.heap.size, 2, none⟩) hxb).trans c2
              have hB3 := hB2.trans (b3.mono hB2.size)
              have HM3 := HM2.out.later b3
              obtain ⟨D, o1, o2, o3⟩ := HM3
              have O3 : Hid (∀ x, wf64 x → Maps.has D (.int .i64 x) = (getS (some l) x).isSome ∧ D.atKey (.int .i64 x) (.lit (.string [])) = .lit (.string (sb (getS (some l) x)))) := o3
              clear o3
              go_wp2_with (first | (go_at_call 25; refine (num_any _ _).mono ?_; rintro e w' ⟨rfl, rfl⟩) | (at_delete; refine wpList_delete_own _ rfl _ _ 46 3 rfl 9 (Maps.int_keyed Tryd.underlying3) Tryd.underlying46 _ w1.heap.size k D rfl o1 _ _ rfl (Maps.keyOf_int_mk Tryd.underlying3 (wf_lit hwf)) ?_; intro w4 hown4 hturn4; have hgrow4 := hturn4.grown))
              go_meet
              exact ⟨0, l2, gg, rfl, .inl rfl, ⟨hP3.turn hgrow4 (by omega), HF2.out⟩, ((MW.del o2 O3.out sl hown4).ext (fun x _ => HGF.out x)).more (by omega), hB3.grown hgrow4 hB3.size (fun j e => by cases e; exact hmb), (hgrow4.cell_far ⟨wr.heap.size, 0, none⟩ (by show wr.heap.size < _; have := b3.size; omega) (by simp; omega)).trans x0, .inl ⟨rfl, by omega, by omega, rfl⟩⟩
          have HM4 := HM2
          clear hpg hR2 hT2
          go_wp2_with fail
          go_meet
          exact ⟨0, l, g, rfl, .inl rfl, ⟨HP2.out, HFL.out⟩, HM4.out.more (by omega), hB2, c0, .inr ⟨by omega, rfl⟩⟩
        obtain ⟨er, l', g', rfl, her, hpx, hMx', hBx, hx0', hdis⟩ := hcut
        rename World => wx
        have hPx := hpx.out.1
        have hfx := hpx.out.2.1
        have hlx := hpx.out.2.2
        have hMx := hMx'.out
        have hx0 := hx0'.out
        clear hpx hMx' hx0' hM2 A2 HTH LK hrd hPg hMW
        rcases hdis with ⟨rfl, hk0, hk2, rfl⟩ | ⟨hno, hgg⟩
        · clear her
          have hTx := hT.later hBx hT.pos
          have hRx := hPx.page hfx
          have hpgx := pg_page l' hfx hlx
          have hux : used l' ≤ 502 := by have h0 := hfx; unfold fits at h0; omega
          have hlx125 := fits_count hfx
          have CG := fun (q : Nat) (W : World) (hx : Below wx.heap.size wx W) => get_any _ _ _ _ (q : Int) W (hTx.later hx hTx.pos) (hRx.later hx)
          have CI := fun (W : World) (hx : Below wx.heap.size wx W) => right_any _ _ _ _ W (hTx.later hx hTx.pos) (hRx.later hx)
          have CM := fun (W : World) (hx : Below wx.heap.size wx W) => roomN_any _ _ _ _ W (hTx.later hx hTx.pos) (hRx.later hx)
          have CL := fun (W : World) (hx : Below wx.heap.size wx W) => slotsN_any _ _ _ _ W (hTx.later hx hTx.pos) (hRx.later hx)
          simp only [hpgx] at CG CI CM CL
          have HM : Hid (MW wx w1.heap.size (k + 1) (getS (some l'))) := hMx
          have HP : Hid (Pb wx g' (pageL l') ∧ fits l' ∧ lastOk l') := ⟨hPx, hfx, hlx⟩
          have HUX : Hid (used l' ≤ 502) := hux
          have HL : Hid (l'.length ≤ 125) := hlx125
          clear hMx hPx hfx hlx hpgx hRx hTx hux hlx125
          go_wp2_with fail
          go_loopw [5, 21] (fun u j wy => ∃ (q m : Nat), q ≤ 130 ∧ j = .int .i64 q ∧ u = .int .i64 (m : Int) ∧ Hid (m = used (l'.take q)) ∧ Below wx.heap.size wx wy) (fun _ j _ => 130 - (intOf j).toNat)
          case atStart => exact ⟨0, 0, by omega, rfl, rfl, rfl, Below.refl _ _⟩
          case round =>
            obtain ⟨q, m, hq, rfl, rfl, hm, hby⟩ := hrel
            have hmm2 : m ≤ 502 := by rw [hm.out]; exact Nat.le_trans (used_take_le l' q) HUX.out
            by_cases hq2 : q < 130
            · have CGq := CG q wr hby
              have hst := used_step l' q
              rw [← hm.out] at hst
              have hst2 : used (l'.take (q + 1)) ≤ 502 := Nat.le_trans (used_take_le l' (q + 1)) HUX.out
              have HST : Hid (used (l'.take (q + 1)) = m + (sb (getS (some l') (q : Int))).length) := hst
              have hsl : m + (sb (getS (some l') (q : Int))).length ≤ 502 := by omega
              have LK := fun (W : World) (hx : Below wx.heap.size wx W) => (HM.out.later hx).look (q : Int) ⟨by omega, by omega⟩
              clear hst hst2 CG CI CM CL
              generalize getS (some l') (q : Int) = gq at *
              go_wp2_with fail
              refine CGq.mono ?_
              rintro e wz ⟨ag, cg, rfl, hO, bz⟩
              clear CGq
              have hbz := hby.trans (bz.mono hby.size)
              obtain ⟨ao4, cap4, hv4, hR4, _⟩ := hO.rd
              cases hv4
              have q4 := run_string_of (P := Tryd.prog) 22 9 5 Tryd.underlying22 Tryd.underlying5 Tryd.underlying9 hR4
              have LKz := LK wz hbz
              clear LK hO hR4
              go_wp2
              go_roundw
              case rel => exact ⟨q + 1, m + (sb gq).length, by omega, by go_num, by go_num, HST.out.symm, hbz⟩
              case measure => simp [intOf]; omega
            · obtain rfl : q = 130 := by omega
              have hmu : m = used l' := by rw [hm.out, List.take_of_length_le (by have := HL.out; omega)]
              have eR : roomP (some l') = 502 - 4 * (l'.length : Int) - (m : Int) := by rw [hmu]; rfl
              have CIq := CI wr hby
              have hll : l'.length ≤ 125 := HL.out
              simp only [eR] at CM
              clear hmu eR CG CI hm
              simp only [Option.getD_some] at CL
              generalize hNN : l'.length = NN at *
              clear hNN
              go_wp2_with fail
              refine CIq.mono ?_
              rintro e wa ⟨rfl, ba⟩
              have hba := hby.trans (ba.mono hby.size)
              go_wp2_with fail
              refine (CM wa hba).mono ?_
              rintro e wb ⟨rfl, bb⟩
              have hbb := hba.trans (bb.mono hba.size)
              go_wp2_with fail
              refine (CL wb hbb).mono ?_
              rintro e wc ⟨rfl, bc⟩
              have hbc := hbb.trans (bc.mono hbb.size)
              clear CM CL CIq
              go_wp2
              skip
              go_roundw
              case rel => exact ⟨k + 1, g', l', (m : Int), by omega, by omega, by go_num, rfl, rfl, ⟨HP.out.1.later hbc HP.out.1.lt, HP.out.2⟩, HM.out.later hbc, hBx.trans (hbc.mono hBx.size)⟩
              case measure => simp [intOf]; omega
        · subst hgg
          rcases her with rfl | rfl | rfl
          · by_cases hn2 : kd ≤ 2
            · have hn0 : kd < 0 := by omega
              have hTx := hT.later hBx hT.pos
              have hRx := hPx.page hfx
              have hpgx := pg_page l' hfx hlx
              have hux : used l' ≤ 502 := by have h0 := hfx; unfold fits at h0; omega
              have hlx125 := fits_count hfx
              have CG := fun (q : Nat) (W : World) (hx : Below wx.heap.size wx W) => get_any _ _ _ _ (q : Int) W (hTx.later hx hTx.pos) (hRx.later hx)
              have CI := fun (W : World) (hx : Below wx.heap.size wx W) => right_any _ _ _ _ W (hTx.later hx hTx.pos) (hRx.later hx)
              have CM := fun (W : World) (hx : Below wx.heap.size wx W) => roomN_any _ _ _ _ W (hTx.later hx hTx.pos) (hRx.later hx)
              have CL := fun (W : World) (hx : Below wx.heap.size wx W) => slotsN_any _ _ _ _ W (hTx.later hx hTx.pos) (hRx.later hx)
              simp only [hpgx] at CG CI CM CL
              have HM : Hid (MW wx w1.heap.size (k + 1) (getS (some l'))) := hMx
              have HP : Hid (Pb wx g' (pageL l') ∧ fits l' ∧ lastOk l') := ⟨hPx, hfx, hlx⟩
              have HUX : Hid (used l' ≤ 502) := hux
              have HL : Hid (l'.length ≤ 125) := hlx125
              clear hMx hPx hfx hlx hpgx hRx hTx hux hlx125
              go_wp2_with fail
              go_loopw [5, 21] (fun u j wy => ∃ (q m : Nat), q ≤ 130 ∧ j = .int .i64 q ∧ u = .int .i64 (m : Int) ∧ Hid (m = used (l'.take q)) ∧ Below wx.heap.size wx wy) (fun _ j _ => 130 - (intOf j).toNat)
              case atStart => exact ⟨0, 0, by omega, rfl, rfl, rfl, Below.refl _ _⟩
              case round =>
                obtain ⟨q, m, hq, rfl, rfl, hm, hby⟩ := hrel
                have hmm2 : m ≤ 502 := by rw [hm.out]; exact Nat.le_trans (used_take_le l' q) HUX.out
                by_cases hq2 : q < 130
                · have CGq := CG q wr hby
                  have hst := used_step l' q
                  rw [← hm.out] at hst
                  have hst2 : used (l'.take (q + 1)) ≤ 502 := Nat.le_trans (used_take_le l' (q + 1)) HUX.out
                  have HST : Hid (used (l'.take (q + 1)) = m + (sb (getS (some l') (q : Int))).length) := hst
                  have hsl : m + (sb (getS (some l') (q : Int))).length ≤ 502 := by omega
                  have LK := fun (W : World) (hx : Below wx.heap.size wx W) => (HM.out.later hx).look (q : Int) ⟨by omega, by omega⟩
                  clear hst hst2 CG CI CM CL
                  generalize getS (some l') (q : Int) = gq at *
                  go_wp2_with fail
                  refine CGq.mono ?_
                  rintro e wz ⟨ag, cg, rfl, hO, bz⟩
                  clear CGq
                  have hbz := hby.trans (bz.mono hby.size)
                  obtain ⟨ao4, cap4, hv4, hR4, _⟩ := hO.rd
                  cases hv4
                  have q4 := run_string_of (P := Tryd.prog) 22 9 5 Tryd.underlying22 Tryd.underlying5 Tryd.underlying9 hR4
                  have LKz := LK wz hbz
                  clear LK hO hR4
                  go_wp2
                  go_roundw
                  case rel => exact ⟨q + 1, m + (sb gq).length, by omega, by go_num, by go_num, HST.out.symm, hbz⟩
                  case measure => simp [intOf]; omega
                · obtain rfl : q = 130 := by omega
                  have hmu : m = used l' := by rw [hm.out, List.take_of_length_le (by have := HL.out; omega)]
                  have eR : roomP (some l') = 502 - 4 * (l'.length : Int) - (m : Int) := by rw [hmu]; rfl
                  have CIq := CI wr hby
                  have hll : l'.length ≤ 125 := HL.out
                  simp only [eR] at CM
                  clear hmu eR CG CI hm
                  simp only [Option.getD_some] at CL
                  generalize hNN : l'.length = NN at *
                  clear hNN
                  go_wp2_with fail
                  refine CIq.mono ?_
                  rintro e wa ⟨rfl, ba⟩
                  have hba := hby.trans (ba.mono hby.size)
                  go_wp2_with fail
                  refine (CM wa hba).mono ?_
                  rintro e wb ⟨rfl, bb⟩
                  have hbb := hba.trans (bb.mono hba.size)
                  go_wp2_with fail
                  refine (CL wb hbb).mono ?_
                  rintro e wc ⟨rfl, bc⟩
                  have hbc := hbb.trans (bc.mono hbb.size)
                  clear CM CL CIq
                  go_wp2
                  skip
                  go_roundw
                  case rel => exact ⟨k + 1, g', l', (m : Int), by omega, by omega, by go_num, rfl, rfl, ⟨HP.out.1.later hbc HP.out.1.lt, HP.out.2⟩, HM.out.later hbc, hBx.trans (hbc.mono hBx.size)⟩
                  case measure => simp [intOf]; omega
            · have hn0 : 2 < kd := by omega
              have hTx := hT.later hBx hT.pos
              have hRx := hPx.page hfx
              have hpgx := pg_page l' hfx hlx
              have hux : used l' ≤ 502 := by have h0 := hfx; unfold fits at h0; omega
              have hlx125 := fits_count hfx
              have CG := fun (q : Nat) (W : World) (hx : Below wx.heap.size wx W) => get_any _ _ _ _ (q : Int) W (hTx.later hx hTx.pos) (hRx.later hx)
              have CI := fun (W : World) (hx : Below wx.heap.size wx W) => right_any _ _ _ _ W (hTx.later hx hTx.pos) (hRx.later hx)
              have CM := fun (W : World) (hx : Below wx.heap.size wx W) => roomN_any _ _ _ _ W (hTx.later hx hTx.pos) (hRx.later hx)
              have CL := fun (W : World) (hx : Below wx.heap.size wx W) => slotsN_any _ _ _ _ W (hTx.later hx hTx.pos) (hRx.later hx)
              simp only [hpgx] at CG CI CM CL
              have HM : Hid (MW wx w1.heap.size (k + 1) (getS (some l'))) := hMx
              have HP : Hid (Pb wx g' (pageL l') ∧ fits l' ∧ lastOk l') := ⟨hPx, hfx, hlx⟩
              have HUX : Hid (used l' ≤ 502) := hux
              have HL : Hid (l'.length ≤ 125) := hlx125
              clear hMx hPx hfx hlx hpgx hRx hTx hux hlx125
              go_wp2_with fail
              go_loopw [5, 21] (fun u j wy => ∃ (q m : Nat), q ≤ 130 ∧ j = .int .i64 q ∧ u = .int .i64 (m : Int) ∧ Hid (m = used (l'.take q)) ∧ Below wx.heap.size wx wy) (fun _ j _ => 130 - (intOf j).toNat)
              case atStart => exact ⟨0, 0, by omega, rfl, rfl, rfl, Below.refl _ _⟩
              case round =>
                obtain ⟨q, m, hq, rfl, rfl, hm, hby⟩ := hrel
                have hmm2 : m ≤ 502 := by rw [hm.out]; exact Nat.le_trans (used_take_le l' q) HUX.out
                by_cases hq2 : q < 130
                · have CGq := CG q wr hby
                  have hst := used_step l' q
                  rw [← hm.out] at hst
                  have hst2 : used (l'.take (q + 1)) ≤ 502 := Nat.le_trans (used_take_le l' (q + 1)) HUX.out
                  have HST : Hid (used (l'.take (q + 1)) = m + (sb (getS (some l') (q : Int))).length) := hst
                  have hsl : m + (sb (getS (some l') (q : Int))).length ≤ 502 := by omega
                  have LK := fun (W : World) (hx : Below wx.heap.size wx W) => (HM.out.later hx).look (q : Int) ⟨by omega, by omega⟩
                  clear hst hst2 CG CI CM CL
                  generalize getS (some l') (q : Int) = gq at *
                  go_wp2_with fail
                  refine CGq.mono ?_
                  rintro e wz ⟨ag, cg, rfl, hO, bz⟩
                  clear CGq
                  have hbz := hby.trans (bz.mono hby.size)
                  obtain ⟨ao4, cap4, hv4, hR4, _⟩ := hO.rd
                  cases hv4
                  have q4 := run_string_of (P := Tryd.prog) 22 9 5 Tryd.underlying22 Tryd.underlying5 Tryd.underlying9 hR4
                  have LKz := LK wz hbz
                  clear LK hO hR4
                  go_wp2
                  go_roundw
                  case rel => exact ⟨q + 1, m + (sb gq).length, by omega, by go_num, by go_num, HST.out.symm, hbz⟩
                  case measure => simp [intOf]; omega
                · obtain rfl : q = 130 := by omega
                  have hmu : m = used l' := by rw [hm.out, List.take_of_length_le (by have := HL.out; omega)]
                  have eR : roomP (some l') = 502 - 4 * (l'.length : Int) - (m : Int) := by rw [hmu]; rfl
                  have CIq := CI wr hby
                  have hll : l'.length ≤ 125 := HL.out
                  simp only [eR] at CM
                  clear hmu eR CG CI hm
                  simp only [Option.getD_some] at CL
                  generalize hNN : l'.length = NN at *
                  clear hNN
                  go_wp2_with fail
                  refine CIq.mono ?_
                  rintro e wa ⟨rfl, ba⟩
                  have hba := hby.trans (ba.mono hby.size)
                  go_wp2_with fail
                  refine (CM wa hba).mono ?_
                  rintro e wb ⟨rfl, bb⟩
                  have hbb := hba.trans (bb.mono hba.size)
                  go_wp2_with fail
                  refine (CL wb hbb).mono ?_
                  rintro e wc ⟨rfl, bc⟩
                  have hbc := hbb.trans (bc.mono hbb.size)
                  clear CM CL CIq
                  go_wp2
                  skip
                  go_roundw
                  case rel => exact ⟨k + 1, g', l', (m : Int), by omega, by omega, by go_num, rfl, rfl, ⟨HP.out.1.later hbc HP.out.1.lt, HP.out.2⟩, HM.out.later hbc, hBx.trans (hbc.mono hBx.size)⟩
                  case measure => simp [intOf]; omega
          · clear hno
            have hTx := hT.later hBx hT.pos
            have hRx := hPx.page hfx
            have hpgx := pg_page l' hfx hlx
            have hux : used l' ≤ 502 := by have h0 := hfx; unfold fits at h0; omega
            have hlx125 := fits_count hfx
            have CG := fun (q : Nat) (W : World) (hx : Below wx.heap.size wx W) => get_any _ _ _ _ (q : Int) W (hTx.later hx hTx.pos) (hRx.later hx)
            have CI := fun (W : World) (hx : Below wx.heap.size wx W) => right_any _ _ _ _ W (hTx.later hx hTx.pos) (hRx.later hx)
            have CM := fun (W : World) (hx : Below wx.heap.size wx W) => roomN_any _ _ _ _ W (hTx.later hx hTx.pos) (hRx.later hx)
            have CL := fun (W : World) (hx : Below wx.heap.size wx W) => slotsN_any _ _ _ _ W (hTx.later hx hTx.pos) (hRx.later hx)
            simp only [hpgx] at CG CI CM CL
            have HM : Hid (MW wx w1.heap.size (k + 1) (getS (some l'))) := hMx
            have HP : Hid (Pb wx g' (pageL l') ∧ fits l' ∧ lastOk l') := ⟨hPx, hfx, hlx⟩
            have HUX : Hid (used l' ≤ 502) := hux
            have HL : Hid (l'.length ≤ 125) := hlx125
            clear hMx hPx hfx hlx hpgx hRx hTx hux hlx125
            go_wp2_with fail
            go_loopw [5, 21] (fun u j wy => ∃ (q m : Nat), q ≤ 130 ∧ j = .int .i64 q ∧ u = .int .i64 (m : Int) ∧ Hid (m = used (l'.take q)) ∧ Below wx.heap.size wx wy) (fun _ j _ => 130 - (intOf j).toNat)
            case atStart => exact ⟨0, 0, by omega, rfl, rfl, rfl, Below.refl _ _⟩
            case round =>
              obtain ⟨q, m, hq, rfl, rfl, hm, hby⟩ := hrel
              have hmm2 : m ≤ 502 := by rw [hm.out]; exact Nat.le_trans (used_take_le l' q) HUX.out
              by_cases hq2 : q < 130
              · have CGq := CG q wr hby
                have hst := used_step l' q
                rw [← hm.out] at hst
                have hst2 : used (l'.take (q + 1)) ≤ 502 := Nat.le_trans (used_take_le l' (q + 1)) HUX.out
                have HST : Hid (used (l'.take (q + 1)) = m + (sb (getS (some l') (q : Int))).length) := hst
                have hsl : m + (sb (getS (some l') (q : Int))).length ≤ 502 := by omega
                have LK := fun (W : World) (hx : Below wx.heap.size wx W) => (HM.out.later hx).look (q : Int) ⟨by omega, by omega⟩
                clear hst hst2 CG CI CM CL
                generalize getS (some l') (q : Int) = gq at *
                go_wp2_with fail
                refine CGq.mono ?_
                rintro e wz ⟨ag, cg, rfl, hO, bz⟩
                clear CGq
                have hbz := hby.trans (bz.mono hby.size)
                obtain ⟨ao4, cap4, hv4, hR4, _⟩ := hO.rd
                cases hv4
                have q4 := run_string_of (P := Tryd.prog) 22 9 5 Tryd.underlying22 Tryd.underlying5 Tryd.underlying9 hR4
                have LKz := LK wz hbz
                clear LK hO hR4
                go_wp2
                go_roundw
                case rel => exact ⟨q + 1, m + (sb gq).length, by omega, by go_num, by go_num, HST.out.symm, hbz⟩
                case measure => simp [intOf]; omega
              · obtain rfl : q = 130 := by omega
                have hmu : m = used l' := by rw [hm.out, List.take_of_length_le (by have := HL.out; omega)]
                have eR : roomP (some l') = 502 - 4 * (l'.length : Int) - (m : Int) := by rw [hmu]; rfl
                have CIq := CI wr hby
                have hll : l'.length ≤ 125 := HL.out
                simp only [eR] at CM
                clear hmu eR CG CI hm
                simp only [Option.getD_some] at CL
                generalize hNN : l'.length = NN at *
                clear hNN
                go_wp2_with fail
                refine CIq.mono ?_
                rintro e wa ⟨rfl, ba⟩
                have hba := hby.trans (ba.mono hby.size)
                go_wp2_with fail
                refine (CM wa hba).mono ?_
                rintro e wb ⟨rfl, bb⟩
                have hbb := hba.trans (bb.mono hba.size)
                go_wp2_with fail
                refine (CL wb hbb).mono ?_
                rintro e wc ⟨rfl, bc⟩
                have hbc := hbb.trans (bc.mono hbb.size)
                clear CM CL CIq
                go_wp2
                skip
                go_roundw
                case rel => exact ⟨k + 1, g', l', (m : Int), by omega, by omega, by go_num, rfl, rfl, ⟨HP.out.1.later hbc HP.out.1.lt, HP.out.2⟩, HM.out.later hbc, hBx.trans (hbc.mono hBx.size)⟩
                case measure => simp [intOf]; omega
          · clear hno
            have hTx := hT.later hBx hT.pos
            have hRx := hPx.page hfx
            have hpgx := pg_page l' hfx hlx
            have hux : used l' ≤ 502 := by have h0 := hfx; unfold fits at h0; omega
            have hlx125 := fits_count hfx
            have CG := fun (q : Nat) (W : World) (hx : Below wx.heap.size wx W) => get_any _ _ _ _ (q : Int) W (hTx.later hx hTx.pos) (hRx.later hx)
            have CI := fun (W : World) (hx : Below wx.heap.size wx W) => right_any _ _ _ _ W (hTx.later hx hTx.pos) (hRx.later hx)
            have CM := fun (W : World) (hx : Below wx.heap.size wx W) => roomN_any _ _ _ _ W (hTx.later hx hTx.pos) (hRx.later hx)
            have CL := fun (W : World) (hx : Below wx.heap.size wx W) => slotsN_any _ _ _ _ W (hTx.later hx hTx.pos) (hRx.later hx)
            simp only [hpgx] at CG CI CM CL
            have HM : Hid (MW wx w1.heap.size (k + 1) (getS (some l'))) := hMx
            have HP : Hid (Pb wx g' (pageL l') ∧ fits l' ∧ lastOk l') := ⟨hPx, hfx, hlx⟩
            have HUX : Hid (used l' ≤ 502) := hux
            have HL : Hid (l'.length ≤ 125) := hlx125
            clear hMx hPx hfx hlx hpgx hRx hTx hux hlx125
            go_wp2_with fail
            go_loopw [5, 21] (fun u j wy => ∃ (q m : Nat), q ≤ 130 ∧ j = .int .i64 q ∧ u = .int .i64 (m : Int) ∧ Hid (m = used (l'.take q)) ∧ Below wx.heap.size wx wy) (fun _ j _ => 130 - (intOf j).toNat)
            case atStart => exact ⟨0, 0, by omega, rfl, rfl, rfl, Below.refl _ _⟩
            case round =>
              obtain ⟨q, m, hq, rfl, rfl, hm, hby⟩ := hrel
              have hmm2 : m ≤ 502 := by rw [hm.out]; exact Nat.le_trans (used_take_le l' q) HUX.out
              by_cases hq2 : q < 130
              · have CGq := CG q wr hby
                have hst := used_step l' q
                rw [← hm.out] at hst
                have hst2 : used (l'.take (q + 1)) ≤ 502 := Nat.le_trans (used_take_le l' (q + 1)) HUX.out
                have HST : Hid (used (l'.take (q + 1)) = m + (sb (getS (some l') (q : Int))).length) := hst
                have hsl : m + (sb (getS (some l') (q : Int))).length ≤ 502 := by omega
                have LK := fun (W : World) (hx : Below wx.heap.size wx W) => (HM.out.later hx).look (q : Int) ⟨by omega, by omega⟩
                clear hst hst2 CG CI CM CL
                generalize getS (some l') (q : Int) = gq at *
                go_wp2_with fail
                refine CGq.mono ?_
                rintro e wz ⟨ag, cg, rfl, hO, bz⟩
                clear CGq
                have hbz := hby.trans (bz.mono hby.size)
                obtain ⟨ao4, cap4, hv4, hR4, _⟩ := hO.rd
                cases hv4
                have q4 := run_string_of (P := Tryd.prog) 22 9 5 Tryd.underlying22 Tryd.underlying5 Tryd.underlying9 hR4
                have LKz := LK wz hbz
                clear LK hO hR4
                go_wp2
                go_roundw
                case rel => exact ⟨q + 1, m + (sb gq).length, by omega, by go_num, by go_num, HST.out.symm, hbz⟩
                case measure => simp [intOf]; omega
              · obtain rfl : q = 130 := by omega
                have hmu : m = used l' := by rw [hm.out, List.take_of_length_le (by have := HL.out; omega)]
                have eR : roomP (some l') = 502 - 4 * (l'.length : Int) - (m : Int) := by rw [hmu]; rfl
                have CIq := CI wr hby
                have hll : l'.length ≤ 125 := HL.out
                simp only [eR] at CM
                clear hmu eR CG CI hm
                simp only [Option.getD_some] at CL
                generalize hNN : l'.length = NN at *
                clear hNN
                go_wp2_with fail
                refine CIq.mono ?_
                rintro e wa ⟨rfl, ba⟩
                have hba := hby.trans (ba.mono hby.size)
                go_wp2_with fail
                refine (CM wa hba).mono ?_
                rintro e wb ⟨rfl, bb⟩
                have hbb := hba.trans (bb.mono hba.size)
                go_wp2_with fail
                refine (CL wb hbb).mono ?_
                rintro e wc ⟨rfl, bc⟩
                have hbc := hbb.trans (bc.mono hbb.size)
                clear CM CL CIq
                go_wp2
                skip
                go_roundw
                case rel => exact ⟨k + 1, g', l', (m : Int), by omega, by omega, by go_num, rfl, rfl, ⟨HP.out.1.later hbc HP.out.1.lt, HP.out.2⟩, HM.out.later hbc, hBx.trans (hbc.mono hBx.size)⟩
                case measure => simp [intOf]; omega
      · clear hS
        go_wp2_with fail
        refine CK.mono ?_
        rintro e w3 ⟨rfl, b3⟩
        go_wp2
        go_ret
        exact ⟨rfl, hB.trans (b3.mono hB.size)⟩
    · clear hS
      go_wp2_with fail
      refine CK.mono ?_
      rintro e w3 ⟨rfl, b3⟩
      go_wp2
      go_ret
      exact ⟨rfl, hB.trans (b3.mono hB.size)⟩
end Go.Proofs.YtacbdiinacdoaaaDoor
