/-
  The contract of page.write: the page in whose slots contents are: the walk.
-/
import Derived.Test.YtaghbkjjindjfaaDoorPgW
import Derived.Deep.RegionHeld3
import Derived.Deep.AppendLies
namespace Go.Proofs.YtaghbkjjindjfaaDoor
open Go.RowKit

def z512 : List UInt8 := List.replicate 512 0
theorem made_zero (N : Nat) : madeCells (Value.cells (.int .u8 0)) N = (bv (List.replicate N 0)).toArray := by
  unfold madeCells bv
  apply Array.ext
  · simp
  · intro i h1 h2
    simp [Value.cells, Nat.mod_one]
theorem make512 (wx : World) : (Instr.makeSlice 22 (.int .i64 512) (.int .i64 512)).run Tryd.prog wx = .ok (.slice (some ⟨wx.heap.size, 0, none⟩) 512 512) (wx.alloc (.cells (bv z512).toArray 5)) := by
  obtain ⟨i0, hi, hz0, hz1, hz2⟩ := info_parts Tryd.info5
  have h := run_make (P := Tryd.prog) wx 22 5 i0 _ Tryd.underlying22 hi hz0 .i64 .i64 512 512 (by omega) (Int.le_refl _) (by rw [hz2]; omega) (by omega)
  rw [hz1] at h
  rw [h]
  have e : madeCells (Value.cells (.int .u8 0)) ((512 : Int).toNat * 1) = (bv z512).toArray := by
    show madeCells _ 512 = _
    rw [made_zero 512]; rfl
  rw [e]
  rfl
/-- copy into a row of one's own, as a step of a drawn region: all other blocks stay. -/
theorem step_copy_grown {P : Program} {ops : Array Oper} {o : Oper} {a : Act} {w : World} {K : Act → World → Prop} {Q : Exit → Act → World → Prop} {E : Prop} (hgd : o.guard = none) (d s : Operand) (dT sT : TypeId)
    (ho : o.op = .call { callee := .builtin .copy, args := #[d, s], argTypes := #[dT, sT] }) (elem : TypeId) (hu : P.underlying dT = some (.slice elem)) (hsz : (P.info? elem).map (·.size) = some 1)
    (dp sp : Option Addr) (dLen dCap sLen sCap : Nat) (hd : a.eval d = .slice dp dLen dCap) (hs : a.eval s = .slice sp sLen sCap)
    (g off : Nat) (cur : List Value) (t : TypeId) (hg : w.heap[g]? = some (.cells cur.toArray t (0, 0))) (cs : List Value) (hn : cs.length = Nat.min sLen dLen)
    (hpos : 0 < cs.length → dp = some ⟨g, off, none⟩ ∧ ∃ ad, sp = some ad ∧ ∀ j v, cs[j]? = some v → w.cell? (ad.add j) = some v)
    (hfit : off + cs.length ≤ cur.length) (h1 : ∀ v ∈ cs, v.oneCell' = true)
    (h : ∀ w', Hid (w'.heap[g]? = some (.cells (splice cur off cs).toArray t (0, 0))) → w.grownBy w' (some g) → K (a.put o.dst (goInt cs.length)) w') :
    if Region.wanted o (yielded ops a.tmps) = true then Oper.wp P o a w K Q else E := by
  have hw : Region.wanted o (yielded ops a.tmps) = true := by simp [Region.wanted, hgd]
  rw [if_pos hw]
  by_cases h0 : cs.length = 0
  · obtain rfl : cs = [] := List.eq_nil_of_length_eq_zero h0
    have hrun := run_copy_none (P := P) w dT sT o.type elem dp sp dLen dCap sLen sCap hu hsz (by simpa using hn.symm)
    unfold Oper.wp
    simp [execOp, ho, resolve, invoke, builtin, hd, hs, hrun, Result.andThen]
    exact h w (show _ = _ by simpa [splice] using hg) (grownBy_refl w _)
  · obtain ⟨rfl, ad, rfl, hsrc⟩ := hpos (by omega)
    have hrun := run_copy_row (P := P) w dT sT o.type elem g off dLen dCap ad sLen sCap cur.toArray t cs hu hsz hg hn hsrc (by simpa using hfit) h1
    unfold Oper.wp
    simp [execOp, ho, resolve, invoke, builtin, hd, hs, hrun, Result.andThen]
    exact h _ (show _ = _ by simpa [splice] using setRow_heap w g _ _ t _ hg) ⟨rfl, rfl, rfl, by simp [World.setRow], fun k _ hk => setRow_other w g k _ (fun e => hk (by rw [e]))⟩
theorem bv_splice (xs ys : List UInt8) (o : Nat) : splice (bv xs) o (bv ys) = bv (splice xs o ys) := by
  unfold splice bv
  simp

set_option maxRecDepth 20000 in
set_option maxHeartbeats 4000000 in
theorem write_any (ao : Option Addr) (cap : Nat) (cs : List Cn) (l : List Slt) (w : World) (hT : Tab w) (hc : Cw w ao cs) (hr : CsR w cs l) (hf : fits l) :
    Calls Tryd.prog 31 #[.slice ao cs.length cap] w fun e w' => ∃ g, e = .returned (.slice (some ⟨g, 0, none⟩) 512 512) ∧ w.heap.size ≤ g ∧ Pb w' g (pageL l) ∧ Below w.heap.size w w' := by
  have hcnt := fits_count hf
  have HF : Hid (fits l) := hf
  obtain ⟨n, hn⟩ : ∃ n, cs.length = n := ⟨_, rfl⟩
  have HN : Hid (cs.length = n) := hn
  have HL : Hid (l.length = n) := by rw [← hr.1]; exact hn
  rw [← hr.1, hn] at hcnt
  rw [hn]
  clear hn hf
  have hmk := make512
  go_enter Tryd.func31, Tryd.ntmps31
  go_wp2_with fail
  have P0 : Pb (w.alloc (.cells (bv z512).toArray 5)) w.heap.size z512 := heap_alloc_new w _
  have B0 : Below w.heap.size w (w.alloc (.cells (bv z512).toArray 5)) := (Below.refl _ _).alloc (Nat.le_refl _) _
  have S0 : w.heap.size < (w.alloc (.cells (bv z512).toArray 5)).heap.size := by simp
  generalize w.alloc (.cells (bv z512).toArray 5) = w0 at P0 B0 S0 ⊢
  obtain ⟨g, hg⟩ : ∃ g, g = w.heap.size := ⟨_, rfl⟩
  rw [← hg] at P0 S0 ⊢
  have HG : Hid (g = w.heap.size) := hg
  have hGle : w.heap.size ≤ g := by omega
  clear hg
  refine (cut_pos g 0 512 512 0 2 0 _ _ _ (by omega) (by omega) (by omega) (by omega) rfl rfl rfl).mono ?_
  rintro e wq ⟨rfl, rfl⟩
  go_wp2_with fail
  refine (put_at g 0 n _ _ _ P0 (by simp [z512]) (by omega) rfl).mono ?_
  rintro e w1 ⟨⟨v1, rfl⟩, P1, G1⟩
  have B1 := below_of_grown G1 (by omega) B0 hGle
  have S1 : g < w1.heap.size := Nat.lt_of_lt_of_le S0 G1.size
  have P1' : Pb w1 g (stW l 0) := by rw [stW_zero, HL.out]; exact P1
  clear P0 P1 G1 S0 B0
  go_wp2_with fail
  go_loopw [4, 16] (fun r i wr => ∃ (k v : Nat), k ≤ n ∧ i = .int .i64 k ∧ r = .int .i64 (v : Int) ∧ Hid (v + used (l.take k) = 504) ∧ Hid (Pb wr g (stW l k)) ∧ Below w.heap.size w wr ∧ g < wr.heap.size) (fun _ i _ => n - (intOf i).toNat)
  case atStart => exact ⟨0, 504, Nat.zero_le _, rfl, rfl, rfl, P1', B1, S1⟩
  case round =>
    clear P1' B1 S1
    obtain ⟨k, v, hk, rfl, rfl, hv, hP, hB, hS⟩ := hrel
    by_cases hlt : k < n
    · have hkl : k < cs.length := by rw [HN.out]; exact hlt
      have hkl' : k < l.length := by rw [HL.out]; exact hlt
      obtain ⟨b0, off0, rfl, hA⟩ := (hc.later hB) (by omega)
      have hA := hA k hkl
      have hR := (hr.later hB).2 k hkl hkl'
      have hul := used_le l k hkl'
      have hfl := HF.out
      unfold fits at hfl
      obtain ⟨s, hs⟩ : ∃ s, s = l[k] := ⟨_, rfl⟩
      have HS : Hid (l[k] = s) := hs.symm
      rw [← hs] at hR hul
      generalize cs[k] = c at hA hR
      clear hs
      cases s with
      | none =>
        obtain rfl : c = Cn.z := hR
        obtain ⟨h1, h2⟩ := hA
        clear hfl hul
        go_wp2
        go_roundw
        case rel => exact ⟨k + 1, v, by omega, by go_num, rfl, by rw [used_take l k hkl', HS.out]; exact hv.out, by rw [stW_none l k hkl' HF.out HS.out]; exact (show Pb _ _ _ from hP.out).later ((Below.refl _ _).alloc (Nat.le_refl _) _) hS, hB.alloc hB.size _, by simp; omega⟩
        case measure => simp [intOf]; omega
      | some b =>
        obtain ⟨ct, cao, cn, ccap⟩ := c
        obtain ⟨rfl, hrd⟩ := hR
        obtain ⟨h1, h2⟩ := hA
        have hbl' : b.length = cn := hrd.1
        simp only [sb, Option.getD_some] at hul
        have hv' := hv.out
        obtain ⟨en, rfl⟩ : ∃ en, v = en + cn := ⟨v - cn, by omega⟩
        have hen : en + cn ≤ 504 := by omega
        have HST : Hid (splice (splice (splice (stW l k) en b) (2 + 4 * k) (two en)) (2 + 4 * k + 2) (two cn) = stW l (k + 1)) := by
          rw [← hbl']
          exact stW_some l k hkl' HF.out b HS.out en (by omega)
        have HU : Hid (en + used (l.take (k + 1)) = 504) := by
          rw [used_take l k hkl', HS.out]
          simp only [sb, Option.getD_some]
          show _ = _
          omega
        have hst := stW_len l k (Nat.le_of_lt hkl') HF.out
        generalize stW l k = st at hP hst HST
        clear hul hfl hv hv' HS
        have HBL : Hid (b.length = cn) := hbl'
        clear hbl'
        have hS2 : Pb wr g st := hP.out
        go_wp2_with fail
        have hx1 : (wr.alloc (.cells #[.bool true, .slice cao cn ccap] 49)).cell? ⟨wr.heap.size, 1, none⟩ = some (.slice cao cn ccap) := by simp
        have A2 : Below wr.heap.size wr (wr.alloc (.cells #[.bool true, .slice cao cn ccap] 49)) := (Below.refl _ _).alloc (Nat.le_refl _) _
        have HP : Hid (Pb (wr.alloc (.cells #[.bool true, .slice cao cn ccap] 49)) g st) := hS2.later A2 hS
        have hB2 := hB.alloc hB.size (.cells #[.bool true, .slice cao cn ccap] 49)
        have hrd2 := hrd.later A2
        have hxlt : wr.heap.size < (wr.alloc (.cells #[.bool true, .slice cao cn ccap] 49)).heap.size := by simp
        clear hrd h1 h2 hP hS2 A2 hB
        obtain ⟨xb, hxb⟩ : ∃ xb, xb = wr.heap.size := ⟨_, rfl⟩
        rw [← hxb] at hx1 hxlt hS ⊢
        generalize wr.alloc (.cells #[.bool true, .slice cao cn ccap] 49) = w2 at *
        clear hxb
        refine wp_region_held_drew (S := (fun W => W.cell? ⟨xb, 1, none⟩ = some (.slice cao cn ccap))) (by kernel_rfl) ?_ (fun hHeld => ?_)
        · ((try dsimp only); exact hx1)
        refine wpAnyH_take (i := 0) (oi := { dst := some 29, op := Go.Op.move (Go.Operand.tmp 3), type := 22, pos := "layout.go:95", after := #[], guard := none }) (v := ?_) rfl (by kernel_rfl) (by kernel_rfl) (by kernel_rfl) (fun _ _ _ h => h) (Or.inl ⟨by rfl, ?_⟩) (by assumption) ?_
        rotate_left
        · (intro W hSw; (try dsimp only at hSw); first | (go_simp; done) | (go_simp; with_reducible rfl))
        try simp only [Act.put, List.setIfInBounds_toArray, List.set_cons_zero, List.set_cons_succ]
        refine wpAnyH_take (i := 1) (oi := { dst := some 30, op := Go.Op.move (Go.Operand.tmp 4), type := 3, pos := "layout.go:95", after := #[], guard := none }) (v := ?_) rfl (by kernel_rfl) (by kernel_rfl) (by kernel_rfl) (fun _ _ _ h => h) (Or.inl ⟨by rfl, ?_⟩) (by assumption) ?_
        rotate_left
        · (intro W hSw; (try dsimp only at hSw); first | (go_simp; done) | (go_simp; with_reducible rfl))
        try simp only [Act.put, List.setIfInBounds_toArray, List.set_cons_zero, List.set_cons_succ]
        refine wpAnyH_take (i := 2) (oi := { dst := some 31, op := Go.Op.fieldAddr 49 (Go.Operand.tmp 6) 1, type := 0, pos := "layout.go:95", after := #[], guard := none }) (v := ?_) rfl (by kernel_rfl) (by kernel_rfl) (by kernel_rfl) (fun _ _ _ h => h) (Or.inl ⟨by rfl, ?_⟩) (by assumption) ?_
        rotate_left
        · (intro W hSw; (try dsimp only at hSw); first | (go_simp; done) | (go_simp; with_reducible rfl))
        try simp only [Act.put, List.setIfInBounds_toArray, List.set_cons_zero, List.set_cons_succ]
        refine wpAnyH_take (i := 3) (oi := { dst := some 32, op := Go.Op.load 22 (Go.Operand.tmp 31), type := 22, pos := "layout.go:95", after := #[{ on := 2, ground := Go.Ground.data }], guard := none }) (v := ?_) rfl (by kernel_rfl) (by kernel_rfl) (by kernel_rfl) (fun _ _ _ h => h) (Or.inl ⟨by rfl, ?_⟩) (by assumption) ?_
        rotate_left
        · (intro W hSw; (try dsimp only at hSw); first | (go_simp; done) | (go_simp; with_reducible rfl))
        try simp only [Act.put, List.setIfInBounds_toArray, List.set_cons_zero, List.set_cons_succ]
        refine wpAnyH_take (i := 4) (oi := { dst := some 33, op := Go.Op.call { callee := Go.Callee.builtin Go.Builtin.len, args := #[Go.Operand.tmp 32], argTypes := #[22] }, type := 3, pos := "layout.go:95", after := #[{ on := 3, ground := Go.Ground.data }], guard := none }) (v := ?_) rfl (by kernel_rfl) (by kernel_rfl) (by kernel_rfl) (fun _ _ _ h => h) (Or.inl ⟨by rfl, ?_⟩) (by assumption) ?_
        rotate_left
        · (intro W hSw; (try dsimp only at hSw); first | (go_simp; done) | (go_simp; with_reducible rfl))
        try simp only [Act.put, List.setIfInBounds_toArray, List.set_cons_zero, List.set_cons_succ]
        refine wpAnyH_take (i := 6) (oi := { dst := some 35, op := Go.Op.fieldAddr 49 (Go.Operand.tmp 6) 1, type := 0, pos := "layout.go:95", after := #[], guard := none }) (v := ?_) rfl (by kernel_rfl) (by kernel_rfl) (by kernel_rfl) (fun _ _ _ h => h) (Or.inl ⟨by rfl, ?_⟩) (by assumption) ?_
        rotate_left
        · (intro W hSw; (try dsimp only at hSw); first | (go_simp; done) | (go_simp; with_reducible rfl))
        try simp only [Act.put, List.setIfInBounds_toArray, List.set_cons_zero, List.set_cons_succ]
        refine wpAnyH_take (i := 7) (oi := { dst := some 36, op := Go.Op.load 22 (Go.Operand.tmp 35), type := 22, pos := "layout.go:95", after := #[{ on := 6, ground := Go.Ground.data }], guard := none }) (v := ?_) rfl (by kernel_rfl) (by kernel_rfl) (by kernel_rfl) (fun _ _ _ h => h) (Or.inl ⟨by rfl, ?_⟩) (by assumption) ?_
        rotate_left
        · (intro W hSw; (try dsimp only at hSw); first | (go_simp; done) | (go_simp; with_reducible rfl))
        try simp only [Act.put, List.setIfInBounds_toArray, List.set_cons_zero, List.set_cons_succ]
        refine wpAnyH_ready (rs := [5]) (by kernel_rfl) (by simp) ?_
        refine AllReadyH.cons (o := { dst := some 34, op := Go.Op.call { callee := Go.Callee.value (Go.Operand.func 39), args := #[Go.Operand.tmp 29, Go.Operand.tmp 30, Go.Operand.tmp 33], argTypes := #[22, 3, 3] }, type := 22, pos := "layout.go:95", after := #[{ on := 0, ground := Go.Ground.data }, { on := 1, ground := Go.Ground.data }, { on := 4, ground := Go.Ground.data }], guard := none }) rfl (fun K hK => ?_) AllReadyH.nil
        go_simp
        go_wp2_with (go_at_call 39; refine (cut_at g 0 512 512 en cn _ _ _ (by omega) (by omega) (by omega) rfl rfl).mono ?_; rintro e wq ⟨⟨o, ho, rfl⟩, rfl⟩)
        refine hK.out _ _ hHeld (fun hHeld => ?_)
        clear hK K
        try simp only [Act.put, List.setIfInBounds_toArray, List.set_cons_zero, List.set_cons_succ]
        refine wpAnyH_ready (rs := [8]) (by kernel_rfl) (by simp) ?_
        refine AllReadyH.cons (o := { dst := some 37, op := Go.Op.call { callee := Go.Callee.builtin Go.Builtin.copy, args := #[Go.Operand.tmp 34, Go.Operand.tmp 36], argTypes := #[22, 22] }, type := 3, pos := "layout.go:95", after := #[{ on := 5, ground := Go.Ground.data }, { on := 7, ground := Go.Ground.data }, { on := 5, ground := Go.Ground.chain }], guard := none }) rfl (fun K hK => ?_) AllReadyH.nil
        refine step_copy_grown rfl (.tmp 34) (.tmp 36) 22 22 rfl 5 Tryd.underlying22 uint8_size _ _ _ _ _ _ rfl rfl g en (bv st) 5 HP.out (bv b) ?cl ?cp ?cf (bv_cell b) ?_
        case cl => rw [bv_length, HBL.out]; simp
        case cp =>
          intro hpos
          rw [bv_length, HBL.out] at hpos
          refine ⟨by rw [ho hpos, Nat.zero_add], ?_⟩
          obtain ⟨b', off', hao', hcell'⟩ := hrd2.2.2.2.2 hpos
          refine ⟨_, hao', fun j v hj => ?_⟩
          have hjl : j < b.length := by have := (List.getElem?_eq_some_iff.1 hj).1; rwa [bv_length] at this
          rw [bv_at b j hjl] at hj
          rw [Addr.add_lit, ← Option.some.inj hj]
          exact hcell' j hjl
        case cf => rw [bv_length, bv_length, hst, HBL.out]; omega
        intro w3 hg3 hgr3
        refine hK.out _ _ ((hgr3.cell_far _ hxlt (by simp; omega)).trans hHeld) (fun hHeld => ?_)
        clear hK K
        try simp only [Act.put, List.setIfInBounds_toArray, List.set_cons_zero, List.set_cons_succ]
        refine wpAnyH_done (by kernel_rfl) ?_ _
        have P3 : Pb w3 g (splice st en b) := by have := hg3.out; rw [bv_splice] at this; exact this
        have hB3 : Below w.heap.size w w3 := below_of_grown hgr3 (by show g ≤ w2.heap.size; omega) (show Below w.heap.size w w2.drew from hB2.drew) hGle
        have hs3 : (splice st en b).length = 512 := by rw [length_splice _ _ _ (by rw [HBL.out]; omega)]; exact hst
        have hx3 : w3.cell? ⟨xb, 1, none⟩ = some (.slice cao cn ccap) := hHeld
        have hxlt3 : xb < w3.heap.size := Nat.lt_of_lt_of_le hxlt hgr3.size
        clear hg3 hgr3 hHeld HP hB2 hrd2 hxlt hx1 ho
        go_wp2_with fail
        refine (cut_pos g 0 512 512 (2 + 4 * k) 4 (2 + 4 * k) _ _ _ (by omega) (by omega) (by omega) (by omega) (by omega) rfl (by omega)).mono ?_
        rintro e wq ⟨rfl, rfl⟩
        go_wp2_with fail
        refine (cut_pos g (2 + 4 * k) 4 4 0 2 (2 + 4 * k) _ _ _ (by omega) (by omega) (by omega) (by omega) rfl rfl rfl).mono ?_
        rintro e wq ⟨rfl, rfl⟩
        go_wp2_with fail
        refine (put_at g (2 + 4 * k) en _ _ _ P3 (by rw [hs3]; omega) (by omega) rfl).mono ?_
        rintro e w5 ⟨⟨v5, rfl⟩, P5, G5⟩
        have hB5 := below_of_grown G5 (by omega) hB3 hGle
        have hs5 : (splice (splice st en b) (2 + 4 * k) (two en)).length = 512 := by rw [length_splice _ _ _ (by rw [two_len]; omega)]; exact hs3
        have hx1 : w5.cell? ⟨xb, 1, none⟩ = some (.slice cao cn ccap) := (G5.cell_far _ hxlt3 (by simp; omega)).trans hx3
        have hxlt5 : xb < w5.heap.size := Nat.lt_of_lt_of_le hxlt3 G5.size
        have HP5 : Hid (Pb w5 g (splice (splice st en b) (2 + 4 * k) (two en))) := P5
        generalize splice (splice st en b) (2 + 4 * k) (two en) = st5 at HST HP5 hs5
        clear P3 P5 hB3 hs3 hx3 hxlt3 G5 hst
        go_wp2_with fail
        refine wp_region_held_drew (S := (fun W => W.cell? ⟨xb, 1, none⟩ = some (.slice cao cn ccap))) (by kernel_rfl) ?_ (fun hHeld => ?_)
        · ((try dsimp only); exact hx1)
        refine wpAnyH_take (i := 0) (oi := { dst := some 47, op := Go.Op.move (Go.Operand.tmp 7), type := 22, pos := "layout.go:98", after := #[], guard := none }) (v := ?_) rfl (by kernel_rfl) (by kernel_rfl) (by kernel_rfl) (fun _ _ _ h => h) (Or.inl ⟨by rfl, ?_⟩) (by assumption) ?_
        rotate_left
        · (intro W hSw; (try dsimp only at hSw); first | (go_simp; done) | (go_simp; with_reducible rfl))
        try simp only [Act.put, List.setIfInBounds_toArray, List.set_cons_zero, List.set_cons_succ]
        refine wpAnyH_take (i := 2) (oi := { dst := some 49, op := Go.Op.fieldAddr 49 (Go.Operand.tmp 6) 1, type := 0, pos := "layout.go:98", after := #[], guard := none }) (v := ?_) rfl (by kernel_rfl) (by kernel_rfl) (by kernel_rfl) (fun _ _ _ h => h) (Or.inl ⟨by rfl, ?_⟩) (by assumption) ?_
        rotate_left
        · (intro W hSw; (try dsimp only at hSw); first | (go_simp; done) | (go_simp; with_reducible rfl))
        try simp only [Act.put, List.setIfInBounds_toArray, List.set_cons_zero, List.set_cons_succ]
        refine wpAnyH_take (i := 3) (oi := { dst := some 50, op := Go.Op.load 22 (Go.Operand.tmp 49), type := 22, pos := "layout.go:98", after := #[{ on := 2, ground := Go.Ground.data }], guard := none }) (v := ?_) rfl (by kernel_rfl) (by kernel_rfl) (by kernel_rfl) (fun _ _ _ h => h) (Or.inl ⟨by rfl, ?_⟩) (by assumption) ?_
        rotate_left
        · (intro W hSw; (try dsimp only at hSw); first | (go_simp; done) | (go_simp; with_reducible rfl))
        try simp only [Act.put, List.setIfInBounds_toArray, List.set_cons_zero, List.set_cons_succ]
        refine wpAnyH_take (i := 4) (oi := { dst := some 51, op := Go.Op.call { callee := Go.Callee.builtin Go.Builtin.len, args := #[Go.Operand.tmp 50], argTypes := #[22] }, type := 3, pos := "layout.go:98", after := #[{ on := 3, ground := Go.Ground.data }], guard := none }) (v := ?_) rfl (by kernel_rfl) (by kernel_rfl) (by kernel_rfl) (fun _ _ _ h => h) (Or.inl ⟨by rfl, ?_⟩) (by assumption) ?_
        rotate_left
        · (intro W hSw; (try dsimp only at hSw); first | (go_simp; done) | (go_simp; with_reducible rfl))
        try simp only [Act.put, List.setIfInBounds_toArray, List.set_cons_zero, List.set_cons_succ]
        refine wpAnyH_ready (rs := [1]) (by kernel_rfl) (by simp) ?_
        refine AllReadyH.cons (o := { dst := some 48, op := Go.Op.call { callee := Go.Callee.value (Go.Operand.func 39), args := #[Go.Operand.tmp 47, Go.Operand.const (Go.Value.int Go.IntKind.i64 2), Go.Operand.const (Go.Value.int Go.IntKind.i64 2)], argTypes := #[22, 3, 3] }, type := 22, pos := "layout.go:98", after := #[{ on := 0, ground := Go.Ground.data }], guard := none }) rfl (fun K hK => ?_) AllReadyH.nil
        go_simp
        go_wp2_with (go_at_call 39; refine (cut_pos g (2 + 4 * k) 4 4 2 2 (2 + 4 * k + 2) _ _ _ (by omega) (by omega) (by omega) (by omega) rfl rfl rfl).mono ?_; rintro e wq ⟨rfl, rfl⟩)
        refine hK.out _ _ hHeld (fun hHeld => ?_)
        clear hK K
        try simp only [Act.put, List.setIfInBounds_toArray, List.set_cons_zero, List.set_cons_succ]
        refine wpAnyH_ready (rs := [5]) (by kernel_rfl) (by simp) ?_
        refine AllReadyH.cons (o := { dst := some 52, op := Go.Op.call { callee := Go.Callee.value (Go.Operand.func 41), args := #[Go.Operand.tmp 48, Go.Operand.tmp 51], argTypes := #[22, 3] }, type := 0, pos := "layout.go:98", after := #[{ on := 1, ground := Go.Ground.data }, { on := 4, ground := Go.Ground.data }, { on := 1, ground := Go.Ground.chain }], guard := none }) rfl (fun K hK => ?_) AllReadyH.nil
        go_simp
        go_wp2_with (go_at_call 41; refine (put_at g (2 + 4 * k + 2) cn _ _ w5.drew (show Pb w5.drew g st5 from HP5.out) (by rw [hs5]; omega) (by omega) rfl).mono ?_; rintro e w6 ⟨⟨v6, rfl⟩, hp6, hgr6⟩)
        refine hK.out _ _ ((hgr6.cell_far _ hxlt5 (by simp; omega)).trans hHeld) (fun hHeld => ?_)
        clear hK K
        try simp only [Act.put, List.setIfInBounds_toArray, List.set_cons_zero, List.set_cons_succ]
        refine wpAnyH_done (by kernel_rfl) ?_ _
        go_wp2
        go_roundw
        case rel => exact ⟨k + 1, en, by omega, by go_num, rfl, HU.out, by rw [← HST.out]; exact hp6, below_of_grown hgr6 (by show g ≤ w5.heap.size; omega) (show Below w.heap.size w w5.drew from hB5.drew) hGle, Nat.lt_of_lt_of_le (show g < w5.heap.size by omega) hgr6.size⟩
        case measure => simp [intOf]; omega
    · obtain rfl : k = n := by omega
      have hP' : Pb wr g (bodyL l ++ List.replicate 8 0) := by
        have := hP.out
        rw [← HL.out, stW_all] at this
        exact this
      have hbl := bodyL_len l HF.out
      have hrd : Rd wr (some ⟨g, 0, none⟩) 504 504 (bodyL l) := by
        have := hP'.rd 0 504 504 (by simp [hbl]) (Nat.le_refl _) (by decide)
        rw [List.drop_zero, show 504 = (bodyL l).length from hbl.symm, List.take_left] at this
        rw [hbl] at this
        exact this
      have hT' := hT.later hB hT.pos
      clear hP hr hc
      go_wp2_with fail
      refine (cut_pos g 0 512 512 504 8 504 _ _ _ (by omega) (by omega) (by omega) (by omega) rfl rfl rfl).mono ?_
      rintro e wq ⟨rfl, rfl⟩
      go_wp2_with fail
      refine (cut_pos g 0 512 512 0 504 0 _ _ _ (by omega) (by omega) (by omega) (by omega) rfl rfl rfl).mono ?_
      rintro e wq ⟨rfl, rfl⟩
      go_wp2_with fail
      refine (sum_any _ 504 504 (bodyL l) _ hT' hrd).mono ?_
      rintro e wq ⟨rfl, rfl⟩
      go_wp2_with fail
      refine (putSum_any g 504 (crc (bodyL l)) _ _ hP' (by simp [hbl])).mono ?_
      rintro e w7 ⟨⟨v7, rfl⟩, P7, G7⟩
      rw [stW_sum l HF.out] at P7
      have hB7 := below_of_grown G7 (by omega) hB hGle
      go_wp2
      go_ret
      exact ⟨g, rfl, hGle, P7, hB7⟩
end Go.Proofs.YtaghbkjjindjfaaDoor
