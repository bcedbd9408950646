/-
  The contracts of the document's Insert, Update, Delete.
-/
import Derived.Test.YtaghbkjjindjfaaDoorPgH
namespace Go.Proofs.YtaghbkjjindjfaaDoor
open Go.RowKit

theorem feS_le (l : List Slt) : feS l ≤ l.length := List.findIdx_le_length
theorem feS_none (l : List Slt) (h : feS l < l.length) : l[feS l] = none := by
  have := List.findIdx_getElem (p := fun s : Slt => s.isNone) (xs := l) (w := h)
  unfold feS
  simpa using this
theorem lastOk_snoc (l : List Slt) (r : List UInt8) : lastOk (l ++ [some r]) := by unfold lastOk; simp
theorem lastOk_set (l : List Slt) (k : Nat) (r : List UInt8) (h : lastOk l) : lastOk (l.set k (some r)) := by
  unfold lastOk at *
  rw [List.getLast?_eq_getElem?] at h ⊢
  rw [List.length_set, List.getElem?_set]
  split
  · split
    · simp
    · simp
  · exact h
theorem lastOk_ins (l : List Slt) (r : List UInt8) (h : lastOk l) : lastOk (insL l r) := by
  unfold insL
  split
  · exact lastOk_snoc l r
  · exact lastOk_set l _ r h
theorem strips_one {l a b : List Slt} (h1 : Strips l a) (h2 : Strips l b) : a = b := by
  obtain ⟨i, hi, rfl, n1, o1⟩ := h1
  obtain ⟨j, hj, rfl, n2, o2⟩ := h2
  have key : ∀ (i j : Nat), i < j → j ≤ l.length → (∀ k (h : k < l.length), i ≤ k → l[k] = none) → ¬ lastOk (l.take j) := by
    intro i j hij hjl hn ho
    unfold lastOk at ho
    rw [List.getLast?_eq_getElem?, List.length_take, Nat.min_eq_left hjl, List.getElem?_take, if_pos (by omega), List.getElem?_eq_getElem (by omega)] at ho
    exact ho (by rw [hn (j - 1) (by omega) (by omega)])
  rcases Nat.lt_trichotomy i j with h | h | h
  · exact absurd o2 (key i j h hj n1)
  · rw [h]
  · exact absurd o1 (key j i h hi n2)
theorem used_put (l : List Slt) : ∀ (k : Nat) (h : k < l.length) (s : Slt), used (l.set k s) + (sb l[k]).length = used l + (sb s).length := by
  induction l with
  | nil => intro k h; simp at h
  | cons x l ih =>
    intro k h s
    cases k with
    | zero => simp [used]; omega
    | succ k => have := ih k (by simpa using h) s; simp only [List.set_cons_succ, used, List.getElem_cons_succ]; omega
theorem BOw.setB {w : World} {base g cap : Nat} {cs : List Cn} (h : BOw w base (.slice (.some ⟨g, 0, none⟩) cs.length cap) cs) (k : Nat) (hk : k < cs.length) (ao : Option Addr) (n c : Nat) :
    BOw (w.setCell ⟨g, k * 2, none⟩ (.slice ao n c)) base (.slice (.some ⟨g, 0, none⟩) cs.length cap) (cs.set k ⟨cs[k].t, ao, n, c⟩) := by
  have hb : (bcs cs)[k * 2 + 1]? = .some (.bool cs[k].t) := (bcs_at cs k hk).2
  obtain ⟨h1, h2⟩ := h
  rcases h2 with ⟨h2, _⟩ | ⟨g', cap', cur, hv, hbb, hg, hnc, hcm, hcs, htake⟩
  · cases h2
  · cases hv
    refine ⟨by rw [bcs_len], .inr ⟨g, cap, _, by simp, hbb, heap_set w g (k * 2) cur _ _ hg, by simpa using hnc, hcm, by simpa using hcs, ?_⟩⟩
    rw [bcs_set cs k _ hk, List.length_set, ← htake]
    rw [← htake] at hb
    simp only [Array.toList_setIfInBounds, List.take_set]
    apply List.ext_getElem?
    intro i
    rw [List.getElem?_set, List.getElem?_set, List.getElem?_set]
    by_cases e : k * 2 + 1 = i
    · subst e
      rw [if_neg (by omega), if_pos rfl, hb]
      have hlt : k * 2 + 1 < (List.take (cs.length * 2) cur.toList).length := (List.getElem?_eq_some_iff.1 hb).1
      rw [if_pos (by rw [List.length_set]; exact hlt)]
    · rw [if_neg e]
theorem CsO.set {w : World} {base : Nat} {cs : List Cn} {l : List Slt} (h : CsO w base cs l) (k : Nat) (c : Cn) (s : Slt) (hc : CnO w base c s) : CsO w base (cs.set k c) (l.set k s) := by
  refine ⟨by simp [h.1], fun i h1 h2 => ?_⟩
  simp only [List.getElem_set]
  split
  · exact hc
  · exact h.2 i (by simpa using h1) (by simpa using h2)


set_option maxRecDepth 20000 in
set_option maxHeartbeats 2000000 in
theorem rdelete_bad (ao : Option Addr) (n cap : Nat) (bs : List UInt8) (slot : Int) (w : World) (hR : Rd w ao n cap bs) (hE : tkE (pg bs) slot ≠ 0) :
    Calls Tryd.prog 23 #[.slice ao n cap, .int .i64 slot] w fun e w' => e = .returned (.tuple #[.slice none 0 0, .int .i64 (tkE (pg bs) slot)]) ∧ Below w.heap.size w w' := by
  have C := rread_any ao n cap bs w hR
  clear hR
  have hcnt : ((pg bs).getD []).length ≤ 125 := by
    cases h : pg bs with
    | none => simp
    | some l => exact fits_count (pg_some h).2.1
  generalize pg bs = o at *
  cases o with
  | none =>
    have e0 : tkE none slot = 21 := rfl
    rw [e0]
    clear e0 hE
    go_enter Tryd.func23, Tryd.ntmps23
    go_wp2_with (go_at_call 27; refine C.mono ?_; rintro e w' ⟨v, rfl, b1, cs, hv⟩; obtain ⟨va, vc, rfl, -⟩ := hv.slice)
    go_ret2
    exact ⟨rfl, b1⟩
  | some l =>
    have hg : getS (some l) slot = none := by
      rw [tkE_some] at hE
      cases h : getS (some l) slot with
      | none => rfl
      | some r => rw [h] at hE; exact absurd rfl hE
    have e0 : tkE (some l) slot = 3 := by rw [tkE_some, hg]; rfl
    rw [e0]
    have HG : Hid (getS (some l) slot = none) := hg
    clear e0 hE hg
    simp only [Option.getD_some, Option.isSome_some] at C hcnt
    by_cases h1 : slot < 0
    · go_enter Tryd.func23, Tryd.ntmps23
      go_wp2_with (go_at_call 27; refine C.mono ?_; rintro e w' ⟨v, rfl, b1, cs, hv⟩; obtain ⟨va, vc, rfl, -⟩ := hv.slice)
      go_ret2
      exact ⟨rfl, b1⟩
    by_cases h2 : (l.length : Int) ≤ slot
    · go_enter Tryd.func23, Tryd.ntmps23
      go_wp2_with (go_at_call 27; refine C.mono ?_; rintro e w' ⟨v, rfl, b1, cs, hv⟩; obtain ⟨va, vc, rfl, -⟩ := hv.slice)
      go_ret2
      exact ⟨rfl, b1⟩
    obtain ⟨k, rfl⟩ : ∃ k : Nat, slot = (k : Int) := ⟨slot.toNat, by omega⟩
    have hk : k < l.length := by omega
    have hg : l[k] = none := (getS_at2 (some l) hk).symm.trans HG.out
    clear h1 HG
    go_enter Tryd.func23, Tryd.ntmps23
    go_wp2_with fail
    refine C.mono ?_
    rintro e w' ⟨v, rfl, b1, cs, hv⟩
    obtain ⟨va, vc, rfl, h3, h4, h5, hl⟩ := hv.slice
    obtain ⟨b, off, rfl, hA⟩ := h5 (by omega)
    have hA := hA k (by omega)
    have hc := hv.r.csr.2 k (by omega) hk
    rw [hg] at hc
    generalize cs[k] = c at *
    clear C hg hl h5 hv
    obtain ⟨ct, cao, cn, ccap⟩ := c
    cases hc
    obtain ⟨c0, c1⟩ := hA
    go_wp2
    go_ret2
    exact ⟨rfl, b1⟩

set_option maxRecDepth 20000 in
set_option maxHeartbeats 4000000 in
theorem rdelete_good (ao : Option Addr) (n cap : Nat) (bs : List UInt8) (l : List Slt) (k : Nat) (r0 : List UInt8) (w : World) (hR : Rd w ao n cap bs) (hp : pg bs = some l) (hk : k < l.length) (hlk : l[k] = some r0) :
    Calls Tryd.prog 23 #[.slice ao n cap, .int .i64 (k : Int)] w fun e w' => (∃ ag cg l2, e = .returned (.tuple #[.slice ag (pageL l2).length cg, .int .i64 0]) ∧ Strips (l.set k none) l2 ∧ Rd w' ag (pageL l2).length cg (pageL l2)) ∧ Below w.heap.size w w' := by
  have C := rread_any ao n cap bs w hR
  have hfl : fits l := (pg_some hp).2.1
  have hcnt := fits_count hfl
  have hlast : lastOk l := (pg_some hp).2.2.1
  rw [hp] at C
  clear hR hp
  go_enter Tryd.func23, Tryd.ntmps23
  go_wp2_with fail
  refine C.mono ?_
  rintro e w1 ⟨v, rfl, b1, cs, hv⟩
  simp only [Option.getD_some, Option.isSome_some] at *
  obtain ⟨va, vc, hv0, h3, h4, h5, hl⟩ := hv.slice
  subst hv0
  obtain ⟨g, rfl⟩ := hv.o.some (by omega)
  have hv1 := hv
  rw [← hl] at hv1
  obtain ⟨c0, c1, f0, f1, hbg, hgl⟩ := hv1.o.room k (by omega)
  have hcr := hv.r.csr.2 k (by omega) hk
  rw [hlk] at hcr
  have hct : cs[k].t = true := hcr.1
  rw [hct] at c1
  have hki : (k : Int) < (l.length : Int) := by omega
  have hO := hv1.o.set k (by omega) Cn.z
  have hG : w1.grownBy ((w1.setCell ⟨g, k * 2, none⟩ (.slice none 0 0)).setCell ⟨g, k * 2 + 1, none⟩ (.bool false)) (some g) := (grownBy_set w1 g (k * 2) _).trans (grownBy_set _ g (k * 2 + 1) _)
  have hr2 : CsR _ cs l := (hv1.r.kept hv1.o hG).csr
  have hr3 := hr2.set k Cn.z none rfl
  have hB : Below w.heap.size w ((w1.setCell ⟨g, k * 2, none⟩ (.slice none 0 0)).setCell ⟨g, k * 2 + 1, none⟩ (.bool false)) := b1.grown hG hv.le (fun j hj => by cases hj; exact hbg)
  have hff : fits (l.set k none) := by
    have h0 := used_set_none l k
    unfold fits at *
    rw [List.length_set]
    omega
  dsimp only at hO
  clear C hv hv1 h5 hcr hct hr2 hG hlast hfl
  go_wp2_with fail
  generalize (w1.setCell ⟨g, k * 2, none⟩ (.slice none 0 0)).setCell ⟨g, k * 2 + 1, none⟩ (.bool false) = w2 at *
  obtain ⟨va2, vc2, hv2, h21, h22, h23⟩ := hO.bw
  have hlen : (cs.set k Cn.z).length = l.length := by rw [List.length_set]; exact hl
  have hls : (List.set cs k Cn.z).length = cs.length := List.length_set
  rw [hls] at hv2
  cases hv2
  have CW := rwrite_any (some ⟨g, 0, none⟩) vc _ _ w2 h23 hr3 h21 h22 hff
  rw [hlen] at CW
  clear hO h23 hr3 hlen hls hff h21
  refine CW.mono ?_
  rintro e w3 ⟨v3, l3, rfl, hs3, ho3, b3⟩
  obtain ⟨a3, c3, rfl, hR3, -⟩ := ho3.rd
  have hB3 := hB.trans (b3.mono hB.size)
  have HS : Hid (Strips (l.set k none) l3) := hs3
  have HR : Hid (Rd w3 a3 (pageL l3).length c3 (pageL l3)) := hR3
  clear CW ho3 hs3 hR3 b3
  go_wp2
  go_ret2
  exact ⟨⟨a3, c3, l3, rfl, HS.out, HR.out⟩, hB3⟩

set_option maxRecDepth 20000 in
set_option maxHeartbeats 2000000 in
theorem rupdate_bad (ao : Option Addr) (n cap : Nat) (bs : List UInt8) (slot : Int) (ro : Option Addr) (m rcap : Nat) (w : World) (hR : Rd w ao n cap bs) (hE : tkE (pg bs) slot ≠ 0) :
    Calls Tryd.prog 21 #[.slice ao n cap, .int .i64 slot, .slice ro m rcap] w fun e w' => e = .returned (.tuple #[.slice none 0 0, .int .i64 (tkE (pg bs) slot)]) ∧ Below w.heap.size w w' := by
  have C := rread_any ao n cap bs w hR
  clear hR
  have hcnt : ((pg bs).getD []).length ≤ 125 := by
    cases h : pg bs with
    | none => simp
    | some l => exact fits_count (pg_some h).2.1
  generalize pg bs = o at *
  cases o with
  | none =>
    have e0 : tkE none slot = 21 := rfl
    rw [e0]
    clear e0 hE
    go_enter Tryd.func21, Tryd.ntmps21
    go_wp2_with (go_at_call 27; refine C.mono ?_; rintro e w' ⟨v, rfl, b1, cs, hv⟩; obtain ⟨va, vc, rfl, -⟩ := hv.slice)
    go_ret2
    exact ⟨rfl, b1⟩
  | some l =>
    have hg : getS (some l) slot = none := by
      rw [tkE_some] at hE
      cases h : getS (some l) slot with
      | none => rfl
      | some r => rw [h] at hE; exact absurd rfl hE
    have e0 : tkE (some l) slot = 3 := by rw [tkE_some, hg]; rfl
    rw [e0]
    have HG : Hid (getS (some l) slot = none) := hg
    clear e0 hE hg
    simp only [Option.getD_some, Option.isSome_some] at C hcnt
    by_cases h1 : slot < 0
    · go_enter Tryd.func21, Tryd.ntmps21
      go_wp2_with (go_at_call 27; refine C.mono ?_; rintro e w' ⟨v, rfl, b1, cs, hv⟩; obtain ⟨va, vc, rfl, -⟩ := hv.slice)
      go_ret2
      exact ⟨rfl, b1⟩
    by_cases h2 : (l.length : Int) ≤ slot
    · go_enter Tryd.func21, Tryd.ntmps21
      go_wp2_with (go_at_call 27; refine C.mono ?_; rintro e w' ⟨v, rfl, b1, cs, hv⟩; obtain ⟨va, vc, rfl, -⟩ := hv.slice)
      go_ret2
      exact ⟨rfl, b1⟩
    obtain ⟨k, rfl⟩ : ∃ k : Nat, slot = (k : Int) := ⟨slot.toNat, by omega⟩
    have hk : k < l.length := by omega
    have hg : l[k] = none := (getS_at2 (some l) hk).symm.trans HG.out
    clear h1 HG
    go_enter Tryd.func21, Tryd.ntmps21
    go_wp2_with fail
    refine C.mono ?_
    rintro e w' ⟨v, rfl, b1, cs, hv⟩
    obtain ⟨va, vc, rfl, h3, h4, h5, hl⟩ := hv.slice
    obtain ⟨b, off, rfl, hA⟩ := h5 (by omega)
    have hA := hA k (by omega)
    have hc := hv.r.csr.2 k (by omega) hk
    rw [hg] at hc
    generalize cs[k] = c at *
    clear C hg hl h5 hv
    obtain ⟨ct, cao, cn, ccap⟩ := c
    cases hc
    obtain ⟨c0, c1⟩ := hA
    go_wp2
    go_ret2
    exact ⟨rfl, b1⟩

set_option maxRecDepth 20000 in
set_option maxHeartbeats 4000000 in
theorem rupdate_good (ao : Option Addr) (n cap : Nat) (bs : List UInt8) (l : List Slt) (k : Nat) (r0 : List UInt8) (ro : Option Addr) (m rcap : Nat) (r : List UInt8) (w : World) (hR : Rd w ao n cap bs) (hr : Rd w ro m rcap r) (hm : m ≤ 140737488355328) (hp : pg bs = some l) (hk : k < l.length) (hlk : l[k] = some r0) :
    Calls Tryd.prog 21 #[.slice ao n cap, .int .i64 (k : Int), .slice ro m rcap] w fun e w' => (∃ ag cg, e = .returned (.tuple #[.slice ag (if fits (l.set k (some r)) then pageL (l.set k (some r)) else []).length cg, .int .i64 (if fits (l.set k (some r)) then 0 else 7)]) ∧ Rd w' ag (if fits (l.set k (some r)) then pageL (l.set k (some r)) else []).length cg (if fits (l.set k (some r)) then pageL (l.set k (some r)) else [])) ∧ Below w.heap.size w w' := by
  have C := rread_any ao n cap bs w hR
  have hfl : fits l := (pg_some hp).2.1
  have hcnt := fits_count hfl
  have hlast : lastOk l := (pg_some hp).2.2.1
  rw [hp] at C
  clear hR hp
  go_enter Tryd.func21, Tryd.ntmps21
  go_wp2_with fail
  refine C.mono ?_
  rintro e w1 ⟨v, rfl, b1, cs, hv⟩
  simp only [Option.getD_some, Option.isSome_some] at *
  obtain ⟨va, vc, hv0, h3, h4, h5, hl⟩ := hv.slice
  subst hv0
  obtain ⟨g, rfl⟩ := hv.o.some (by omega)
  have hv1 := hv
  rw [← hl] at hv1
  obtain ⟨c0, c1, f0, f1, hbg, hgl⟩ := hv1.o.room k (by omega)
  have hcr := hv.r.csr.2 k (by omega) hk
  rw [hlk] at hcr
  have hct : cs[k].t = true := hcr.1
  rw [hct] at c1
  have hki : (k : Int) < (l.length : Int) := by omega
  have hO := hv1.o.setB k (by omega) none 0 0
  rw [hct] at hO
  have hG : w1.grownBy (w1.setCell ⟨g, k * 2, none⟩ (.slice none 0 0)) (some g) := grownBy_set w1 g (k * 2) _
  have hr2 := (hv1.r.kept hv1.o hG).set k ⟨true, none, 0, 0⟩ (some []) ⟨rfl, World.ownsRow_nil _ _ _ _⟩
  have hB : Below w.heap.size w (w1.setCell ⟨g, k * 2, none⟩ (.slice none 0 0)) := b1.grown hG hv.le (fun j hj => by cases hj; exact hbg)
  have hle := hv.le
  have hu1 := used_put l k hk (some [])
  have hu2 := used_put l k hk (some r)
  rw [hlk] at hu1 hu2
  simp only [sb, Option.getD_some, List.length_nil, Nat.add_zero] at hu1 hu2
  have hrm := hr.1
  have hfl2 := hfl
  unfold fits at hfl2
  have hfit : fits (l.set k (some r)) ↔ 4 * l.length + used (l.set k (some [])) + m ≤ 502 := by unfold fits; rw [List.length_set]; omega
  have hHL : Hid (lastOk (l.set k (some r))) := lastOk_set l k r hlast
  clear C hv hv1 h5 hcr hct hG hlast hfl
  go_wp2_with fail
  generalize (w1.setCell ⟨g, k * 2, none⟩ (.slice none 0 0)) = w2 at *
  obtain ⟨va2, vc2, hv2, h21, h22, h23⟩ := hO.bw
  have hls : (List.set cs k ⟨true, none, 0, 0⟩).length = cs.length := List.length_set
  rw [hls] at hv2
  cases hv2
  have hu3 := hr2.csr.used
  have CR := rroom_any (some ⟨g, 0, none⟩) vc _ w2 h23 (by rw [hls, hl]; omega) (by rw [hu3]; omega)
  rw [hls, hl, hu3] at CR
  have hc2 : ∃ u, w2.cell? ⟨g, k * 2, none⟩ = some u := by
    have := BOw.room (cap := vc) (g := g) (by rw [hls]; exact hO) k (by rw [hls]; omega)
    exact ⟨_, this.1⟩
  have hg2 := BOw.room (cap := vc) (g := g) (by rw [hls]; exact hO) k (by rw [hls]; omega)
  obtain ⟨d0, -, f0', -, -, hgl2⟩ := hg2
  refine CR.mono ?_
  rintro e w3 ⟨rfl, rfl⟩
  by_cases hf : 4 * l.length + used (l.set k (some [])) + m ≤ 502
  · have hcond : ¬ (502 - 4 * (l.length : Int) - (used (l.set k (some [])) : Int)) < (m : Int) := by omega
    have HF : Hid (fits (l.set k (some r))) := hfit.2 hf
    have hO3 := BOw.setB (cap := vc) (g := g) (by rw [hls]; exact hO) k (by rw [hls]; omega) ro m rcap
    have hgt : ((List.set cs k ⟨true, none, 0, 0⟩)[k]'(by rw [hls]; omega)).t = true := by simp
    rw [hgt, List.set_set, hls] at hO3
    have hG3 : w2.grownBy (w2.setCell ⟨g, k * 2, none⟩ (.slice ro m rcap)) (some g) := grownBy_set w2 g (k * 2) _
    have hr3 : CsR (w2.setCell ⟨g, k * 2, none⟩ (.slice ro m rcap)) _ _ := (hr2.kept hO hG3).csr
    have hB3 : Below w.heap.size w (w2.setCell ⟨g, k * 2, none⟩ (.slice ro m rcap)) := hB.grown hG3 hB.size (fun j hj => by cases hj; exact hbg)
    have hr4 := hr3.set k ⟨true, ro, m, rcap⟩ (some r) ⟨rfl, hr.later hB3⟩
    rw [List.set_set, List.set_set] at hr4
    clear CR hfit hu1 hu2 hu3 hr2 hr3 hO hG3 hrm hfl2 h23 hgt
    go_wp2_with fail
    generalize (w2.setCell ⟨g, k * 2, none⟩ (.slice ro m rcap)) = w4 at *
    obtain ⟨va5, vc5, hv5, h51, h52, h53⟩ := hO3.bw
    have hls5 : (List.set cs k ⟨true, ro, m, rcap⟩).length = cs.length := List.length_set
    rw [hls5] at hv5
    cases hv5
    have CW := rwrite_any (some ⟨g, 0, none⟩) vc _ _ w4 h53 hr4 h51 h52 HF.out
    rw [hls5, hl] at CW
    clear hO3 h53 hr4 hls5 h51
    refine CW.mono ?_
    rintro e w5 ⟨v5, l5, rfl, hs5, ho5, b5⟩
    obtain rfl := strips_last hs5 hHL.out
    obtain ⟨a5, c5, rfl, hR5, -⟩ := ho5.rd
    have hB5 := hB3.trans (b5.mono hB3.size)
    have HR : Hid (Rd w5 a5 (pageL (l.set k (some r))).length c5 (pageL (l.set k (some r)))) := hR5
    clear CW ho5 hs5 hR5 b5
    go_wp2
    go_ret2
    simp only
    exact ⟨⟨a5, c5, rfl, HR.out⟩, hB5⟩
  · have hcond : (502 - 4 * (l.length : Int) - (used (l.set k (some [])) : Int)) < (m : Int) := by omega
    have HF : Hid (¬ (fits (l.set k (some r)))) := fun h => hf (hfit.1 h)
    clear CR hfit hu1 hu2 hu3 hr2 hO hrm hfl2 h23
    go_wp2
    go_ret2
    simp only
    exact ⟨⟨none, 0, rfl, Rd.nil _⟩, hB⟩

/-- The bytes of the page that a step leaves. -/
def outB (o : Option (List Slt)) : List UInt8 := (o.map pageL).getD []

set_option maxRecDepth 20000 in
set_option maxHeartbeats 4000000 in
theorem rinsert_any (ao : Option Addr) (n cap : Nat) (bs : List UInt8) (ro : Option Addr) (m rcap : Nat) (r : List UInt8) (w : World) (hR : Rd w ao n cap bs) (hr : Rd w ro m rcap r) (hm : m ≤ 140737488355328) :
    Calls Tryd.prog 19 #[.slice ao n cap, .slice ro m rcap] w fun e w' => (∃ ag cg, e = .returned (.tuple #[.slice ag (outB (insP (pg bs) r)).length cg, .int .i64 (insK (pg bs) r : Int), .int .i64 (insE (pg bs) r)]) ∧ Rd w' ag (outB (insP (pg bs) r)).length cg (outB (insP (pg bs) r))) ∧ Below w.heap.size w w' := by
  have C := rread_any ao n cap bs w hR
  cases hp : pg bs with
  | none =>
    rw [hp] at C
    clear hR hp
    simp only [Option.isSome_none] at C
    go_enter Tryd.func19, Tryd.ntmps19
    go_wp2_with (go_at_call 27; refine C.mono ?_; rintro e w' ⟨v, rfl, b1, cs, hv⟩; obtain ⟨va, vc, rfl, -⟩ := hv.slice)
    go_ret3
    exact ⟨⟨none, 0, rfl, Rd.nil _⟩, b1⟩
  | some l =>
    have hfl : fits l := (pg_some hp).2.1
    have hcnt := fits_count hfl
    have HLA : Hid (lastOk l) := (pg_some hp).2.2.1
    unfold fits at hfl
    obtain ⟨j0, hj, hy0, hy1, hy2⟩ := info_parts Tryd.info54
    rw [hp] at C
    clear hR hp
    simp only [Option.getD_some, Option.isSome_some] at C
    go_enter Tryd.func19, Tryd.ntmps19
    go_wp2_with fail
    refine C.mono ?_
    rintro e w1 ⟨v, rfl, b1, cs, hv⟩
    obtain ⟨va, vc, rfl, h3, h4, h5, hl⟩ := hv.slice
    clear C
    go_wp2_with fail
    go_loop [9] (fun s => ∃ k : Nat, k ≤ l.length ∧ s = .int .i64 k ∧ Hid (∀ i (h : i < cs.length), i < k → cs[i].t = true)) (fun s => l.length - (intOf s).toNat)
    case atStart => exact ⟨0, Nat.zero_le _, rfl, fun i _ h => absurd h (by omega)⟩
    case round =>
      obtain ⟨k, hk, rfl, hm'⟩ := hrel
      by_cases hlt : k < l.length
      · have hkl0 : k < cs.length := by omega
        obtain ⟨b, off, rfl, hA⟩ := h5 (by omega)
        obtain ⟨c0, c1⟩ := hA k hkl0
        have hki0 : (k : Int) < (l.length : Int) := by omega
        cases hct : cs[k].t with
        | true =>
          rw [hct] at c1
          clear h5 hA
          have HCT : Hid (cs[k].t = true) := hct
          clear hct
          go_wp2
          go_round
          case rel => exact ⟨k + 1, by omega, by go_num, fun i hi h => by
            rcases Nat.lt_or_ge i k with h' | h'
            · exact hm'.out i hi h'
            · obtain rfl : i = k := by omega
              exact HCT.out⟩
          case measure => simp [intOf]; omega
        | false =>
          rw [hct] at c1
          have hke := fe_is hv.r.csr (k := k) (by omega) hm'.out (fun h => hct)
          have HFE : Hid (feS l = k) := hke.symm
          have hne : ((k : Int) == (l.length : Int)) = false := beq_eq_false_iff_ne.2 (by omega)
          have HIL : Hid (insL l r = l.set k (some r)) := by show insL l r = _; unfold insL; rw [HFE.out, if_neg (by omega)]
          have hkn : l[k] = none := by
            have := feS_none l (by rw [HFE.out]; exact hlt)
            simpa only [HFE.out] using this
          have hV : RL w.heap.size w w1 (.slice (some ⟨b, off, none⟩) l.length vc) cs l := hv
          have c1' : w1.cell? ⟨b, off + k * 2 + 1, none⟩ = some (.bool false) := c1
          clear h5 hA hct hv hke hm' h3 h4 c0 c1
          have hkl : k < l.length := hlt
          obtain ⟨g, hg⟩ := hV.o.some (by omega)
          cases hg
          rw [Nat.zero_add] at c1'
          obtain ⟨g, hgb⟩ : ∃ g, g = b := ⟨_, rfl⟩
          subst hgb
          obtain ⟨cp, hcp⟩ : ∃ cp, cp = vc := ⟨_, rfl⟩
          subst hcp
          obtain ⟨va3, cp2, hv0, h23, h24, h25, hl2⟩ := hV.slice
          cases hv0
          have hV1 := hV
          rw [← hl2] at hV1
          have hcsr := hV.r.csr
          have hu := hcsr.used
          have hu2 := used_put l k hkl (some r)
          rw [hkn] at hu2
          simp only [sb, Option.getD_some, Option.getD_none, List.length_nil, Nat.add_zero] at hu2
          have hrm := hr.1
          have hfit : fits (insL l r) ↔ 4 * l.length + used l + m ≤ 502 := by rw [HIL.out]; unfold fits; rw [List.length_set]; omega
          have CR := rroom_any (some ⟨g, 0, none⟩) cp cs w1 h25 (by omega) (by rw [hu]; omega)
          rw [hl2, hu] at CR
          obtain ⟨d0, d1, e0, e1, hbg, hgl⟩ := hV1.o.room k (by omega)
          have hO := hV1.o.set k (by omega) ⟨true, ro, m, rcap⟩
          have hG : w1.grownBy ((w1.setCell ⟨g, k * 2, none⟩ (.slice ro m rcap)).setCell ⟨g, k * 2 + 1, none⟩ (.bool true)) (some g) := (grownBy_set w1 g (k * 2) _).trans (grownBy_set _ g (k * 2 + 1) _)
          have hB3 : Below w.heap.size w ((w1.setCell ⟨g, k * 2, none⟩ (.slice ro m rcap)).setCell ⟨g, k * 2 + 1, none⟩ (.bool true)) := hV.bel.grown hG hV.le (fun j hj => by cases hj; exact hbg)
          have hr3 := (hV1.r.kept hV1.o hG).csr.set k ⟨true, ro, m, rcap⟩ (some r) ⟨rfl, hr.later hB3⟩
          have hBx := hV.bel
          have hki : (k : Int) < (l.length : Int) := by omega
          rw [hl2] at hO
          dsimp only at hO
          clear hV hV1 hcsr hu hu2 hrm hG h25
          go_wp2_with fail
          refine CR.mono ?_
          rintro e w3 ⟨rfl, rfl⟩
          by_cases hf : 4 * l.length + used l + m ≤ 502
          · have hcond : ¬ (502 - 4 * (l.length : Int) - (used l : Int)) < (m : Int) := by omega
            have HF : Hid (fits (insL l r)) := hfit.2 hf
            have HLO : Hid (lastOk (insL l r)) := lastOk_ins l r HLA.out
            rw [← HIL.out] at hr3
            clear CR hfit hBx
            go_wp2_with fail
            generalize (w1.setCell ⟨g, k * 2, none⟩ (.slice ro m rcap)).setCell ⟨g, k * 2 + 1, none⟩ (.bool true) = w4 at *
            have hls : (cs.set k ⟨true, ro, m, rcap⟩).length = l.length := by rw [List.length_set]; exact hl2
            have hO2 := hO
            rw [← hls] at hO2
            obtain ⟨va5, vc5, hv5, h51, h52, h53⟩ := hO2.bw
            rw [hls] at hv5
            cases hv5
            have CW := rwrite_any (some ⟨g, 0, none⟩) cp _ _ w4 h53 hr3 h51 h52 HF.out
            rw [hls] at CW
            clear hO hO2 h53 hr3 hls h51
            refine CW.mono ?_
            rintro e w5 ⟨v5, l5, rfl, hs5, ho5, b5⟩
            obtain rfl := strips_last hs5 HLO.out
            obtain ⟨a5, c5, rfl, hR5, -⟩ := ho5.rd
            have hB5 := hB3.trans (b5.mono hB3.size)
            have HR : Hid (Rd w5 a5 (pageL (insL l r)).length c5 (pageL (insL l r))) := hR5
            have E1 : Hid (insP (some l) r = some (insL l r)) := if_pos HF.out
            have E2 : Hid (insE (some l) r = 0) := if_pos HF.out
            have E3 : Hid (insK (some l) r = k) := by show insK (some l) r = k; unfold insK; rw [E1.out]; exact HFE.out
            clear CW ho5 hs5 hR5 b5
            go_wp2
            go_ret3
            rw [E1.out, E2.out, E3.out]
            exact ⟨⟨a5, c5, rfl, HR.out⟩, hB5⟩
          · have hcond : (502 - 4 * (l.length : Int) - (used l : Int)) < (m : Int) := by omega
            have HF : Hid (¬ (fits (insL l r))) := fun h => hf (hfit.1 h)
            have E1 : Hid (insP (some l) r = none) := if_neg HF.out
            have E2 : Hid (insE (some l) r = 7) := if_neg HF.out
            have E3 : Hid (insK (some l) r = 0) := by show insK (some l) r = 0; unfold insK; rw [E1.out]
            clear CR hfit hO hr3 hB3
            go_wp2
            go_ret3
            rw [E1.out, E2.out, E3.out]
            exact ⟨⟨none, 0, rfl, Rd.nil _⟩, hBx⟩
      · obtain rfl : k = l.length := by omega
        have hke := fe_is hv.r.csr (k := l.length) (by omega) hm'.out (fun h => absurd h (by omega))
        have HFE : Hid (feS l = l.length) := hke.symm
        clear hke
        have hcl : cs.length ≤ 125 := by omega
        have hwz := hv.le
        go_wp2_with (at_builtin; refine wpList_append_own _ rfl (.tmp 34) (.tmp 36) 50 rfl w.heap.size 54 j0 _ 2 32 Tryd.underlying50 hj hy0 hy1 hy2 rfl (by decide) _ _ _ rfl (World.ownsRow.alloc hv.o _) ⟨w1.heap.size, 0, none⟩ 1 1 [.slice none 0 0, .bool false] rfl rfl (two_new2 _ _ _ _) (one_slot _ _ _ _) (by unfold maxLen; omega) (by omega) (by simp; exact Nat.le_succ_of_le hwz) ?_)
        intro v' w2 ho2 hgr2 _
        have hV := (hv.later ((Below.refl _ w1).alloc (Nat.le_refl _) (.cells #[.slice none 0 0, .bool false] 54))).push Cn.z none rfl ho2 (by omega) hgr2
        obtain ⟨l2, hl2e⟩ : ∃ l2, l2 = l ++ [none] := ⟨_, rfl⟩
        obtain ⟨cs2, hcs2⟩ : ∃ cs2, cs2 = cs ++ [Cn.z] := ⟨_, rfl⟩
        rw [← hl2e, ← hcs2] at hV
        obtain ⟨k, hkk⟩ : ∃ k, k = l.length := ⟨_, rfl⟩
        rw [← hkk] at HFE
        have hkl : k < l2.length := by rw [hl2e, List.length_append, hkk]; simp
        have hkn : l2[k] = none := by simp only [hl2e, hkk]; simp
        have HIL : Hid (insL l r = l2.set k (some r)) := by
          show insL l r = _
          unfold insL
          rw [HFE.out, if_pos hkk, hl2e, hkk]
          simp
        have h2l : l2.length = k + 1 := by rw [hl2e, List.length_append, hkk]; rfl
        have h2u : used l2 = used l := by rw [hl2e, used_append]; simp [used, sb]
        rw [← hkk] at hcnt hfl
        rw [← hkk]
        obtain ⟨wx, hwx⟩ : ∃ wx, wx = w2 := ⟨_, rfl⟩
        subst hwx
        have hu20 : used l2 ≤ 502 := by omega
        have h2b : l2.length ≤ 126 := by omega
        clear h2l ho2 hgr2 hv hm' h3 h4 h5 hcs2 hwz hl2e h2u hlt hl hk hkk
        obtain ⟨va2, cp, hv0, -⟩ := hV.slice
        subst hv0
        obtain ⟨g, hg⟩ := hV.o.some (by have := hV.r.1; omega)
        subst hg
        obtain ⟨va3, cp2, hv0, h23, h24, h25, hl2⟩ := hV.slice
        cases hv0
        have hV1 := hV
        rw [← hl2] at hV1
        have hcsr := hV.r.csr
        have hu := hcsr.used
        have hu2 := used_put l2 k hkl (some r)
        rw [hkn] at hu2
        simp only [sb, Option.getD_some, Option.getD_none, List.length_nil, Nat.add_zero] at hu2
        have hrm := hr.1
        have hfit : fits (insL l r) ↔ 4 * l2.length + used l2 + m ≤ 502 := by rw [HIL.out]; unfold fits; rw [List.length_set]; omega
        have CR := rroom_any (some ⟨g, 0, none⟩) cp cs2 wx h25 (by omega) (by rw [hu]; omega)
        rw [hl2, hu] at CR
        obtain ⟨d0, d1, e0, e1, hbg, hgl⟩ := hV1.o.room k (by omega)
        have hO := hV1.o.set k (by omega) ⟨true, ro, m, rcap⟩
        have hG : wx.grownBy ((wx.setCell ⟨g, k * 2, none⟩ (.slice ro m rcap)).setCell ⟨g, k * 2 + 1, none⟩ (.bool true)) (some g) := (grownBy_set wx g (k * 2) _).trans (grownBy_set _ g (k * 2 + 1) _)
        have hB3 : Below w.heap.size w ((wx.setCell ⟨g, k * 2, none⟩ (.slice ro m rcap)).setCell ⟨g, k * 2 + 1, none⟩ (.bool true)) := hV.bel.grown hG hV.le (fun j hj => by cases hj; exact hbg)
        have hr3 := (hV1.r.kept hV1.o hG).csr.set k ⟨true, ro, m, rcap⟩ (some r) ⟨rfl, hr.later hB3⟩
        have hBx := hV.bel
        have hki : (k : Int) < (l2.length : Int) := by omega
        rw [hl2] at hO
        dsimp only at hO
        clear hV hV1 hcsr hu hu2 hrm hG h25
        go_wp2_with fail
        refine CR.mono ?_
        rintro e w3 ⟨rfl, rfl⟩
        by_cases hf : 4 * l2.length + used l2 + m ≤ 502
        · have hcond : ¬ (502 - 4 * (l2.length : Int) - (used l2 : Int)) < (m : Int) := by omega
          have HF : Hid (fits (insL l r)) := hfit.2 hf
          have HLO : Hid (lastOk (insL l r)) := lastOk_ins l r HLA.out
          rw [← HIL.out] at hr3
          clear CR hfit hBx
          go_wp2_with fail
          generalize (wx.setCell ⟨g, k * 2, none⟩ (.slice ro m rcap)).setCell ⟨g, k * 2 + 1, none⟩ (.bool true) = w4 at *
          have hls : (cs2.set k ⟨true, ro, m, rcap⟩).length = l2.length := by rw [List.length_set]; exact hl2
          have hO2 := hO
          rw [← hls] at hO2
          obtain ⟨va5, vc5, hv5, h51, h52, h53⟩ := hO2.bw
          rw [hls] at hv5
          cases hv5
          have CW := rwrite_any (some ⟨g, 0, none⟩) cp _ _ w4 h53 hr3 h51 h52 HF.out
          rw [hls] at CW
          clear hO hO2 h53 hr3 hls h51
          refine CW.mono ?_
          rintro e w5 ⟨v5, l5, rfl, hs5, ho5, b5⟩
          obtain rfl := strips_last hs5 HLO.out
          obtain ⟨a5, c5, rfl, hR5, -⟩ := ho5.rd
          have hB5 := hB3.trans (b5.mono hB3.size)
          have HR : Hid (Rd w5 a5 (pageL (insL l r)).length c5 (pageL (insL l r))) := hR5
          have E1 : Hid (insP (some l) r = some (insL l r)) := if_pos HF.out
          have E2 : Hid (insE (some l) r = 0) := if_pos HF.out
          have E3 : Hid (insK (some l) r = k) := by show insK (some l) r = k; unfold insK; rw [E1.out]; exact HFE.out
          clear CW ho5 hs5 hR5 b5
          go_wp2
          go_ret3
          rw [E1.out, E2.out, E3.out]
          exact ⟨⟨a5, c5, rfl, HR.out⟩, hB5⟩
        · have hcond : (502 - 4 * (l2.length : Int) - (used l2 : Int)) < (m : Int) := by omega
          have HF : Hid (¬ (fits (insL l r))) := fun h => hf (hfit.1 h)
          have E1 : Hid (insP (some l) r = none) := if_neg HF.out
          have E2 : Hid (insE (some l) r = 7) := if_neg HF.out
          have E3 : Hid (insK (some l) r = 0) := by show insK (some l) r = 0; unfold insK; rw [E1.out]
          clear CR hfit hO hr3 hB3
          go_wp2
          go_ret3
          rw [E1.out, E2.out, E3.out]
          exact ⟨⟨none, 0, rfl, Rd.nil _⟩, hBx⟩

end Go.Proofs.YtaghbkjjindjfaaDoor
