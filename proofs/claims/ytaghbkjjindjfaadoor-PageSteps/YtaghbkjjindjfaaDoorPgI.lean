/-
  The contract of page.Insert.
-/
import Derived.Test.YtaghbkjjindjfaaDoorPgG
namespace Go.Proofs.YtaghbkjjindjfaaDoor
open Go.RowKit Go.Shelf

theorem heap_set (w : World) (g i : Nat) (cur : Array Value) (t : TypeId) (v : Value) (h : w.heap[g]? = some (.cells cur t (0, 0))) : (w.setCell ⟨g, i, none⟩ v).heap[g]? = some (.cells (cur.setIfInBounds i v) t (0, 0)) := by
  obtain ⟨hlt, hk⟩ := Array.getElem?_eq_some_iff.1 h
  show (w.heap.modify g _)[g]? = _
  rw [Array.getElem?_eq_getElem (by rw [Array.size_modify]; exact hlt), Array.getElem_modify_self, hk]
  rfl
theorem ccs_set (cs : List Cn) : ∀ (k : Nat) (c : Cn), k < cs.length → ccs (cs.set k c) = ((ccs cs).set (k * 2) (.bool c.t)).set (k * 2 + 1) (.slice c.ao c.n c.cap) := by
  induction cs with
  | nil => intro k c h; simp at h
  | cons d cs ih =>
    intro k c h
    have e : ∀ (d : Cn) (cs : List Cn), ccs (d :: cs) = .bool d.t :: .slice d.ao d.n d.cap :: ccs cs := fun _ _ => rfl
    cases k with
    | zero => simp [e]
    | succ k =>
      rw [List.set_cons_succ, e, e, ih k c (by simpa using h), show (k + 1) * 2 = k * 2 + 1 + 1 by omega]
      simp
/-- A content stored into a row of contents. -/
theorem Cow.set {w : World} {base g cap : Nat} {cs : List Cn} (h : Cow w base (.slice (some ⟨g, 0, none⟩) cs.length cap) cs) (k : Nat) (hk : k < cs.length) (c : Cn) :
    Cow ((w.setCell ⟨g, k * 2, none⟩ (.bool c.t)).setCell ⟨g, k * 2 + 1, none⟩ (.slice c.ao c.n c.cap)) base (.slice (some ⟨g, 0, none⟩) cs.length cap) (cs.set k c) := by
  obtain ⟨h1, h2⟩ := h
  rcases h2 with ⟨h2, _⟩ | ⟨g', cap', cur, hv, hb, hg, hnc, hcm, hcs, htake⟩
  · cases h2
  · cases hv
    refine ⟨by rw [ccs_len], .inr ⟨g, cap, _, by simp, hb, heap_set _ g (k * 2 + 1) _ _ _ (heap_set w g (k * 2) cur _ _ hg), by simpa using hnc, hcm, by simpa using hcs, ?_⟩⟩
    rw [ccs_set cs k c hk, List.length_set, ← htake]
    simp [List.take_set]
theorem Cow.room {w : World} {base g cap : Nat} {cs : List Cn} (h : Cow w base (.slice (some ⟨g, 0, none⟩) cs.length cap) cs) (k : Nat) (hk : k < cs.length) :
    (∃ v, w.cell? ⟨g, k * 2, none⟩ = some v) ∧ (∃ v, w.cell? ⟨g, k * 2 + 1, none⟩ = some v) ∧ w.frozen? ⟨g, k * 2, none⟩ = false ∧ w.frozen? ⟨g, k * 2 + 1, none⟩ = false ∧ base ≤ g ∧ g < w.heap.size := by
  obtain ⟨ao, cap', hv, _, _, hc⟩ := h.cw
  cases hv
  obtain ⟨b, off, e, hA⟩ := hc (by omega)
  cases e
  have := hA k hk
  rw [Nat.zero_add] at this
  obtain ⟨h1, h2⟩ := h
  rcases h2 with ⟨h2, _⟩ | ⟨g', cap', cur, hv, hb, hg, _⟩
  · cases h2
  · cases hv
    exact ⟨⟨_, this.1⟩, ⟨_, this.2⟩, by simp [World.frozen?, hg], by simp [World.frozen?, hg], hb, (Array.getElem?_eq_some_iff.1 hg).1⟩
theorem CsR.set {w : World} {cs : List Cn} {l : List Slt} (h : CsR w cs l) (k : Nat) (c : Cn) (s : Slt) (hc : CnR w c s) : CsR w (cs.set k c) (l.set k s) := by
  refine ⟨by simp [h.1], fun i h1 h2 => ?_⟩
  simp only [List.getElem_set]
  split
  · exact hc
  · exact h.2 i (by simpa using h1) (by simpa using h2)
theorem CsR.snoc {w : World} {cs : List Cn} {l : List Slt} (h : CsR w cs l) (c : Cn) (s : Slt) (hc : CnR w c s) : CsR w (cs ++ [c]) (l ++ [s]) := by
  have e := h.1
  refine ⟨by simp [e], fun i h1 h2 => ?_⟩
  rcases Nat.lt_or_ge i cs.length with hi | hi
  · rw [List.getElem_append_left hi, List.getElem_append_left (by omega)]
    exact h.2 i hi (by omega)
  · have hi2 : i = cs.length := by simp at h1; omega
    subst hi2
    simp only [List.getElem_append_right (Nat.le_refl _), Nat.sub_self, List.getElem_cons_zero]
    rw [List.getElem_append_right (by omega)]
    simpa [e] using hc

theorem usedN_set (cs : List Cn) : ∀ (k : Nat) (c : Cn), usedN (cs.set k c) ≤ usedN cs + c.n := by
  induction cs with
  | nil => intro k c; simp [usedN]
  | cons d cs ih =>
    intro k c
    cases k with
    | zero => simp [usedN]; omega
    | succ k => have := ih k c; simp only [List.set_cons_succ, usedN]; omega
theorem Cow.some {w : World} {base n cap : Nat} {va : Option Addr} {cs : List Cn} (h : Cow w base (.slice va n cap) cs) (hn : 0 < cs.length) : ∃ g, va = Option.some ⟨g, 0, none⟩ := by
  rcases h.2 with ⟨h2, h3⟩ | ⟨g', cap', cur, hv, _⟩
  · omega
  · cases hv; exact ⟨g', rfl⟩

/-- The first empty slot, or the one behind the last. -/
def feS (l : List Slt) : Nat := l.findIdx (fun s => s.isNone)
theorem fe_is {w : World} {cs : List Cn} {l : List Slt} (h : CsR w cs l) {k : Nat} (hk : k ≤ cs.length) (h1 : ∀ i (h : i < cs.length), i < k → cs[i].t = true) (h2 : ∀ h : k < cs.length, cs[k].t = false) : k = feS l := by
  have e := h.1
  unfold feS
  symm
  rcases Nat.lt_or_ge k cs.length with hlt | hge
  · rw [List.findIdx_eq (by omega)]
    refine ⟨?_, fun j hj => ?_⟩
    · have := (h.2 k hlt (by omega)).taken
      rw [h2 hlt] at this
      cases hs : l[k]'(by omega) with
      | none => rfl
      | some r => rw [hs] at this; cases this
    · have := (h.2 j (by omega) (by omega)).taken
      rw [h1 j (by omega) hj] at this
      cases hs : l[j]'(by omega) with
      | none => rw [hs] at this; cases this
      | some r => rfl
  · have : k = l.length := by omega
    subst this
    rw [List.findIdx_eq_length]
    intro x hx
    obtain ⟨j, hj, rfl⟩ := List.getElem_of_mem hx
    have := (h.2 j (by omega) hj).taken
    rw [h1 j (by omega) (by omega)] at this
    cases hs : l[j] with
    | none => rw [hs] at this; cases this
    | some r => rfl
/-- What Insert makes of slots. -/
def insL (l : List Slt) (r : List UInt8) : List Slt := if feS l = l.length then l ++ [some r] else l.set (feS l) (some r)
/-- Insert's error. -/
def insE : Option (List Slt) → List UInt8 → Int
  | none, _ => 21
  | some l, r => if fits (insL l r) then 0 else 7
/-- The bytes that a step leaves: those of a page, or none. -/
def Leaves (w' : World) (base : Nat) (v : Value) : Option (List Slt) → Prop
  | none => v = .slice none 0 0
  | some l => ∃ g, v = .slice (some ⟨g, 0, none⟩) 512 512 ∧ base ≤ g ∧ Pb w' g (pageL l)
def insP : Option (List Slt) → List UInt8 → Option (List Slt)
  | none, _ => none
  | some l, r => if fits (insL l r) then some (insL l r) else none
def insK (o : Option (List Slt)) (r : List UInt8) : Nat := match insP o r with
  | none => 0
  | some _ => feS (o.getD [])

set_option maxRecDepth 20000 in
set_option maxHeartbeats 4000000 in
theorem insert_any (ao : Option Addr) (n cap : Nat) (bs : List UInt8) (ro : Option Addr) (m rcap : Nat) (r : List UInt8) (w : World) (hT : Tab w) (hR : Rd w ao n cap bs) (hr : Rd w ro m rcap r) (hm : m ≤ 140737488355328) :
    Calls Tryd.prog 18 #[.slice ao n cap, .slice ro m rcap] w fun e w' => ∃ v, e = .returned (.tuple #[v, .int .i64 (insK (pg bs) r : Int), .int .i64 (insE (pg bs) r)]) ∧ Leaves w' w.heap.size v (insP (pg bs) r) ∧ Below w.heap.size w w' := by
  have C := read_any ao n cap bs w hT hR
  cases hp : pg bs with
  | none =>
    rw [hp] at C
    clear hR
    go_enter Tryd.func18, Tryd.ntmps18
    go_wp2_with fail
    refine C.mono ?_
    rintro e w' ⟨v, rfl, hv, b1⟩
    obtain rfl : v = .slice none 0 0 := hv
    go_wp2
    go_ret3
    exact ⟨_, rfl, rfl, b1⟩
  | some l =>
    rw [hp] at C
    have hfl : fits l := (pg_some hp).2.1
    have hcnt := fits_count hfl
    clear hR hp
    go_enter Tryd.func18, Tryd.ntmps18
    go_wp2_with fail
    refine C.mono ?_
    rintro e w1 ⟨v, rfl, ⟨cs, hc, hrel⟩, b1⟩
    obtain ⟨va, vc, rfl, h1, h2, h3⟩ := hc.cw
    clear C
    have hcl := hrel.1
    have hus := hrel.used
    unfold fits at hfl
    have CF := firstEmpty_any va vc cs w1 h3 (by omega)
    have hl1 : cs.length ≤ 125 := by omega
    have hu1 : usedN cs ≤ 502 := by omega
    have HF : Hid (4 * l.length + used l ≤ 502) := hfl
    clear hcl hus hfl hcnt
    go_wp2_with fail
    refine CF.mono ?_
    rintro e w2 ⟨k, hk, rfl, hk1, hk2, b2⟩
    have hke := fe_is hrel hk hk1 hk2
    have HKE : Hid (k = feS l) := hke
    have hc3 := hc.later b2
    have hB3 := b1.trans (b2.mono b1.size)
    clear CF hk1 hk2 hc h3 hke b1 b2
    by_cases hkn : k = cs.length
    · obtain ⟨i0, hi, hz0, hz1, hz2⟩ := info_parts Tryd.info49
      subst hkn
      go_wp2_with (at_builtin; refine wpList_append_own _ rfl _ _ 55 rfl w.heap.size 49 i0 (.agg #[.bool false, .slice none 0 0]) 2 32 Tryd.underlying55 hi hz0 hz1 hz2 rfl (by decide) _ _ _ rfl (World.ownsRow.alloc hc3 _) ⟨w2.heap.size, 0, none⟩ 1 1 [.bool false, .slice none 0 0] rfl rfl (two_new _ _ _ _) (by simp [Value.oneCell']) (by unfold maxLen; omega) (by omega) (by have := hB3.size; simp; omega) ?_; intro v' w3 hown' hgrow _; obtain ⟨g, cap', rfl⟩ := ownsRow_succ hown')
      have hB3' : Below w.heap.size w w3 := (hB3.alloc hB3.size _).grown hgrow (by have := hB3.size; simp; omega) (fun k hk => (World.ownsRow.lt hc3 k hk).1)
      have hc3' : Cow w3 w.heap.size (.slice (some ⟨g, 0, none⟩) (cs ++ [Cn.z]).length cap') (cs ++ [Cn.z]) := by
        unfold Cow
        rw [ccs_snoc, List.length_append]
        exact hown'
      clear hc3 hB3 hown' hgrow
      have hc3 := hc3'
      have hB3 := hB3'
      clear hc3' hB3'
      have hk3 : cs.length < (cs ++ [Cn.z]).length := by simp
      go_wp2_with fail
      refine (holding_any ro m rcap _).mono ?_
      rintro e w4 ⟨rfl, b4⟩
      have hc4 := hc3.later b4
      have hB4 := hB3.trans (b4.mono hB3.size)
      obtain ⟨⟨x0, y0⟩, ⟨x1, y1⟩, f0, f1, hbg, hgl⟩ := hc4.room cs.length hk3
      have hc5 := hc4.set cs.length hk3 ⟨true, ro, m, rcap⟩
      have hB5 : Below w.heap.size w ((w4.setCell ⟨g, cs.length * 2, none⟩ (.bool true)).setCell ⟨g, cs.length * 2 + 1, none⟩ (.slice ro m rcap)) := (hB4.setCell (p := ⟨g, cs.length * 2, none⟩) hbg _).setCell (p := ⟨g, cs.length * 2 + 1, none⟩) hbg _
      have hlen5 : (cs ++ [Cn.z]).length = (cs.length + 1) := by simp
      dsimp only at hc5
      rw [hlen5] at hc5
      have hk3i : (cs.length : Int) < ((cs.length + 1) : Int) := by omega
      clear hc3 hc4 b4
      go_wp2_with fail
      generalize (w4.setCell ⟨g, cs.length * 2, none⟩ (.bool true)).setCell ⟨g, cs.length * 2 + 1, none⟩ (.slice ro m rcap) = w5 at *
      obtain ⟨va5, vc5, hv5, h51, h52, h53⟩ := hc5.cw
      have hl5 : ((cs ++ [Cn.z]).set cs.length ⟨true, ro, m, rcap⟩).length = (cs.length + 1) := by rw [List.length_set]; exact hlen5
      rw [hl5] at hv5
      cases hv5
      have hrel5 : CsR w ((cs ++ [Cn.z]).set cs.length ⟨true, ro, m, rcap⟩) (insL l r) := by 
        have h0 := (hrel.snoc Cn.z none rfl).set cs.length ⟨true, ro, m, rcap⟩ (some r) ⟨rfl, hr⟩
        have e0 : insL l r = (l ++ [none]).set cs.length (some r) := by
          unfold insL
          rw [if_pos (by rw [← HKE.out]; exact hrel.1), hrel.1]
          simp
        rw [e0]
        exact h0
      have hu5 := hrel5.used
      have hn5 := hrel5.1
      have hmr := hr.1
      have hus5 : usedN ((cs ++ [Cn.z]).set cs.length ⟨true, ro, m, rcap⟩) ≤ 4611686018427387904 := by 
        have h0 := hu5
        rw [h0]
        have e0 : insL l r = l ++ [some r] := by unfold insL; rw [if_pos (by rw [← HKE.out]; exact hrel.1)]
        have hf0 := HF.out
        rw [e0, used_append]
        simp only [used, sb, Option.getD_some]
        omega
      have CR := room_any (some ⟨g, 0, none⟩) cap' _ w5 h53 (by omega) hus5
      have CW := fun (hf : fits (insL l r)) (Wx : World) (hx : Below w5.heap.size w5 Wx) => write_any (some ⟨g, 0, none⟩) cap' _ (insL l r) Wx (hT.later (hB5.trans (hx.mono hB5.size)) hT.pos) (h53.later hx) (hrel5.later (hB5.trans (hx.mono hB5.size))) hf
      rw [hl5] at CR CW
      obtain ⟨rm, hrm⟩ : ∃ rm : Int, rm = 502 - 4 * ((cs.length + 1 : Nat) : Int) - (usedN ((cs ++ [Cn.z]).set cs.length ⟨true, ro, m, rcap⟩) : Int) := ⟨_, rfl⟩
      rw [← hrm] at CR
      by_cases hfit : fits (insL l r)
      · have hr0 : ¬ rm < 0 := by unfold fits at hfit; omega
        have CW2 := CW hfit
        have HFI : Hid (fits (insL l r)) := hfit
        clear hrm hu5 hn5 hmr hus5 hl5 hlen5 CW hfit HF
        go_wp2_with fail
        refine CR.mono ?_
        rintro e w6 ⟨rfl, b6⟩
        clear CR
        go_wp2_with fail
        refine (CW2 w6 b6).mono ?_
        rintro e w7 ⟨gg, rfl, hg7, hP7, b7⟩
        clear CW2
        have hB7 := (hB5.trans (b6.mono hB5.size)).trans (b7.mono (Nat.le_trans hB5.size b6.size))
        go_wp2
        go_ret3
        have e1 : insP (some l) r = some (insL l r) := if_pos HFI.out
        have e2 : insE (some l) r = 0 := if_pos HFI.out
        have e3 : insK (some l) r = cs.length := by unfold insK; rw [e1]; exact HKE.out.symm
        rw [e1, e2, e3]
        exact ⟨_, rfl, ⟨gg, rfl, Nat.le_trans (Nat.le_trans hB5.size b6.size) hg7, hP7⟩, hB7⟩
      · have hr0 : rm < 0 := by unfold fits at hfit; omega
        have e1 : Hid (insP (some l) r = none) := if_neg hfit
        have e2 : Hid (insE (some l) r = 7) := if_neg hfit
        have e3 : Hid (insK (some l) r = 0) := by unfold insK; rw [e1.out]; exact rfl
        clear hrm hu5 hn5 hmr hus5 hl5 hlen5 CW hfit HF
        go_wp2_with fail
        refine CR.mono ?_
        rintro e w6 ⟨rfl, b6⟩
        clear CR
        go_wp2
        go_ret3
        rw [e1.out, e2.out, e3.out]
        exact ⟨_, rfl, rfl, hB5.trans (b6.mono hB5.size)⟩
    · have hkd : decide ((k : Int) = (cs.length : Int)) = false := decide_eq_false (by omega)
      have hki : ¬ (k : Int) = (cs.length : Int) := by omega
      have hk3 : k < cs.length := by omega
      obtain ⟨g, rfl⟩ := hc3.some (by omega)
      go_wp2_with fail
      refine (holding_any ro m rcap _).mono ?_
      rintro e w4 ⟨rfl, b4⟩
      have hc4 := hc3.later b4
      have hB4 := hB3.trans (b4.mono hB3.size)
      obtain ⟨⟨x0, y0⟩, ⟨x1, y1⟩, f0, f1, hbg, hgl⟩ := hc4.room k hk3
      have hc5 := hc4.set k hk3 ⟨true, ro, m, rcap⟩
      have hB5 : Below w.heap.size w ((w4.setCell ⟨g, k * 2, none⟩ (.bool true)).setCell ⟨g, k * 2 + 1, none⟩ (.slice ro m rcap)) := (hB4.setCell (p := ⟨g, k * 2, none⟩) hbg _).setCell (p := ⟨g, k * 2 + 1, none⟩) hbg _
      have hlen5 : cs.length = cs.length := by rfl
      dsimp only at hc5
      have hk3i : (k : Int) < (cs.length : Int) := by omega
      clear hc3 hc4 b4
      go_wp2_with fail
      generalize (w4.setCell ⟨g, k * 2, none⟩ (.bool true)).setCell ⟨g, k * 2 + 1, none⟩ (.slice ro m rcap) = w5 at *
      obtain ⟨va5, vc5, hv5, h51, h52, h53⟩ := hc5.cw
      have hl5 : (cs.set k ⟨true, ro, m, rcap⟩).length = cs.length := List.length_set
      rw [hl5] at hv5
      cases hv5
      have hrel5 : CsR w (cs.set k ⟨true, ro, m, rcap⟩) (insL l r) := by 
        have h0 := hrel.set k ⟨true, ro, m, rcap⟩ (some r) ⟨rfl, hr⟩
        have e0 : insL l r = l.set k (some r) := by
          unfold insL
          rw [if_neg (by rw [← HKE.out, ← hrel.1]; exact hkn), ← HKE.out]
        rw [e0]
        exact h0
      have hu5 := hrel5.used
      have hn5 := hrel5.1
      have hmr := hr.1
      have hus5 : usedN (cs.set k ⟨true, ro, m, rcap⟩) ≤ 4611686018427387904 := by 
        have h0 := usedN_set cs k ⟨true, ro, m, rcap⟩
        dsimp only at h0
        omega
      have CR := room_any (some ⟨g, 0, none⟩) vc _ w5 h53 (by omega) hus5
      have CW := fun (hf : fits (insL l r)) (Wx : World) (hx : Below w5.heap.size w5 Wx) => write_any (some ⟨g, 0, none⟩) vc _ (insL l r) Wx (hT.later (hB5.trans (hx.mono hB5.size)) hT.pos) (h53.later hx) (hrel5.later (hB5.trans (hx.mono hB5.size))) hf
      rw [hl5] at CR CW
      obtain ⟨rm, hrm⟩ : ∃ rm : Int, rm = 502 - 4 * (cs.length : Int) - (usedN (cs.set k ⟨true, ro, m, rcap⟩) : Int) := ⟨_, rfl⟩
      rw [← hrm] at CR
      by_cases hfit : fits (insL l r)
      · have hr0 : ¬ rm < 0 := by unfold fits at hfit; omega
        have CW2 := CW hfit
        have HFI : Hid (fits (insL l r)) := hfit
        clear hrm hu5 hn5 hmr hus5 hl5 hlen5 CW hfit HF
        go_wp2_with fail
        refine CR.mono ?_
        rintro e w6 ⟨rfl, b6⟩
        clear CR
        go_wp2_with fail
        refine (CW2 w6 b6).mono ?_
        rintro e w7 ⟨gg, rfl, hg7, hP7, b7⟩
        clear CW2
        have hB7 := (hB5.trans (b6.mono hB5.size)).trans (b7.mono (Nat.le_trans hB5.size b6.size))
        go_wp2
        go_ret3
        have e1 : insP (some l) r = some (insL l r) := if_pos HFI.out
        have e2 : insE (some l) r = 0 := if_pos HFI.out
        have e3 : insK (some l) r = k := by unfold insK; rw [e1]; exact HKE.out.symm
        rw [e1, e2, e3]
        exact ⟨_, rfl, ⟨gg, rfl, Nat.le_trans (Nat.le_trans hB5.size b6.size) hg7, hP7⟩, hB7⟩
      · have hr0 : rm < 0 := by unfold fits at hfit; omega
        have e1 : Hid (insP (some l) r = none) := if_neg hfit
        have e2 : Hid (insE (some l) r = 7) := if_neg hfit
        have e3 : Hid (insK (some l) r = 0) := by unfold insK; rw [e1.out]; exact rfl
        clear hrm hu5 hn5 hmr hus5 hl5 hlen5 CW hfit HF
        go_wp2_with fail
        refine CR.mono ?_
        rintro e w6 ⟨rfl, b6⟩
        clear CR
        go_wp2
        go_ret3
        rw [e1.out, e2.out, e3.out]
        exact ⟨_, rfl, rfl, hB5.trans (b6.mono hB5.size)⟩
end Go.Proofs.YtaghbkjjindjfaaDoor
