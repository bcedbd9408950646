/-
  The document's lexer: its small functions.
  The document's lexer: sign and Word.
  ExprLooks' walk.
  ExprLooks: the row's frame.
  ExprLooks: what the row's form asks of the program's own text.
-/
import Derived.Test.YtclhmmgdhagloaaGreatDoorLTold
import Derived.BigRegion
import Derived.Test.YtclhmmgdhagloaaGreatDoorLRight
import Derived.Test.YtclhmmgdhagloaaGreatDoorMhDText1
import Derived.Test.YtclhmmgdhagloaaGreatDoorXRCol
import Derived.Test.YtclhmmgdhagloaaGreatDoorXRPrt
import Derived.Test.YtclhmmgdhagloaaGreatDoorMYXRVal
import Derived.Test.YtclhmmgdhagloaaGreatDoorXSame6
import Derived.Test.YtclhmmgdhagloaaGreatDoorMSXROp
import Derived.Test.YtclhmmgdhagloaaGreatDoorMREPrtV
import Derived.Test.YtclhmmgdhagloaaGreatDoorMMEOwn
import Derived.ChangeMaps5
import Derived.SizedLaws
import Derived.Carry
import Derived.Test.YtclhmmgdhagloaaGreatDoorMtVFrm3
namespace Go.Proofs.YtclhmmgdhagloaaGreatDoor
open Go.RowKit

theorem rdigit_any (c : UInt8) (w : World) : Calls Tryz.prog 193 #[.int .u8 (c.toNat : Int)] w fun e w' => e = .returned (.bool (isD c)) ∧ w = w' := by
  have e : isD c = (decide ((48 : Int) ≤ (c.toNat : Int)) && decide ((c.toNat : Int) ≤ 57)) := by
    unfold isD
    have e1 : decide (48 ≤ c.toNat) = decide ((48 : Int) ≤ (c.toNat : Int)) := by simp; omega
    have e2 : decide (c.toNat ≤ 57) = decide ((c.toNat : Int) ≤ 57) := by simp; omega
    rw [e1, e2]
  rw [e]
  generalize (c.toNat : Int) = n
  by_cases h1 : (48 : Int) ≤ n
  · rw [decide_eq_true h1]
    go_enter Tryz.func193, Tryz.ntmps193
    go_wp2
    go_ret
    exact ⟨rfl, rfl⟩
  · rw [decide_eq_false h1]
    go_enter Tryz.func193, Tryz.ntmps193
    go_wp2
    go_ret
    exact ⟨rfl, rfl⟩

theorem rletter_any (c : UInt8) (w : World) : Calls Tryz.prog 192 #[.int .u8 (c.toNat : Int)] w fun e w' => e = .returned (.bool (isL c)) ∧ w = w' := by
  have e : isL c = ((decide ((97 : Int) ≤ (c.toNat : Int)) && decide ((c.toNat : Int) ≤ 122)) || ((c.toNat : Int) == 95)) := by
    unfold isL
    have e1 : decide (97 ≤ c.toNat) = decide ((97 : Int) ≤ (c.toNat : Int)) := by simp; omega
    have e2 : decide (c.toNat ≤ 122) = decide ((c.toNat : Int) ≤ 122) := by simp; omega
    have e3 : decide (c.toNat = 95) = ((c.toNat : Int) == 95) := by
      by_cases h : c.toNat = 95
      · rw [h]; rfl
      · rw [decide_eq_false h]; symm; rw [beq_eq_false_iff_ne]; omega
    rw [e1, e2, e3]
  rw [e]
  generalize (c.toNat : Int) = n
  by_cases h1 : (97 : Int) ≤ n
  · rw [decide_eq_true h1]
    by_cases h2 : n ≤ 122
    · rw [decide_eq_true h2]
      go_enter Tryz.func192, Tryz.ntmps192
      go_wp2
      go_ret
      exact ⟨rfl, rfl⟩
    · rw [decide_eq_false h2]
      go_enter Tryz.func192, Tryz.ntmps192
      go_wp2
      go_ret
      exact ⟨rfl, rfl⟩
  · rw [decide_eq_false h1]
    go_enter Tryz.func192, Tryz.ntmps192
    go_wp2
    go_ret
    exact ⟨rfl, rfl⟩

/-- A text's bytes, one by one. -/
theorem bat_get (l : List UInt8) : ∀ (k : Nat) h, (ByteArray.mk l.toArray)[k]'h = bat l k := fun k h => by
  have h' : k < l.length := h
  show l[k] = _
  unfold bat
  simp [List.getD, h']

end Go.Proofs.YtclhmmgdhagloaaGreatDoor

namespace Go.Proofs.YtclhmmgdhagloaaGreatDoor
open Go.RowKit

theorem wordN_all (m : List UInt8) : (wordN m = m.length) ↔ (∀ i (h : i < m.length), isW m[i] = true) := by
  induction m with
  | nil => simp [wordN]
  | cons c m ih =>
    by_cases hc : isW c = true
    · rw [wordN, if_pos hc]
      constructor
      · intro h i hi
        rw [List.length_cons] at h
        match i, hi with
        | 0, _ => exact hc
        | i + 1, hi => exact ih.1 (by omega) i (by simpa using hi)
      · intro h
        have := ih.2 (fun i hi => h (i + 1) (by simpa using hi))
        rw [List.length_cons]
        omega
    · rw [wordN, if_neg hc]
      constructor
      · intro h; simp at h
      · intro h; exact absurd (h 0 (by simp)) hc

/-- A word, byte by byte. -/
def okW (l : List UInt8) (i : Nat) : Bool := isL (bat l i) || (isD (bat l i) && decide (0 < i))
theorem wordL_iff (l : List UInt8) : wordL l = true ↔ ((∀ i, i < l.length → okW l i = true) ∧ 1 ≤ l.length ∧ l.length ≤ 32) := by
  match l with
  | [] => simp [wordL, lxt]
  | c :: m =>
    have hk : ∀ i (h : i < m.length), okW (c :: m) (i + 1) = isW m[i] := by
      intro i h
      unfold okW isW bat
      simp [List.getD, h]
    have h00 : okW (c :: m) 0 = isL c := by unfold okW bat; simp
    unfold wordL
    simp only [Bool.and_eq_true, decide_eq_true_eq]
    constructor
    · rintro ⟨h1, h2, h3⟩
      rw [lxt_cons] at h1 h2
      by_cases hL : isL c = true
      · rw [if_pos hL] at h2
        have hw := (wordN_all m).1 (by simpa using h2)
        refine ⟨?_, by simp, h3⟩
        intro i hi
        match i, hi with
        | 0, _ => rw [h00]; exact hL
        | i + 1, hi => rw [hk i (by simpa using hi)]; exact hw i (by simpa using hi)
      · rw [if_neg hL] at h1
        exfalso
        revert h1
        repeat' split
        all_goals simp
    · rintro ⟨h1, h2, h3⟩
      have hL : isL c = true := by rw [← h00]; exact h1 0 (by simp)
      rw [lxt_cons, if_pos hL]
      refine ⟨rfl, ?_, h3⟩
      have := (wordN_all m).2 (fun i hi => by rw [← hk i hi]; exact h1 (i + 1) (by simpa using hi))
      simp [this]

set_option maxRecDepth 20000 in
set_option maxHeartbeats 4000000 in
theorem rword_any (l : List UInt8) (w : World) (hl : l.length ≤ 140737488351232) : Calls Tryz.prog 125 #[.string ⟨l.toArray⟩] w fun e w' => e = .returned (.bool (wordL l)) ∧ w = w' := by
  have hs : (ByteArray.mk l.toArray).size = l.length := rfl
  have HG : Hid (∀ (k : Nat) h, (ByteArray.mk l.toArray)[k]'h = bat l k) := bat_get l
  obtain ⟨R, hR⟩ : ∃ R, R = wordL l := ⟨_, rfl⟩
  rw [← hR]
  have HR : Hid (R = wordL l) := hR
  clear hR
  have DD : ∀ c, ∀ W, Calls Tryz.prog 193 #[.int .u8 (c.toNat : Int)] W fun e w' => e = .returned (.bool (isD c)) ∧ W = w' := fun c W => rdigit_any c W
  have LL : ∀ c, ∀ W, Calls Tryz.prog 192 #[.int .u8 (c.toNat : Int)] W fun e w' => e = .returned (.bool (isL c)) ∧ W = w' := fun c W => rletter_any c W
  generalize ByteArray.mk l.toArray = S at *
  go_enter Tryz.func125, Tryz.ntmps125
  go_wp2
  go_loopw [3] (fun r3 wr => ∃ k : Nat, r3 = .int .i64 (k : Int) ∧ k ≤ l.length ∧ w = wr ∧ Hid (∀ i, i < k → okW l i = true)) (fun r _ => l.length - (intOf r).toNat)
  case atStart => exact ⟨0, rfl, Nat.zero_le _, rfl, fun i h => by omega⟩
  case round =>
    obtain ⟨k, rfl, hk, rfl, hH⟩ := hrel
    by_cases hlt : k < l.length
    · have hlt' : (k : Int) < (l.length : Int) := by omega
      have j0 : (0 : Int) ≤ (k : Int) := by omega
      have hgk := HG.out k
      have hokk : okW l k = (isL (bat l k) || (isD (bat l k) && decide (0 < k))) := rfl
      obtain ⟨c, hc⟩ : ∃ c, c = bat l k := ⟨_, rfl⟩
      rw [← hc] at hgk hokk
      have Dk := DD c
      have Lk := LL c
      clear HG DD LL hc
      have step : okW l k = true → Hid (∀ i, i < k + 1 → okW l i = true) := by
        intro h
        show ∀ i, i < k + 1 → okW l i = true
        intro i hi
        by_cases h' : i < k
        · exact hH.out i h'
        · have : i = k := by omega
          subst this; exact h
      have stop : okW l k = false → Hid (R = false) := by
        intro h
        show R = false
        rw [HR.out]
        cases hw : wordL l with
        | false => rfl
        | true =>
          have := ((wordL_iff l).1 hw).1 k hlt
          rw [h] at this; cases this
      cases hcl : isL c with
      | true =>
        rw [hcl] at Lk
        have hH' := step (by rw [hokk, hcl]; rfl)
        clear step stop hokk hcl hH HR
        go_wp2_with (first
          | (go_at_call 192; refine (Lk _).mono ?_; rintro e w' ⟨rfl, rfl⟩)
          | (go_at_call 193; refine (Dk _).mono ?_; rintro e w' ⟨rfl, rfl⟩))
        exact ⟨⟨k + 1, by rw [cast1], by omega, trivial, hH'⟩, by simp [intOf] <;> omega⟩
      | false =>
        rw [hcl] at Lk
        cases hcd : isD c with
        | false =>
          rw [hcd] at Dk
          have hR' := stop (by rw [hokk, hcl, hcd]; rfl)
          clear step stop hokk hcl hcd hH HR
          go_wp2_with (first
          | (go_at_call 192; refine (Lk _).mono ?_; rintro e w' ⟨rfl, rfl⟩)
          | (go_at_call 193; refine (Dk _).mono ?_; rintro e w' ⟨rfl, rfl⟩))
          go_ret
          exact ⟨by rw [hR'.out]; rfl, rfl⟩
        | true =>
          rw [hcd] at Dk
          by_cases h0 : 0 < k
          · have h0' : (0 : Int) < (k : Int) := by omega
            have hH' := step (by rw [hokk, hcl, hcd, decide_eq_true h0]; rfl)
            clear step stop hokk hcl hcd hH HR
            go_wp2_with (first
          | (go_at_call 192; refine (Lk _).mono ?_; rintro e w' ⟨rfl, rfl⟩)
          | (go_at_call 193; refine (Dk _).mono ?_; rintro e w' ⟨rfl, rfl⟩))
            exact ⟨⟨k + 1, by rw [cast1], by omega, trivial, hH'⟩, by simp [intOf] <;> omega⟩
          · have h0' : ¬ (0 : Int) < (k : Int) := by omega
            have hR' := stop (by rw [hokk, hcl, hcd, decide_eq_false h0]; rfl)
            clear step stop hokk hcl hcd hH HR
            go_wp2_with (first
          | (go_at_call 192; refine (Lk _).mono ?_; rintro e w' ⟨rfl, rfl⟩)
          | (go_at_call 193; refine (Dk _).mono ?_; rintro e w' ⟨rfl, rfl⟩))
            go_ret
            exact ⟨by rw [hR'.out]; rfl, rfl⟩
    · have hlt' : ¬ (k : Int) < (l.length : Int) := by omega
      have hR' : Hid (R = (decide ((1 : Int) ≤ (l.length : Int)) && decide ((l.length : Int) ≤ 32))) := by
        show R = _
        rw [HR.out]
        have hw := wordL_iff l
        have hall : ∀ i, i < l.length → okW l i = true := fun i hi => hH.out i (by omega)
        by_cases h1 : 1 ≤ l.length ∧ l.length ≤ 32
        · rw [hw.2 ⟨hall, h1⟩, decide_eq_true (show (1 : Int) ≤ (l.length : Int) by omega), decide_eq_true (show (l.length : Int) ≤ 32 by omega)]; rfl
        · cases hx : wordL l with
          | true => exact absurd (hw.1 hx).2 h1
          | false =>
            symm
            rw [Bool.and_eq_false_iff]
            by_cases h : 1 ≤ l.length
            · right; simp; omega
            · left; simp; omega
      by_cases h1 : (1 : Int) ≤ (l.length : Int)
      · rw [decide_eq_true h1, Bool.true_and] at hR'
        clear hH HR HG DD LL
        go_wp2
        go_ret
        exact ⟨by rw [hR'.out]; rfl, rfl⟩
      · rw [decide_eq_false h1, Bool.false_and] at hR'
        clear hH HR HG DD LL
        go_wp2
        go_ret
        exact ⟨by rw [hR'.out]; rfl, rfl⟩
end Go.Proofs.YtclhmmgdhagloaaGreatDoor

namespace Go.Proofs.YtclhmmgdhagloaaGreatDoor
open Go.RowKit Go.Shelf
attribute [local go_sem] cell?_more frozen?_more setCell_more more_lt more_more more_drew more_drewN setCell_drewN alloc_drewN

theorem rops_of6 (l : List Nd) (w : World) (hs : shN l) : ∀ x ∈ l, ∀ W, Below w.heap.size w W → Calls Tryz.prog 40 #[ndv x] W fun e w' => e = .returned (.int .i64 (if mayN x = true then opsN x else -1)) ∧ Below W.heap.size W w' := fun x hx W _ =>
  rops_any x W (fun W => rfree_any x.n W (fun W => rword_any x.n W (hs x hx).2)) (fun W => rfree_any x.t W (fun W => rword_any x.t W (hs x hx).1))
theorem cols_bound (l : List Nd) : (if 0 < depN mayN l then colsL l [] else []).length ≤ l.length := by
  split
  · have := colsL_len l []
    simpa using this
  · simp

set_option maxRecDepth 20000 in
set_option maxHeartbeats 8000000 in
theorem looks_all (lo : Option Addr) (lc : Nat) (l : List Nd) (S : ByteArray) (w : World) (hv : Nw w lo l) (hln : l.length * 88 ≤ 140737488351232) (hs : shN l) (hi6 : ∀ x ∈ l, vin x.v) (hT : Tabs w) (hP : Ptab w) (hS : Sg w) :
    Calls Tryz.prog 3 #[.slice lo l.length lc, .string S] w fun e w' => e = .returned (.bool true) ∧ Below w.heap.size w w' := by
  have KN : Hid (∀ W, Below w.heap.size w W → Calls Tryz.prog 7 #[] W fun e w' => e = .returned (.bool true) ∧ Below W.heap.size W w') := fun W h => knows6_any W (hT.later h) (hP.later h) (hS.later h)
  by_cases h600 : l.length ≤ 600
  case neg =>
    have h' : (600 : Int) < (l.length : Int) := by omega
    clear hv hln hs hi6 hT hP hS h600
    generalize l.length = n at *
    go_enter Tryz.func3, Tryz.ntmps3
    go_wp2_with fail
    refine (KN.out _ (Below.refl _ _)).mono ?_
    rintro e w1 ⟨rfl, b1⟩
    go_wp2
    go_ret
    exact ⟨rfl, b1⟩
  have hn47 : l.length ≤ 140737488351232 := by omega
  have OW : Hid (Calls Tryz.prog 8 #[.slice lo l.length lc] w fun e w' => (∃ ao' cap', e = .returned (.slice ao' l.length cap') ∧ Nw w' ao' l) ∧ Below w.heap.size w w') := by
    show Calls _ _ _ _ _
    refine (own6_any lo lc l w hv hln).mono ?_
    rintro e w' ⟨⟨ao', cap', h1, h2, _⟩, h4⟩
    exact ⟨⟨ao', cap', h1, h2⟩, h4⟩
  have RI : Hid (∀ W a c, Below w.heap.size w W → Nw W a l → Calls Tryz.prog 9 #[.slice a l.length c] W fun e w' => e = .returned (.bool (decide (0 < depN mayN l))) ∧ Below W.heap.size W w') := fun W a c h h1 => right_of a c l W h1 hn47 hs (hT.later h)
  have RR : Hid (∀ W, Below w.heap.size w W → Calls Tryz.prog 10 #[.slice lo l.length lc] W fun e w' => e = .returned (.bool (decide (0 < depN mayN l))) ∧ Below W.heap.size W w') := fun W h => rright6_any lo lc l W (hv.later h) hn47 (rops_of6 l W hs)
  have DE : Hid (∀ W a c, Below w.heap.size w W → Nw W a l → Calls Tryz.prog 11 #[.slice a l.length c] W fun e w' => e = .returned (.int .i64 (depN mayN l : Int)) ∧ Below W.heap.size W w') := fun W a c h h1 => depth_of a c l W h1 hn47 hs (hT.later h)
  have RD : Hid (∀ W, Below w.heap.size w W → Calls Tryz.prog 12 #[.slice lo l.length lc] W fun e w' => e = .returned (.int .i64 (depN mayN l : Int)) ∧ Below W.heap.size W w') := fun W h => rdepth6_any lo lc l W (hv.later h) (RR.out W h) (rops_of6 l W hs)
  have CO : Hid (∀ W a c, Below w.heap.size w W → Nw W a l → Calls Tryz.prog 14 #[.slice a l.length c] W fun e w' => (∃ v, e = .returned v ∧ Nowns w' W.heap.size v (if 0 < depN mayN l then colsL l [] else [])) ∧ Below W.heap.size W w') := fun W a c h h1 => columns_any a c l W h1 hn47 hs (hT.later h)
  have RC : Hid (∀ W, Below w.heap.size w W → Calls Tryz.prog 15 #[.slice lo l.length lc] W fun e w' => (∃ v, e = .returned v ∧ NownsR w' W.heap.size v (if 0 < depN mayN l then colsL l [] else [])) ∧ Below W.heap.size W w') := fun W h => rcolumns_any lo lc l W (hv.later h) hn47 (RR.out W h)
  have hk5 : 0 < depN mayN l → ∀ x ∈ l, x.o = 1 → litV x.v = true := fun hd x hx ho => (may_parts (dep_may hd x hx)).2.2.1 ho
  have PR : Hid (∀ W a c, Below w.heap.size w W → Nw W a l → Calls Tryz.prog 16 #[.slice a l.length c] W fun e w' => e = .returned (.string ⟨(prtN pvl l).toArray⟩) ∧ Below W.heap.size W w') := fun W a c h h1 =>
    print_walk pvl 1000 a c l W h1 hn47 hs (hT.later h) (hS.later h) (by omega) (fun hd => pv_bounds hd (fun x hx => (hi6 x hx).1)) (fun hd x hx ho V hV => by
      have hlit := hk5 hd x hx ho
      have hb := below_trans h hV
      refine vprint_lit x.v V (hT.later hb) (hP.later hb) hlit (hi6 x hx).1 ?_
      have hvr : vr x.v = true := by unfold litV at hlit; rw [Bool.and_eq_true] at hlit; exact hlit.1
      have h5 : x.v.k ≠ 5 := fun h => by unfold litV at hlit; simp [h] at hlit
      have hok := (vr_iff x.v).1 hvr
      unfold vok at hok
      omega)
  have RP : Hid (∀ W, Below w.heap.size w W → Calls Tryz.prog 17 #[.slice lo l.length lc] W fun e w' => e = .returned (.string ⟨(prtN pvl l).toArray⟩) ∧ Below W.heap.size W w') := fun W h =>
    rprint6_any pvl 1000 lo lc l W (hv.later h) (by omega) (fun hd => pv_bounds hd (fun x hx => (hi6 x hx).1)) (fun hd x hx ho V hV => rvprint_lit x.v V (hk5 hd x hx ho) (hi6 x hx).1) (RR.out W h) (rops_of6 l W hs)
  have RS := fun W => reserved_any S W
  have RRS := fun W => rres_any S W
  have SM6 : Hid (∀ W lo' lc', Below w.heap.size w W → Nw W lo' l → Calls Tryz.prog 13 #[.slice lo' l.length lc', .slice lo l.length lc] W fun e w' => e = .returned (.bool true) ∧ Below W.heap.size W w') := fun W lo' lc' h h1 => same6_any lo' lo lc' lc l W h1 (hv.later h) hn47
  have SMC : Hid (∀ W a c a' c', Nw W a (if 0 < depN mayN l then colsL l [] else []) → Nw W a' (if 0 < depN mayN l then colsL l [] else []) → Calls Tryz.prog 13 #[.slice a (if 0 < depN mayN l then colsL l [] else []).length c, .slice a' (if 0 < depN mayN l then colsL l [] else []).length c'] W fun e w' => e = .returned (.bool true) ∧ Below W.heap.size W w') := fun W a c a' c' h1 h2 => same6_any a a' c c' _ W h1 h2 (Nat.le_trans (cols_bound l) hn47)
  have h600' : ¬ (600 : Int) < (l.length : Int) := by omega
  clear hv hln hi6 hT hP hS h600 hk5 hn47 hs
  generalize (if 0 < depN mayN l then colsL l [] else []) = CL at *
  generalize decide (0 < depN mayN l) = dp at *
  generalize depN mayN l = dn at *
  generalize prtN pvl l = TX at *
  generalize resL S.toList = rb at *
  generalize (ByteArray.mk TX.toArray) = TB at *
  obtain ⟨n, hnn⟩ : ∃ n, l.length = n := ⟨_, rfl⟩
  rw [hnn] at OW RI RR DE RD CO RC PR RP SM6 h600' ⊢
  clear hnn
  obtain ⟨cn, hcn⟩ : ∃ cn, CL.length = cn := ⟨_, rfl⟩
  have HCN : Hid (CL.length = cn) := hcn
  rw [hcn] at SMC
  clear hcn
  go_enter Tryz.func3, Tryz.ntmps3
  go_wp2_with fail
  refine OW.out.mono ?_
  rintro e w1 ⟨⟨lo', lc', rfl, hv1⟩, B1⟩
  have HV : Hid (Nw w1 lo' l) := hv1
  clear hv1
  go_wp2_with fail
  refine (RI.out _ lo' lc' B1 HV.out).mono ?_
  rintro e w2 ⟨rfl, b2⟩
  have B2 := below_trans B1 b2
  go_wp2_with fail
  refine (RR.out _ B2).mono ?_
  rintro e w3 ⟨rfl, b3⟩
  have B3 := below_trans B2 b3
  have b13 := below_trans b2 b3
  have edp : (dp == dp) = true := by cases dp <;> rfl
  go_wp2_with fail
  refine (DE.out _ lo' lc' B3 (HV.out.later b13)).mono ?_
  rintro e w4 ⟨rfl, b4⟩
  have B4 := below_trans B3 b4
  go_wp2_with fail
  refine (RD.out _ B4).mono ?_
  rintro e w5 ⟨rfl, b5⟩
  have B5 := below_trans B4 b5
  have b15 := below_trans (below_trans b13 b4) b5
  go_wp2_with fail
  refine (CO.out _ lo' lc' B5 (HV.out.later b15)).mono ?_
  rintro e w6 ⟨⟨v6, rfl, o6⟩, b6⟩
  have B6 := below_trans B5 b6
  obtain ⟨a6, c6, rfl, nw6⟩ := o6.lies
  rw [HCN.out]
  clear o6
  go_wp2_with fail
  refine (RC.out _ B6).mono ?_
  rintro e w7 ⟨⟨v7, rfl, o7⟩, b7⟩
  have B7 := below_trans B6 b7
  have b17 := below_trans (below_trans b15 b6) b7
  obtain ⟨a7, c7, rfl, nw7⟩ := o7.lies
  rw [HCN.out]
  clear o7
  have HN6 : Hid (Nw w7 a6 CL) := nw6.later b7
  have HN7 : Hid (Nw w7 a7 CL) := nw7
  clear nw6 nw7
  go_wp2_with fail
  refine (SMC.out _ a6 c6 a7 c7 HN6.out HN7.out).mono ?_
  rintro e w8 ⟨rfl, b8⟩
  have B8 := below_trans B7 b8
  have b18 := below_trans b17 b8
  go_wp2_with fail
  refine (PR.out _ lo' lc' B8 (HV.out.later b18)).mono ?_
  rintro e w9 ⟨rfl, b9⟩
  have B9 := below_trans B8 b9
  go_wp2_with fail
  refine (RP.out _ B9).mono ?_
  rintro e w10 ⟨rfl, b10⟩
  have B10 := below_trans B9 b10
  have b110 := below_trans (below_trans b18 b9) b10
  go_wp2_with fail
  refine (RS _).mono ?_
  rintro e wq ⟨rfl, rfl⟩
  go_wp2_with fail
  refine (RRS _).mono ?_
  rintro e w11 ⟨rfl, b11⟩
  have B11 := below_trans B10 b11
  have erb : (rb == rb) = true := by cases rb <;> rfl
  go_wp2_with fail
  refine (SM6.out _ lo' lc' B11 (HV.out.later (below_trans b110 b11))).mono ?_
  rintro e w12 ⟨rfl, b12⟩
  have B12 := below_trans B11 b12
  go_wp2_with fail
  refine (KN.out _ B12).mono ?_
  rintro e w13 ⟨rfl, b13'⟩
  go_wp2
  go_ret
  exact ⟨rfl, below_trans B12 b13'⟩
end Go.Proofs.YtclhmmgdhagloaaGreatDoor

namespace Go.Proofs.YtclhmmgdhagloaaGreatDoor
open Go.ChangeShapes Go.WideShapes Go.ChangeAt Go.WideMaps Go.WideElems Go.RowKit Go.Shelf Go.Lib
open Go.ChangeMaps (open_string shut_string)

set_option maxRecDepth 100000 in
theorem elk_lifted (os : Os) (started : os.Started) (H : Type) (enc : TypeId × Value → H) :
    ReturnsInHanded {} Tryz.checked os 3 .any (fun w args => (Rows.exprLooksSpec.pre enc Tryz.prog Tryz.f3 [] false w args ∧ laidMetH Tryz.prog Rows.exprLooksRow.laid w) ∧ sizedMet enc Tryz.prog Tryz.f3 (OpenSpec.ofChange Rows.exprLooksSpec) false w args)
      (Rows.exprLooksSpec.post enc Tryz.prog Tryz.f3 false true false false) := by
  refine returnsInHanded_of_change_and (C := Tryz.checked) (X := fun w _ => laidMetH Tryz.prog Rows.exprLooksRow.laid w) (fun _ _ _ hh h => h.of_heap hh) own started (by kernel_rfl) Tryz.func3
    (ChangeSpec.witness_shaped (enc := enc) (C := Tryz.checked) (os := os) (X := fun w _ => laidMetH Tryz.prog Rows.exprLooksRow.laid w) false (World.laidAll Tryz.prog os Rows.exprLooksRow.laid) #[.slice none 0 0, .string ⟨#[]⟩] 8 (World.laidAll_os _ _ _)
      (World.shaped_of_ZipB (by kernel_rfl) (by kernel_rfl)) (by kernel_rfl) (by kernel_rfl) (by kernel_rfl)
      (by rw [MakeChecks.laidMetH_plain _ _ _ (by kernel_rfl)]; exact laidMet_laidAll _ (by kernel_rfl) (by kernel_rfl))) ?_
  intro W base args ds gs before hval0 hW _ hsz0 hL _
  have hval : ∀ (j : Nat) t v, Tryz.f3.params[j]? = some t → args[j]? = some v → Value.okWide Tryz.prog W .any base t v := hval0
  have hsz : (DataW.weightsEach Tryz.prog (Tryz.f3.params.toList ++ Rows.exprLooksSpec.plain.varTypes Tryz.prog) (ds ++ gs)).all (· ≤ reachBytes) = true := hsz0
  have hW' := hW
  obtain ⟨p, q, hA0, hV, rfl, hfz, hnd⟩ := hW
  have hA : DataW.TrodAll enc Tryz.prog W 0 (fun _ => true) true Tryz.f3.params.toList args.toList ds p := hA0
  rw [Tryz.params3] at hA hval hsz
  obtain ⟨v0, v1, d0, d1, p0, p1, rfl, rfl, rfl, h0, h1⟩ := trodAll_two hA
  obtain ⟨rfl, rfl⟩ := trodVars_none hV
  obtain ⟨x0, n0, c0, rfl⟩ := okWide_slice Tryz.underlying22 (hval 0 22 v0 rfl rfl)
  have k0 := h0
  have lt0 : ∀ x ∈ p0, x.block < W.heap.size := by obtain ⟨m, hm⟩ := k0; exact DataW.trod_lt m _ _ _ hm
  obtain ⟨f0, hf0⟩ := h0
  obtain ⟨g0, r0, e0⟩ := nods_open (a := x0) (len := n0) (cap := c0) hf0 (by simp [Value.cells])
  have z0 : c0 * Tryz.prog.bytesOf 67 ≤ 140737488351232 := by
    rcases e0 with h | ⟨es, sp, hd, hl⟩
    · rw [h]; simp
    · have hd0 : d0 = .slice es sp := hd
      rw [← hl]; exact sized_slice hsz (j := 0) (t := 22) (e := 67) rfl (by simp [hd0]) Tryz.underlying22
  obtain ⟨r0v, rfl, r0c, r0i, r0w⟩ := r0
  have r0s := sh_of hsz (j := 0) rfl rfl r0w
  rw [bytes88] at z0
  obtain ⟨s1, rfl, rfl, rfl, w1⟩ := open_string Tryz.underlying9 (hval 1 9 v1 rfl rfl) h1
  have z1 := sized_string hsz (j := 1) (t := 9) rfl rfl
  clear hA0 hval0 hsz0
  rw [MakeChecks.laidMetH_plain _ _ _ (by kernel_rfl)] at hL
  have hT : Tabs W := tabs_of (Lib.laidMet.reads hL (.tail _ (.tail _ (.tail _ (.tail _ (.tail _ (.tail _ (.tail _ (.head _))))))))) (Lib.laidMet.reads hL (.tail _ (.tail _ (.tail _ (.head _)))))
  have hP : Ptab W := ptab6_of (Lib.laidMet.reads hL (.tail _ (.tail _ (.head _))))
  have hS : Sg W := sg_of (Lib.laidMet.reads hL (.tail _ (.tail _ (.tail _ (.tail _ (.tail _ (.tail _ (.head _))))))))
  refine (looks_all x0 c0 g0 s1 W r0v (by omega) r0s r0i hT hP hS).mono fun e W' ⟨he, bel⟩ => ?_
  subst he
  exact ⟨_, rfl, _, _, _, [], _, [], hW', trodAll_mk1 (shut_bool Tryz.underlying4 _), trodAll_mk2 (Below.trod laidOut (by kernel_rfl) (of_decide_eq_true (by kernel_rfl)) k0 bel lt0) (shut_string Tryz.underlying9 w1), rfl, bel.frame _, fun h => by cases h⟩
end Go.Proofs.YtclhmmgdhagloaaGreatDoor

namespace Go.Proofs.YtclhmmgdhagloaaGreatDoor
open Go.ChangeShapes Go.WideShapes Go.ChangeAt Go.WideMaps Go.WideElems Go.RowKit Go.Shelf Go.Lib

theorem elk_b : joinedFacts Tryz.pinned.checked.prog 3 Tryz.f3 Rows.exprLooksSpec Rows.exprLooksRow = true := by kernel_rfl
end Go.Proofs.YtclhmmgdhagloaaGreatDoor
