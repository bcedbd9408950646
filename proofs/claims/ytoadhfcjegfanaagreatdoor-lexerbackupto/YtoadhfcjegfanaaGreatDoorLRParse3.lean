/-
  The document's Print and Parse at literals: they answer as the program's do.
-/
import Derived.Test.YtoadhfcjegfanaaGreatDoorLRParse2
import Derived.Test.YtoadhfcjegfanaaGreatDoorDRefP0
namespace Go.Proofs.YtoadhfcjegfanaaGreatDoor
open Go.RowKit Go.Shelf

theorem rvprint_any (v : Va) (w : World) (hk : v.k = 1 ∨ v.k = 2 ∨ v.k = 3) (hn : -9223372036854775808 ≤ v.n ∧ v.n ≤ 9223372036854775807) :
    Calls Tryz.prog 50 #[vv v] w fun e w' => e = .returned (.string ⟨(pv v).toArray⟩) ∧ Below w.heap.size w w' := by
  obtain ⟨k, n, m, b⟩ := v
  have R : ∀ W, Calls Tryz.prog 68 #[va k n m ⟨b.toArray⟩] W fun e w' => e = .returned (.bool (vr ⟨k, n, m, b⟩)) ∧ Below W.heap.size W w' := fun W => rright_any k n m ⟨b.toArray⟩ W
  have hok := vr_iff ⟨k, n, m, b⟩
  unfold pv
  cases hvr : vr ⟨k, n, m, b⟩ with
  | false =>
    rw [hvr] at R
    rw [if_neg (by simp)]
    exact rprint_no k n m _ w R
  | true =>
    rw [hvr] at R
    have hok' := hok.1 hvr
    rw [if_pos rfl]
    rcases hk with hk | hk | hk
    · have hk' : k = 1 := hk
      subst hk'
      exact rprint1 n m _ w hn R
    · have hk' : k = 2 := hk
      subst hk'
      have hm : 0 ≤ m ∧ m ≤ 6 := by
        have h := hok'
        unfold vok at h
        simp at h
        omega
      by_cases h0 : m = 0
      · exact rprint2a n m _ w hn hm h0 R
      · exact rprint2b n m _ w hn hm h0 R
    · have hk' : k = 3 := hk
      subst hk'
      have hl : b.length ≤ 256 := by
        have h := hok'
        unfold vok at h
        simp at h
        omega
      exact rprint3 n m _ w hl R

/-- What the document takes for a text's value. -/
def rvA (t : List UInt8) : Va := ⟨3, 0, 0, qrL ((t.take (t.length - 1)).drop 1)⟩
def pU (t : List UInt8) : Int := match PR t with | none => 0 | some (b, n, _) => nz (sval b n)
def pS (t : List UInt8) : Int := match PR t with | none => 0 | some (b, n, s) => fs (sval b n) (s : Int)
theorem PV_parts (t : List UInt8) : ∃ E, PV t = .tuple #[dv (pU t) (pS t), .int .i64 E] := by
  unfold PV pU pS
  cases PR t with
  | none => exact ⟨21, rfl⟩
  | some q => obtain ⟨b, n, s⟩ := q; exact ⟨_, rfl⟩
def rvB (t : List UInt8) : Va := ⟨2, pU t.dropLast, pS t.dropLast, []⟩
def rvC (t : List UInt8) : Va := if 0 < pS t then ⟨2, pU t, pS t, []⟩ else ⟨1, pU t, 0, []⟩

theorem pv3 (b t : List UInt8) (ht : t ≠ []) (h : pv ⟨3, 0, 0, b⟩ = t) : quoL b = t ∧ vr ⟨3, 0, 0, b⟩ = true := by
  unfold pv at h
  cases hv : vr ⟨3, 0, 0, b⟩ with
  | false => rw [hv] at h; simp at h; exact absurd h ht
  | true =>
    rw [hv, if_pos rfl] at h
    exact ⟨by simpa [ptext] using h, rfl⟩

theorem dpvA (l : List UInt8) (hl : 1 ≤ l.length) : dpv (39 :: l) = if pv (rvA (39 :: l)) = 39 :: l then some (rvA (39 :: l)) else none := by
  have e1 : ((39 :: l).take ((39 :: l).length - 1)).drop 1 = l.dropLast := by
    obtain ⟨n, hn⟩ : ∃ n, l.length = n + 1 := ⟨l.length - 1, by omega⟩
    rw [List.length_cons, Nat.add_sub_cancel, hn, List.take_succ_cons, List.dropLast_eq_take, hn]
    rfl
  have eA : rvA (39 :: l) = ⟨3, 0, 0, qrL l.dropLast⟩ := by unfold rvA; rw [e1]
  have eT : tlv (39 :: l) = (match unqL l with | none => (⟨3, 0, 0, []⟩, false) | some b => (⟨3, 0, 0, b⟩, true)) := by unfold tlv; rw [if_pos (show (39 :: l).head? = some 39 from rfl)]; rfl
  have back : ∀ b, quoL b = 39 :: l → unqL l = some b ∧ qrL l.dropLast = b := by
    intro b h
    unfold quoL at h
    have h' : dbl b ++ [39] = l := by simpa using h
    rw [← h']
    exact ⟨unq_dbl b, by rw [List.dropLast_concat, qr_dbl]⟩
  rw [eA]
  unfold dpv
  by_cases h : pv ⟨3, 0, 0, qrL l.dropLast⟩ = 39 :: l
  · rw [if_pos h]
    obtain ⟨h1, _⟩ := pv3 _ _ (by simp) h
    obtain ⟨h2, _⟩ := back _ h1
    rw [eT, h2]
    exact if_pos ⟨rfl, h⟩
  · rw [if_neg h]
    cases hu : unqL l with
    | none => rw [eT, hu]; exact if_neg (by simp)
    | some b =>
      rw [eT, hu]
      refine if_neg ?_
      rintro ⟨_, h3⟩
      obtain ⟨h1, _⟩ := pv3 _ _ (by simp) h3
      obtain ⟨_, h2⟩ := back _ h1
      rw [h2] at h
      exact h h3

theorem pv_zero1 : pv ⟨1, 0, 0, []⟩ = [48] := by
  unfold pv
  rw [if_pos (by decide +kernel)]
  show dtext 0 0 = _
  unfold dtext
  rw [if_neg (by decide), if_pos rfl]
  show [] ++ pad 0 (digs 0) = _
  rw [digs_small 0 (by decide)]
  rfl
theorem pv_zero2 : pv ⟨2, 0, 0, []⟩ = [48, 46] := by
  unfold pv
  rw [if_pos (by decide +kernel)]
  show dpt 0 0 = _
  unfold dpt
  rw [if_pos rfl]
  show dtext 0 0 ++ [46] = _
  unfold dtext
  rw [if_neg (by decide), if_pos rfl]
  show [] ++ pad 0 (digs 0) ++ [46] = _
  rw [digs_small 0 (by decide)]
  rfl

theorem tnv_1 (t : List UInt8) : (tnv t).1 = ⟨if (46 : UInt8) ∈ t then 2 else 1, pU (trimP t), pS (trimP t), []⟩ := by
  unfold tnv pU pS
  cases PR (trimP t) with
  | none => rfl
  | some q => obtain ⟨b, n, s⟩ := q; rfl
theorem tnv_no (t : List UInt8) (h : (tnv t).2 = false) : pU (trimP t) = 0 ∧ pS (trimP t) = 0 := by
  unfold tnv at h
  unfold pU pS
  cases hp : PR (trimP t) with
  | none => exact ⟨rfl, rfl⟩
  | some q =>
    obtain ⟨b, n, s⟩ := q
    rw [hp] at h
    have h' : fits (sval b n) = false := h
    simp [nz, fs, h']

theorem dpvB (c : UInt8) (l : List UInt8) (hc : c ≠ 39) (h46 : (c :: l).getLast? = some 46) : dpv (c :: l) = if pv (rvB (c :: l)) = c :: l then some (rvB (c :: l)) else none := by
  have eT : tlv (c :: l) = tnv (c :: l) := by unfold tlv; rw [if_neg (by simpa using hc)]
  have etr : trimP (c :: l) = (c :: l).dropLast := by unfold trimP; rw [if_pos h46]
  have hin : (46 : UInt8) ∈ (c :: l) := List.mem_of_getLast? h46
  have e1 : (tnv (c :: l)).1 = rvB (c :: l) := by rw [tnv_1, etr, if_pos hin]; rfl
  unfold dpv
  rw [eT, e1]
  cases h2 : (tnv (c :: l)).2 with
  | true => simp
  | false =>
    obtain ⟨hU, hS⟩ := tnv_no _ h2
    rw [etr] at hU hS
    rw [if_neg (by simp), if_neg]
    intro h
    unfold rvB at h
    rw [hU, hS, pv_zero2] at h
    rw [← h] at h2
    exact absurd h2 (by decide +kernel)

theorem no_point (u : Int) (h0 : ¬ u < 0) : (46 : UInt8) ∉ dtext u 0 := by
  unfold dtext
  rw [if_neg h0, if_pos rfl]
  intro h
  have := pad_dig 0 u.natAbs 46 (by simpa using h)
  unfold isDig at this
  exact absurd this.1 (by decide)
theorem a_point (u : Int) (s : Nat) (hs : s ≠ 0) : (46 : UInt8) ∈ dtext u s := by
  unfold dtext
  rw [if_neg hs]
  simp

theorem dpvC (c : UInt8) (l : List UInt8) (hc : isD c = true) (h46 : ¬ (c :: l).getLast? = some 46) : dpv (c :: l) = if pv (rvC (c :: l)) = c :: l then some (rvC (c :: l)) else none := by
  have hc39 : c ≠ 39 := by rintro rfl; cases hc
  have eT : tlv (c :: l) = tnv (c :: l) := by unfold tlv; rw [if_neg (by simpa using hc39)]
  have etr : trimP (c :: l) = c :: l := by unfold trimP; rw [if_neg h46]
  unfold dpv
  rw [eT]
  cases h2 : (tnv (c :: l)).2 with
  | true =>
    have e1 : (tnv (c :: l)).1 = rvC (c :: l) := by
      rw [tnv_1, etr]
      unfold tnv at h2
      rw [etr] at h2
      unfold rvC pU pS
      cases hp : PR (c :: l) with
      | none => rw [hp] at h2; cases h2
      | some q =>
        obtain ⟨b, n, s⟩ := q
        rw [hp] at h2
        have hf : fits (sval b n) = true := h2
        obtain ⟨_, hd⟩ := PR_back (c :: l) b n s hp hf
        have e3 : fs (sval b n) (s : Int) = (s : Int) := by simp [fs, hf]
        simp only [e3]
        by_cases hs : s = 0
        · subst hs
          have hneg : ¬ sval b n < 0 := by
            intro hlt
            have : c = 45 := by
              unfold dtext at hd
              rw [if_pos hlt] at hd
              simp at hd
              exact hd.1.symm
            rw [this] at hc
            revert hc
            simp [isD]
          have : (46 : UInt8) ∉ (c :: l) := by rw [← hd]; exact no_point _ hneg
          rw [if_neg this, if_neg (by simp)]
          rfl
        · have : (46 : UInt8) ∈ (c :: l) := by rw [← hd]; exact a_point _ _ hs
          rw [if_pos this, if_pos (by omega)]
    rw [e1]
    simp
  | false =>
    obtain ⟨hU, hS⟩ := tnv_no _ h2
    rw [etr] at hU hS
    rw [if_neg (by simp), if_neg]
    intro h
    unfold rvC at h
    rw [hU, hS, if_neg (by decide), pv_zero1] at h
    rw [← h] at h2
    exact absurd h2 (by decide +kernel)

theorem rdparse (c : UInt8) (l : List UInt8) (hc : c ≠ 45) (hl : (c :: l).length ≤ 140737488351232) : ∃ E, ∀ W, Calls Tryz.prog 100 #[.string ⟨(c :: l).toArray⟩] W fun e w' => e = .returned (.tuple #[dv (pU (c :: l)) (pS (c :: l)), .int .i64 E]) ∧ Below W.heap.size W w' := by
  obtain ⟨E, hE⟩ := PV_parts (c :: l)
  refine ⟨E, fun W => ?_⟩
  have h := rparse_plus (c :: l) W hl c l rfl hc
  have hs := scan_PV (c :: l) 0 (by rw [if_neg (by simpa using hc)])
  rw [hs, hE] at h
  refine h.mono ?_
  rintro e w' ⟨h1, h2⟩
  exact ⟨h1, h2.below⟩

theorem rvC_kind (t : List UInt8) : ((rvC t).k = 1 ∨ (rvC t).k = 2 ∨ (rvC t).k = 3) ∧ (-9223372036854775808 ≤ (rvC t).n ∧ (rvC t).n ≤ 9223372036854775807) := by
  have hU : -9223372036854775808 ≤ pU t ∧ pU t ≤ 9223372036854775807 := by
    unfold pU
    cases PR t with
    | none => simp
    | some q =>
      obtain ⟨b, n, s⟩ := q
      simp only
      unfold nz
      split
      · rename_i h; exact (fits_iff _).1 h
      · simp
  unfold rvC
  split
  · exact ⟨by simp, hU⟩
  · exact ⟨by simp, hU⟩
theorem pU_in (t : List UInt8) : -9223372036854775808 ≤ pU t ∧ pU t ≤ 9223372036854775807 := by
  unfold pU
  cases PR t with
  | none => simp
  | some q =>
    obtain ⟨b, n, s⟩ := q
    simp only
    unfold nz
    split
    · rename_i h; exact (fits_iff _).1 h
    · simp

theorem rparse_any (t : List UInt8) (w : World) (ht : t.length ≤ 4096) (hh : litH t) (h2 : t.head? = some 39 → 2 ≤ t.length) :
    Calls Tryz.prog 76 #[.string ⟨t.toArray⟩] w fun e w' => e = .returned (dpR (dpv t)) ∧ Below w.heap.size w w' := by
  have n1 := lit_ne hh 110 [117, 108, 108] (by decide) (by decide)
  have n2 := lit_ne hh 116 [114, 117, 101] (by decide) (by decide)
  have n3 := lit_ne hh 102 [97, 108, 115, 101] (by decide) (by decide)
  obtain ⟨c, l, rfl, hc⟩ := hh
  have n0 := not_empty c l
  have hS : (ByteArray.mk (c :: l).toArray).size = (c :: l).length := rfl
  have h1 : 1 ≤ (c :: l).length := by simp
  have hg0 : ∀ h, (ByteArray.mk (c :: l).toArray)[0]'h = c := fun h => rfl
  have hgl : ∀ h, (ByteArray.mk (c :: l).toArray)[(c :: l).length - 1]'h = (c :: l).getLast (by simp) := fun h => by
    rw [List.getLast_eq_getElem]; rfl
  have hlast : (c :: l).getLast? = some ((c :: l).getLast (by simp)) := List.getLast?_eq_some_getLast (by simp)
  have heq : ∀ q : List UInt8, (q == (ByteArray.mk (c :: l).toArray).toList) = decide (q = c :: l) := fun q => by
    rw [ByteArray.toList_eq]
    by_cases h : q = c :: l
    · subst h; simp
    · rw [decide_eq_false h, beq_eq_false_iff_ne]; exact h
  by_cases hq : c = 39
  · subst hq
    have hl2 := h2 rfl
    have Q : ∀ W, Calls Tryz.prog 98 #[.string ⟨(39 :: l).toArray⟩] W fun e w' => e = .returned (.string ⟨(qrL (((39 :: l).take ((39 :: l).length - 1)).drop 1)).toArray⟩) ∧ Below W.heap.size W w' := fun W => rquoted_any (39 :: l) W ht hl2
    have P := fun W => rvprint_any (rvA (39 :: l)) W (by simp [rvA]) (by simp [rvA])
    rw [dpvA l (by simp at hl2; omega)]
    have he := heq (pv (rvA (39 :: l)))
    by_cases h : pv (rvA (39 :: l)) = 39 :: l
    · rw [if_pos h]
      rw [decide_eq_true h] at he
      exact rpA (39 :: l) _ _ 39 _ _ w hS he h1 ht n0 n1 n2 n3 hg0 hgl (by decide) hl2 Q P
    · rw [if_neg h]
      rw [decide_eq_false h] at he
      exact rpAn (39 :: l) _ _ 39 _ _ w hS he h1 ht n0 n1 n2 n3 hg0 hgl (by decide) hl2 Q P
  · have hd : isD c = true := by
      rcases hc with h | h
      · exact absurd h hq
      · exact h
    have hc45 : c ≠ 45 := by rintro rfl; revert hd; decide
    have h39 : ((c.toNat : Int) == 39) = false := by have := eqInt c 39; rwa [decide_eq_false hq] at this
    have h60 : ((c.toNat : Int) == 60) = false := by have := eqInt c 60; rwa [decide_eq_false (by rintro rfl; revert hd; decide)] at this
    by_cases h46 : (c :: l).getLast? = some 46
    · have hl2 : 2 ≤ (c :: l).length := by
        match l, h46 with
        | [], h46 =>
          have : c = 46 := by simpa using h46
          rw [this] at hd; exact absurd hd (by decide)
        | _ :: _, _ => simp
      have e46 : (((c :: l).getLast (by simp)).toNat : Int) == 46 := by
        rw [hlast] at h46
        rw [Option.some.inj h46]; rfl
      obtain ⟨l', hl'⟩ : ∃ l', (c :: l).dropLast = c :: l' := by
        match l, hl2 with
        | d :: l, _ => exact ⟨_, rfl⟩
      have hx : (ByteArray.mk (c :: l).toArray).extract 0 ((c :: l).length - 1) = ⟨(c :: l').toArray⟩ := by
        rw [ba_extract, ← hl', List.dropLast_eq_take]; rfl
      obtain ⟨E, D⟩ := rdparse c l' hc45 (by rw [← hl', List.length_dropLast]; omega)
      have hU := pU_in (c :: l')
      have eB : rvB (c :: l) = ⟨2, pU (c :: l'), pS (c :: l'), []⟩ := by unfold rvB; rw [hl']
      have P := fun W => rvprint_any (rvB (c :: l)) W (by rw [eB]; simp) (by rw [eB]; exact hU)
      rw [dpvB c l hq h46]
      have he := heq (pv (rvB (c :: l)))
      rw [eB] at P he ⊢
      by_cases h : pv ⟨2, pU (c :: l'), pS (c :: l'), []⟩ = c :: l
      · rw [if_pos h]
        rw [decide_eq_true h] at he
        exact rpB (c :: l) _ _ c _ _ _ E _ w hS he h1 ht n0 n1 n2 n3 hg0 hgl h39 h60 e46 hl2 hx D P
      · rw [if_neg h]
        rw [decide_eq_false h] at he
        exact rpBn (c :: l) _ _ c _ _ _ E _ w hS he h1 ht n0 n1 n2 n3 hg0 hgl h39 h60 e46 hl2 hx D P
    · have e46 : ((((c :: l).getLast (by simp)).toNat : Int) == 46) = false := by
        have := eqInt ((c :: l).getLast (by simp)) 46
        rwa [decide_eq_false (fun h => h46 (by rw [hlast, h]))] at this
      obtain ⟨E, D⟩ := rdparse c l hc45 (by omega)
      obtain ⟨k1, k2⟩ := rvC_kind (c :: l)
      have P := fun W => rvprint_any (rvC (c :: l)) W k1 k2
      rw [dpvC c l hd h46]
      have he := heq (pv (rvC (c :: l)))
      by_cases hV : 0 < pS (c :: l)
      · have eC : rvC (c :: l) = ⟨2, pU (c :: l), pS (c :: l), []⟩ := by unfold rvC; rw [if_pos hV]
        rw [eC] at P he ⊢
        have hl2 : 2 ≤ (c :: l).length := by
          match l, hV with
          | [], hV =>
            exfalso
            unfold pS at hV
            cases hp : PR [c] with
            | none => rw [hp] at hV; simp at hV
            | some q =>
              obtain ⟨b, n, s⟩ := q
              rw [hp] at hV
              have hV' : 0 < fs (sval b n) (s : Int) := hV
              unfold fs at hV'
              by_cases hf : fits (sval b n) = true
              · rw [if_pos hf] at hV'
                obtain ⟨_, hdt⟩ := PR_back [c] b n s hp hf
                have := a_point (sval b n) s (by omega)
                rw [hdt] at this
                have hce : (46 : UInt8) = c := by simpa using this
                rw [← hce] at hd
                exact absurd hd (by decide)
              · rw [if_neg hf] at hV'; omega
          | _ :: _, _ => simp
        by_cases h : pv ⟨2, pU (c :: l), pS (c :: l), []⟩ = c :: l
        · rw [if_pos h]
          rw [decide_eq_true h] at he
          exact rpC2 (c :: l) _ _ c _ _ _ E w hS he h1 ht n0 n1 n2 n3 hg0 hgl h39 h60 e46 hl2 hV D P
        · rw [if_neg h]
          rw [decide_eq_false h] at he
          exact rpC2n (c :: l) _ _ c _ _ _ E w hS he h1 ht n0 n1 n2 n3 hg0 hgl h39 h60 e46 hl2 hV D P
      · have eC : rvC (c :: l) = ⟨1, pU (c :: l), 0, []⟩ := by unfold rvC; rw [if_neg hV]
        rw [eC] at P he ⊢
        by_cases hl2 : 2 ≤ (c :: l).length
        · by_cases h : pv ⟨1, pU (c :: l), 0, []⟩ = c :: l
          · rw [if_pos h]
            rw [decide_eq_true h] at he
            exact rpC1 (c :: l) _ _ c _ _ _ E w hS he h1 ht n0 n1 n2 n3 hg0 hgl h39 h60 e46 hl2 hV D P
          · rw [if_neg h]
            rw [decide_eq_false h] at he
            exact rpC1n (c :: l) _ _ c _ _ _ E w hS he h1 ht n0 n1 n2 n3 hg0 hgl h39 h60 e46 hl2 hV D P
        · by_cases h : pv ⟨1, pU (c :: l), 0, []⟩ = c :: l
          · rw [if_pos h]
            rw [decide_eq_true h] at he
            exact rpD1 (c :: l) _ _ c _ _ _ E w hS he h1 ht n0 n1 n2 n3 hg0 hgl hl2 hV D P
          · rw [if_neg h]
            rw [decide_eq_false h] at he
            exact rpD1n (c :: l) _ _ c _ _ _ E w hS he h1 ht n0 n1 n2 n3 hg0 hgl hl2 hV D P
end Go.Proofs.YtoadhfcjegfanaaGreatDoor
