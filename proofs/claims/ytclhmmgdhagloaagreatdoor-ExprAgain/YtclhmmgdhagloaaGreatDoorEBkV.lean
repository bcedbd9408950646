/-
  What is printed is read back: literals.
-/
import Derived.Test.YtclhmmgdhagloaaGreatDoorMUEBkS
import Derived.Test.YtclhmmgdhagloaaGreatDoorMQEPrtV
import Derived.Test.YtclhmmgdhagloaaGreatDoorDBackM
namespace Go.Proofs.YtclhmmgdhagloaaGreatDoor

abbrev wTrue : List UInt8 := [116, 114, 117, 101]
abbrev wFalse : List UInt8 := [102, 97, 108, 115, 101]
def litB : List UInt8 → Bool
  | [] => false
  | c :: _ => c == 39 || isD c
/-- What datum.Parse tells of a token's text. -/
def vE (t : List UInt8) : Option Va := if t = wNull then some ⟨0, 0, 0, []⟩ else if t = wTrue then some ⟨4, 1, 0, []⟩ else if t = wFalse then some ⟨4, 0, 0, []⟩ else if litB t = true then dpv t else none
theorem litB_iff (t : List UInt8) : litB t = true ↔ litH t := by
  cases t with
  | nil => simp [litB, litH]
  | cons c l => simp [litB, litH]
theorem word_first {w : List UInt8} (hw : wordL w = true) : ∃ c l, w = c :: l ∧ isL c = true := by
  unfold wordL at hw
  simp only [Bool.and_eq_true, decide_eq_true_eq] at hw
  obtain ⟨h1, _⟩ := hw
  cases w with
  | nil => simp [lxt] at h1
  | cons c l =>
    refine ⟨c, l, rfl, ?_⟩
    cases hc : isL c with
    | true => rfl
    | false =>
      rw [lxt_cons, if_neg (by simp [hc])] at h1
      exfalso
      revert h1
      repeat' split
      all_goals simp
theorem letter_no {c : UInt8} (h : isL c = true) : c ≠ 39 ∧ isD c = false ∧ c ≠ 45 ∧ c ≠ 46 ∧ c ≠ 60 := by
  have n39 : ∀ k : UInt8, c = k → c.toNat = k.toNat := fun k h => by rw [h]
  unfold isL at h
  unfold isD
  simp at h
  refine ⟨?_, ?_, ?_, ?_, ?_⟩
  · intro he; have := n39 _ he; simp at this; omega
  · simp; omega
  · intro he; have := n39 _ he; simp at this; omega
  · intro he; have := n39 _ he; simp at this; omega
  · intro he; have := n39 _ he; simp at this; omega
theorem word_lit {w : List UInt8} (hw : wordL w = true) : litB w = false := by
  obtain ⟨c, l, rfl, hc⟩ := word_first hw
  obtain ⟨h1, h2, _⟩ := letter_no hc
  simp [litB, h1, h2]
theorem name_none (nm : List UInt8) (h : nameL nm = true) : vE nm = none := by
  unfold vE
  rw [if_neg (fun e => by subst e; exact absurd h (by decide)), if_neg (fun e => by subst e; exact absurd h (by decide)), if_neg (fun e => by subst e; exact absurd h (by decide)), if_neg (by rw [word_lit (name_word h)]; simp)]
theorem lit_val {t : List UInt8} (h : litH t) : vE t = dpv t := by
  obtain ⟨c, l, rfl, hc⟩ := h
  have hl : litB (c :: l) = true := (litB_iff _).2 ⟨c, l, rfl, hc⟩
  unfold vE
  rw [if_neg (fun e => by cases e; rcases hc with h | h <;> exact absurd h (by decide)), if_neg (fun e => by cases e; rcases hc with h | h <;> exact absurd h (by decide)), if_neg (fun e => by cases e; rcases hc with h | h <;> exact absurd h (by decide)), if_pos hl]

/-- What ends a number. -/
def NEnd (r : List UInt8) : Prop := r = [] ∨ ∃ c r', r = c :: r' ∧ isD c = false ∧ c ≠ 46
theorem Brk.num {r : List UInt8} (h : Brk r) : NEnd r := by
  rcases h with h | ⟨c, r', h, hc⟩
  · exact .inl h
  · exact .inr ⟨c, r', h, by rcases hc with rfl | rfl | rfl <;> decide, by rcases hc with rfl | rfl | rfl <;> decide⟩
theorem digN_all (l r : List UInt8) (h : ∀ c ∈ l, isD c = true) (hr : NEnd r) : digN (l ++ r) = l.length := by
  induction l with
  | nil =>
    rcases hr with rfl | ⟨c, r', rfl, hc, _⟩
    · rfl
    · simp [digN, hc]
  | cons c l ih =>
    rw [List.cons_append]
    unfold digN
    rw [if_pos (h c (by simp)), ih (fun d hd => h d (by simp [hd]))]
    rfl
theorem numN_all (l r : List UInt8) (h : ∀ c ∈ l, isD c = true) (hr : NEnd r) : numN (l ++ r) = l.length := by
  induction l with
  | nil =>
    rcases hr with rfl | ⟨c, r', rfl, hc, h46⟩
    · rfl
    · simp [numN, hc, h46]
  | cons c l ih =>
    rw [List.cons_append]
    unfold numN
    rw [if_pos (h c (by simp)), ih (fun d hd => h d (by simp [hd]))]
    rfl
theorem numN_pt (l p r : List UInt8) (h : ∀ c ∈ l, isD c = true) (hp : ∀ c ∈ p, isD c = true) (hr : NEnd r) : numN (l ++ 46 :: p ++ r) = l.length + 1 + p.length := by
  induction l with
  | nil =>
    show numN (46 :: (p ++ r)) = _
    unfold numN
    rw [if_neg (by decide), if_pos rfl, digN_all p r hp hr]
    simp; omega
  | cons c l ih =>
    show numN (c :: (l ++ 46 :: p ++ r)) = _
    unfold numN
    rw [if_pos (h c (by simp)), ih (fun d hd => h d (by simp [hd]))]
    simp; omega
/-- A literal's text is one token. -/
theorem lit_lx {t : List UInt8} {v : Va} (h : litH t) (hl : t.length ≤ 4096) (hv : dpv t = some v) (hx : ∀ r, Brk r → lxt (t ++ r) = (3, t.length)) : Lx Brk t [(3, t)] := by
  obtain ⟨c, l, rfl, hc⟩ := h
  refine Lx.one (k := 3) (v := v) (.inl rfl) hl (fun d l' h => by cases h; cases hb : isB c with | false => rfl | true => (obtain ⟨_, h2, h3, _⟩ := isB_L hb; rcases hc with h | h; exact absurd h h3; rw [h2] at h; cases h)) (by simp) (fun r i hr => ?_)
  unfold tok
  rw [hx r hr]
  simp only
  rw [if_neg (by decide), if_neg (by decide), if_pos trivial, List.take_left, hv]

theorem isD_dig {c : UInt8} (h : isDig c) : isD c = true := by unfold isDig at h; unfold isD; simp; omega
/-- A number's text. -/
theorem num_parts (n : Nat) (s : Nat) : ∃ whole part, dtext (n : Int) s = whole ++ (if s = 0 then [] else 46 :: part) ∧ 1 ≤ whole.length ∧ (∀ c ∈ whole, isD c = true) ∧ (∀ c ∈ part, isD c = true) ∧ part.length = s ∧ whole.length + part.length ≤ (digs n).length + s + 1 := by
  have hD := pad_dig s n
  have hl : (pad s (digs n)).length = max (s + 1) (digs n).length := by unfold pad; simp; omega
  unfold dtext
  rw [if_neg (by omega), List.nil_append, Int.natAbs_natCast]
  by_cases hs : s = 0
  · subst hs
    rw [if_pos rfl]
    exact ⟨_, [], by simp, by omega, fun c hc => isD_dig (hD c hc), (fun c hc => by cases hc), rfl, by simp; omega⟩
  · rw [if_neg hs]
    refine ⟨_, _, by rw [if_neg hs], by rw [List.length_take]; omega, fun c hc => isD_dig (hD c (List.mem_of_mem_take hc)), fun c hc => isD_dig (hD c (List.mem_of_mem_drop hc)), by rw [List.length_drop]; omega, by rw [List.length_take, List.length_drop]; omega⟩
theorem dig_head {c : UInt8} (h : isD c = true) : c ≠ 39 ∧ c ≠ 46 ∧ c ≠ 45 := by
  have n39 : ∀ k : UInt8, c = k → c.toNat = k.toNat := fun k h => by rw [h]
  unfold isD at h
  simp at h
  refine ⟨?_, ?_, ?_⟩
  · intro he; have := n39 _ he; simp at this; omega
  · intro he; have := n39 _ he; simp at this; omega
  · intro he; have := n39 _ he; simp at this; omega
theorem lxt_dig (c : UInt8) (l : List UInt8) (h : isD c = true) : lxt (c :: l) = (3, numN l + 1) := by
  rw [lxt_cons, if_neg (by intro hL; rw [(letter_no hL).2.1] at h; cases h), if_pos h]

theorem dpv_of {t : List UInt8} {v : Va} (h1 : tlv t = (v, true)) (h2 : pv v = t) : dpv t = some v := by
  unfold dpv
  rw [h1]
  simp [h2]
/-- Numbers. -/
theorem num_ok (v : Va) (hvr : vr v = true) (hn : 0 ≤ v.n) (hn1 : v.n ≤ 9223372036854775807) (hk : v.k = 1 ∨ v.k = 2) : litH (pv v) ∧ (pv v).length ≤ 4096 ∧ dpv (pv v) = some v ∧ ∀ r, Brk r → lxt (pv v ++ r) = (3, (pv v).length) := by
  have hok := (vr_iff v).1 hvr
  obtain ⟨k, n, m, b⟩ := v
  dsimp only at hn hn1 hk
  obtain ⟨u, rfl⟩ : ∃ u : Nat, n = (u : Int) := ⟨n.toNat, by omega⟩
  have hpv : pv ⟨k, (u : Int), m, b⟩ = ptext ⟨k, (u : Int), m, b⟩ := by unfold pv; rw [hvr, if_pos rfl]
  have hdg : (digs u).length ≤ 20 := Nat.le_trans (digs_len 19 u (by omega)) (by omega)
  have hfit : fits (u : Int) = true := by rw [fits_iff]; omega
  have hPR : ∀ s, s ≤ 6 → PR (dtext (u : Int) s) = some (false, u, s) := fun s hs => by
    have := PR_there (u : Int) s hs (by omega) (by omega)
    rw [this]
    simp
  have hsv : sval false u = (u : Int) := rfl
  unfold vok at hok
  dsimp only at hok
  rcases hk with rfl | rfl
  · have hmb : m = 0 ∧ b = [] := by simp at hok; exact ⟨hok.1, hok.2⟩
    obtain ⟨rfl, rfl⟩ := hmb
    obtain ⟨wh, pt, he, hw1, hw2, _, _, hw5⟩ := num_parts u 0
    rw [if_pos rfl, List.append_nil] at he
    have hp : pv ⟨1, (u : Int), 0, []⟩ = wh := by rw [hpv]; show (if (1 : Int) = 1 then dtext (u : Int) 0 else _) = _; rw [if_pos rfl, he]
    have hPR0 := hPR 0 (by omega)
    rw [he] at hPR0
    obtain ⟨c, l, rfl⟩ : ∃ c l, wh = c :: l := by cases wh with | nil => simp at hw1 | cons c l => exact ⟨c, l, rfl⟩
    have hc := hw2 c (by simp)
    have h46 : (46 : UInt8) ∉ c :: l := fun h => (dig_head (hw2 46 h)).2.1 rfl
    rw [hp]
    refine ⟨⟨c, l, rfl, .inr hc⟩, by omega, dpv_of ?_ hp, fun r hr => ?_⟩
    · unfold tlv
      rw [if_neg (by simp; exact (dig_head hc).1)]
      unfold tnv
      have htr : trimP (c :: l) = c :: l := by
        unfold trimP
        rw [if_neg (fun h => h46 (List.mem_of_getLast? h))]
      rw [htr, hPR0]
      simp only
      rw [if_neg h46, hsv, hfit]
      simp [nz, fs, hfit]
    · rw [List.cons_append, lxt_dig c _ hc, numN_all l r (fun d hd => hw2 d (by simp [hd])) hr.num]
      simp
  · have hmb : 0 ≤ m ∧ m ≤ 6 ∧ b = [] := by simp at hok; omega
    obtain ⟨m0, m6, rfl⟩ := hmb
    obtain ⟨s, rfl⟩ : ∃ s : Nat, m = (s : Int) := ⟨m.toNat, by omega⟩
    obtain ⟨wh, pt, he, hw1, hw2, hw3, hw4, hw5⟩ := num_parts u s
    have hPRs := hPR s (by omega)
    rw [he] at hPRs
    have hp : pv ⟨2, (u : Int), (s : Int), []⟩ = wh ++ 46 :: pt := by
      rw [hpv]
      show (if (2 : Int) = 1 then _ else if (2 : Int) = 2 then dpt (u : Int) (s : Int) else _) = _
      rw [if_neg (by decide), if_pos rfl]
      unfold dpt
      rw [Int.toNat_natCast, he]
      by_cases hs : s = 0
      · subst hs
        have : pt = [] := List.eq_nil_of_length_eq_zero hw4
        subst this
        simp
      · rw [if_neg hs, if_neg (by omega), List.append_nil]
    obtain ⟨c, l, rfl⟩ : ∃ c l, wh = c :: l := by cases wh with | nil => simp at hw1 | cons c l => exact ⟨c, l, rfl⟩
    have hc := hw2 c (by simp)
    have h46 : (46 : UInt8) ∈ c :: l ++ 46 :: pt := by simp
    rw [hp]
    refine ⟨⟨c, l ++ 46 :: pt, rfl, .inr hc⟩, by simp at hw5 ⊢; omega, dpv_of ?_ hp, fun r hr => ?_⟩
    · unfold tlv
      rw [if_neg (by simp; exact (dig_head hc).1)]
      unfold tnv
      have htr : trimP (c :: l ++ 46 :: pt) = c :: l ++ (if s = 0 then [] else 46 :: pt) := by
        unfold trimP
        by_cases hs : s = 0
        · subst hs
          have : pt = [] := List.eq_nil_of_length_eq_zero hw4
          subst this
          have e : c :: l ++ [46] = (c :: l) ++ [46] := rfl
          rw [e, if_pos List.getLast?_concat, if_pos rfl, List.dropLast_concat, List.append_nil]
        · rw [if_neg hs, if_neg]
          intro h
          have hne : pt ≠ [] := fun h => by rw [h] at hw4; simp at hw4; omega
          have e : (c :: l ++ 46 :: pt).getLast? = some (pt.getLast hne) := by rw [show c :: l ++ 46 :: pt = (c :: l ++ [46]) ++ pt by simp, List.getLast?_append, List.getLast?_eq_some_getLast hne]; rfl
          rw [e] at h
          exact (dig_head (hw3 46 (Option.some.inj h ▸ List.getLast_mem hne))).2.1 rfl
      rw [htr, hPRs]
      simp only
      rw [if_pos h46, hsv, hfit]
      simp [nz, fs, hfit]
    · show lxt (c :: (l ++ 46 :: pt ++ r)) = _
      rw [lxt_dig c _ hc, numN_pt l pt r (fun d hd => hw2 d (by simp [hd])) hw3 hr.num]
      simp; omega
theorem unq_dbl (b : List UInt8) : unqL (dbl b ++ [39]) = some b := by
  induction b with
  | nil => simp [dbl, unqL]
  | cons c b ih =>
    have e : dbl (c :: b) = (if c = 39 then [39, 39] else [c]) ++ dbl b := by simp [dbl]
    rw [e]
    by_cases hc : c = 39
    · subst hc
      rw [if_pos rfl]
      show unqL (39 :: 39 :: (dbl b ++ [39])) = _
      rw [unq_two, ih]
      rfl
    · rw [if_neg hc]
      show unqL (c :: (dbl b ++ [39])) = _
      rw [unq_other _ _ hc, ih]
      rfl
theorem textN_dbl (b r : List UInt8) (hr : Brk r) : textN (dbl b ++ [39] ++ r) = some ((dbl b).length + 1) := by
  induction b with
  | nil =>
    rcases hr with rfl | ⟨c, r', rfl, hc⟩
    · exact textN_last
    · show textN (39 :: c :: r') = _
      rw [textN_end _ _ (by rcases hc with rfl | rfl | rfl <;> decide)]
      rfl
  | cons c b ih =>
    have e : dbl (c :: b) = (if c = 39 then [39, 39] else [c]) ++ dbl b := by simp [dbl]
    rw [e]
    by_cases hc : c = 39
    · subst hc
      rw [if_pos rfl]
      show textN (39 :: 39 :: (dbl b ++ [39] ++ r)) = _
      rw [textN_two, ih]
      simp
    · rw [if_neg hc]
      show textN (c :: (dbl b ++ [39] ++ r)) = _
      rw [textN_cons _ _ hc, ih]
      simp
/-- Texts. -/
theorem text_ok (v : Va) (hvr : vr v = true) (hk : v.k = 3) : litH (pv v) ∧ (pv v).length ≤ 4096 ∧ dpv (pv v) = some v ∧ ∀ r, Brk r → lxt (pv v ++ r) = (3, (pv v).length) := by
  have hok := (vr_iff v).1 hvr
  obtain ⟨k, n, m, b⟩ := v
  dsimp only at hk
  subst hk
  unfold vok at hok
  have hmb : n = 0 ∧ m = 0 ∧ b.length ≤ 256 := by simp at hok; omega
  obtain ⟨rfl, rfl, hb⟩ := hmb
  have hp : pv ⟨3, 0, 0, b⟩ = 39 :: (dbl b ++ [39]) := by
    unfold pv
    rw [hvr, if_pos rfl]
    rfl
  have hdl := dbl_len b
  rw [hp]
  refine ⟨⟨39, _, rfl, .inl rfl⟩, by simp; omega, dpv_of ?_ hp, fun r hr => ?_⟩
  · unfold tlv
    rw [if_pos (show (39 :: (dbl b ++ [39])).head? = some 39 from rfl)]
    show (match unqL (dbl b ++ [39]) with | none => _ | some b => _) = _
    rw [unq_dbl]
  · show lxt (39 :: (dbl b ++ [39] ++ r)) = _
    rw [lxt_cons, if_neg (by decide), if_neg (by decide), if_pos rfl, textN_dbl b r hr]
    simp
theorem lit_ne1 {t : List UInt8} (h : litH t) (c : UInt8) (l : List UInt8) (h1 : c ≠ 39) (h2 : isD c = false) : (t == c :: l) = false := by
  obtain ⟨d, m, rfl, hd⟩ := h
  rw [beq_eq_false_iff_ne]
  intro e
  cases e
  rcases hd with h | h
  · exact h1 h
  · rw [h2] at h; cases h
theorem lit_ok (v : Va) (hl : litV v = true) (hn1 : v.n ≤ 9223372036854775807) : LitOk vE v := by
  have hvr : vr v = true := by unfold litV at hl; rw [Bool.and_eq_true] at hl; exact hl.1
  have hk5 : v.k ≠ 5 := fun h => by unfold litV at hl; simp [h] at hl
  have hn0 : 0 ≤ v.n := by unfold litV at hl; simp at hl; exact hl.2.2
  have hok := (vr_iff v).1 hvr
  have key : litH (pv v) ∧ (pv v).length ≤ 4096 ∧ dpv (pv v) = some v ∧ (∀ r, Brk r → lxt (pv v ++ r) = (3, (pv v).length)) → pvl v = pv v → LitOk vE v := by
    rintro ⟨h1, h2, h3, h4⟩ he
    unfold LitOk
    rw [he]
    exact ⟨3, by rw [lit_val h1, h3], lit_lx h1 h2 h3 h4, .inl h1, lit_ne1 h1 45 [] (by decide) (by decide), lit_ne1 h1 40 [] (by decide) (by decide), lit_ne1 h1 41 [] (by decide) (by decide), lit_ne1 h1 110 _ (by decide) (by decide)⟩
  by_cases h12 : v.k = 1 ∨ v.k = 2
  · exact key (num_ok v hvr hn0 hn1 h12) (by unfold pvl; rw [if_pos (by omega)])
  by_cases h3 : v.k = 3
  · exact key (text_ok v hvr h3) (by unfold pvl; rw [if_pos (by omega)])
  have hp : pvl v = (if v.k = 4 then (if v.n = 1 then wTrue else wFalse) else wNull) := by unfold pvl; rw [if_neg (by omega), hvr, if_pos rfl]
  have wd : ∀ w, wordL w = true → vE w = some v → pvl v = w → (w == wNot) = false → (w == [45]) = false → (w == [40]) = false → (w == [41]) = false → LitOk vE v := by
    intro w h1 h2 h3 h4 h5 h6 h7
    unfold LitOk
    rw [h3]
    exact ⟨1, h2, (Lx.word w h1).mono (fun _ h => h.word), .inr h1, h5, h6, h7, h4⟩
  obtain ⟨k, n, m, b⟩ := v
  unfold vok at hok
  dsimp only at *
  by_cases h4 : k = 4
  · subst h4
    rw [if_pos rfl] at hp
    have hmb : (n = 0 ∨ n = 1) ∧ m = 0 ∧ b = [] := by simp at hok; omega
    obtain ⟨hn, rfl, rfl⟩ := hmb
    rcases hn with rfl | rfl
    · exact wd wFalse (by decide) rfl (by rw [hp, if_neg (by decide)]) (by decide) (by decide) (by decide) (by decide)
    · exact wd wTrue (by decide) rfl (by rw [hp, if_pos rfl]) (by decide) (by decide) (by decide) (by decide)
  · have h0 : k = 0 ∧ n = 0 ∧ m = 0 ∧ b = [] := by
      rcases hok with h | h | h | h | h | h
      · exact h
      all_goals omega
    obtain ⟨rfl, rfl, rfl, rfl⟩ := h0
    rw [if_neg h4] at hp
    exact wd wNull (by decide) rfl hp (by decide) (by decide) (by decide) (by decide)
end Go.Proofs.YtclhmmgdhagloaaGreatDoor
