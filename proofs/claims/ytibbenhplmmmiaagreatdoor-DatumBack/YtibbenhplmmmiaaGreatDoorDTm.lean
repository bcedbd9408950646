/-
  The text of whatever value, and whatever text as a value, as the program and as the document go: the same. Plain mathematics.
-/
import Derived.Test.YtibbenhplmmmiaaGreatDoorLRP3
import Derived.Test.YtibbenhplmmmiaaGreatDoorPtM
namespace Go.Proofs.YtibbenhplmmmiaaGreatDoor.Dt
open Go.RowKit Go.Shelf

abbrev wN : List UInt8 := [110, 117, 108, 108]
abbrev wT : List UInt8 := [116, 114, 117, 101]
abbrev wF : List UInt8 := [102, 97, 108, 115, 101]
/-- The text of whatever value: none of one that may not be. -/
def tx (v : Va) : List UInt8 := if vr v then (if v.k = 1 ∨ v.k = 2 ∨ v.k = 3 then ptext v else if v.k = 4 then (if v.n = 1 then wT else wF) else if v.k = 5 then Pt.gtx v.n v.m else wN) else []
/-- What the program tells of a text. -/
def tl (t : List UInt8) : Va × Bool :=
  if t = wN then (⟨0, 0, 0, []⟩, true) else if t = wT then (⟨4, 1, 0, []⟩, true) else if t = wF then (⟨4, 0, 0, []⟩, true)
  else if t.head? = some 39 then (match unqL (t.drop 1) with | none => (⟨3, 0, 0, []⟩, false) | some b => (⟨3, 0, 0, b⟩, true))
  else if t.head? = some 60 then (⟨5, (Pt.gpv t).1, (Pt.gpv t).2.1, []⟩, (Pt.gpv t).2.2 == 0)
  else tnv t
def dpG (t : List UInt8) : Option Va := if (tl t).2 = true ∧ tx (tl t).1 = t then some (tl t).1 else none
/-- What the document tells of a text. -/
def rv (t : List UInt8) : Va :=
  if t = wT then ⟨4, 1, 0, []⟩ else if t = wF then ⟨4, 0, 0, []⟩ else if 2 ≤ t.length ∧ t.head? = some 39 then rvA t
  else if 2 ≤ t.length ∧ t.head? = some 60 then ⟨5, (Pt.gpv t).1, (Pt.gpv t).2.1, []⟩ else if 2 ≤ t.length ∧ t.getLast? = some 46 then rvB t
  else if t ≠ [] ∧ t ≠ wN then rvC t else ⟨0, 0, 0, []⟩
theorem isD_dig {c : UInt8} (h : isDig c) : isD c = true := by unfold isDig at h; unfold isD; simp; omega
theorem num_parts (n : Nat) (s : Nat) : ∃ whole part, dtext (n : Int) s = whole ++ (if s = 0 then [] else 46 :: part) ∧ 1 ≤ whole.length ∧ (∀ c ∈ whole, isD c = true) ∧ (∀ c ∈ part, isD c = true) ∧ part.length = s := by
  have hD := pad_dig s n
  have hl : (pad s (digs n)).length = max (s + 1) (digs n).length := by unfold pad; simp; omega
  unfold dtext
  rw [if_neg (by omega), List.nil_append, Int.natAbs_natCast]
  by_cases hs : s = 0
  · subst hs
    rw [if_pos rfl]
    exact ⟨_, [], by simp, by omega, fun c hc => isD_dig (hD c hc), (fun c hc => by cases hc), rfl⟩
  · rw [if_neg hs]
    exact ⟨_, _, by rw [if_neg hs], by rw [List.length_take]; omega, fun c hc => isD_dig (hD c (List.mem_of_mem_take hc)), fun c hc => isD_dig (hD c (List.mem_of_mem_drop hc)), by rw [List.length_drop]; omega⟩
theorem dtext_sg (n : Int) (s : Nat) : dtext n s = (if n < 0 then [45] else []) ++ dtext (n.natAbs : Int) s := by
  unfold dtext
  rw [if_neg (show ¬ ((n.natAbs : Nat) : Int) < 0 by omega), List.nil_append, Int.natAbs_natCast]
/-- The head of a number's text. -/
def hd (c : UInt8) : Prop := c = 45 ∨ isD c = true
theorem hd_ne {c : UInt8} (h : hd c) : c ≠ 39 ∧ c ≠ 46 ∧ c ≠ 60 ∧ c ≠ 110 ∧ c ≠ 116 ∧ c ≠ 102 := by
  have key : c.toNat = 45 ∨ (48 ≤ c.toNat ∧ c.toNat ≤ 57) := by
    rcases h with h | h
    · left; rw [h]; rfl
    · right; unfold isD at h; simp at h; omega
  have ne : ∀ k : UInt8, ¬ (k.toNat = 45 ∨ (48 ≤ k.toNat ∧ k.toNat ≤ 57)) → c ≠ k := fun k hk he => hk (he ▸ key)
  exact ⟨ne 39 (by decide), ne 46 (by decide), ne 60 (by decide), ne 110 (by decide), ne 116 (by decide), ne 102 (by decide)⟩
theorem num_form (n : Int) (s : Nat) : ∃ c l pt, dtext n s = c :: l ++ (if s = 0 then [] else 46 :: pt) ∧ (∀ d ∈ c :: l, hd d) ∧ (∀ d ∈ pt, isD d = true) ∧ pt.length = s := by
  obtain ⟨wh, pt, he, h1, h2, h3, h4⟩ := num_parts n.natAbs s
  rw [dtext_sg, he]
  by_cases hn : n < 0
  · rw [if_pos hn]
    exact ⟨45, wh, pt, rfl, fun d hd => by rcases List.mem_cons.1 hd with h | h; exact .inl h; exact .inr (h2 d h), h3, h4⟩
  · rw [if_neg hn]
    obtain ⟨c, l, rfl⟩ : ∃ c l, wh = c :: l := by cases wh with | nil => simp at h1 | cons c l => exact ⟨c, l, rfl⟩
    exact ⟨c, l, pt, rfl, fun d hd => .inr (h2 d hd), h3, h4⟩
theorem sval_back (n : Int) : sval (decide (n < 0)) n.natAbs = n := by
  unfold sval
  by_cases h : n < 0
  · simp [h]; omega
  · simp [h]; omega
theorem tl_num (t : List UInt8) (c : UInt8) (l : List UInt8) (e : t = c :: l) (h : hd c) : tl t = tnv t := by
  obtain ⟨h39, _, h60, h110, h116, h102⟩ := hd_ne h
  subst e
  unfold tl
  rw [if_neg (by intro h; cases h; exact h110 rfl), if_neg (by intro h; cases h; exact h116 rfl), if_neg (by intro h; cases h; exact h102 rfl), if_neg (by simp [h39]), if_neg (by simp [h60])]
theorem ne_hd {t l r : List UInt8} {c k : UInt8} (e : t = c :: l) (h : c ≠ k) : t ≠ k :: r := by
  intro he
  rw [e] at he
  exact h (List.cons.inj he).1
theorem nz_fit {n : Int} (h : fits n = true) : nz n = n := by simp [nz, h]
theorem fs_fit {n s : Int} (h : fits n = true) : fs n s = s := by simp [fs, h]
theorem pU_of {t : List UInt8} {n : Int} {s : Nat} (h : PR t = some (decide (n < 0), n.natAbs, s)) (hf : fits n = true) : pU t = n ∧ pS t = (s : Int) := by
  unfold pU pS
  rw [h]
  simp only
  rw [sval_back, nz_fit hf, fs_fit hf]
  exact ⟨rfl, rfl⟩
theorem unq_dbl (b : List UInt8) : unqL (dbl b ++ [39]) = some b := Proofs.YtibbenhplmmmiaaGreatDoor.unq_dbl b

/-- What is printed is told as it was, by the program and by the document. -/
theorem there (v : Va) (hvr : vr v = true) (hn : -9223372036854775808 ≤ v.n ∧ v.n ≤ 9223372036854775807) : tl (tx v) = (v, true) ∧ tx v ≠ [] ∧ rv (tx v) = v := by
  have hok := (vr_iff v).1 hvr
  have hx : tx v = (if v.k = 1 ∨ v.k = 2 ∨ v.k = 3 then ptext v else if v.k = 4 then (if v.n = 1 then wT else wF) else if v.k = 5 then Pt.gtx v.n v.m else wN) := by unfold tx; rw [hvr, if_pos rfl]
  rw [hx]
  obtain ⟨k, n, m, b⟩ := v
  dsimp only at hn ⊢
  have hfit : fits n = true := by rw [fits_iff]; omega
  unfold vok at hok
  dsimp only at hok
  by_cases h1 : k = 1
  · subst h1
    have hmb : m = 0 ∧ b = [] := by simp at hok; exact ⟨hok.1, hok.2⟩
    obtain ⟨rfl, rfl⟩ := hmb
    rw [if_pos (.inl rfl)]
    show tl (dtext n 0) = _ ∧ dtext n 0 ≠ [] ∧ rv (dtext n 0) = _
    have hPR := PR_there n 0 (by omega) hn.1 hn.2
    obtain ⟨c, l, pt, he, h2, _, _⟩ := num_form n 0
    rw [if_pos rfl, List.append_nil] at he
    rw [he] at hPR ⊢
    have hc := h2 c (by simp)
    have h46 : (46 : UInt8) ∉ c :: l := fun h => (hd_ne (h2 46 h)).2.1 rfl
    have hl46 : (c :: l).getLast? ≠ some 46 := fun h => h46 (List.mem_of_getLast? h)
    obtain ⟨e1, e2⟩ := pU_of hPR hfit
    obtain ⟨n39, _, n60, n110, n116, n102⟩ := hd_ne hc
    refine ⟨?_, by simp, ?_⟩
    · rw [tl_num _ c l rfl hc]
      unfold tnv
      have htr : trimP (c :: l) = c :: l := by unfold trimP; rw [if_neg hl46]
      rw [htr, hPR]
      simp only
      rw [if_neg h46, sval_back, nz_fit hfit, fs_fit hfit, hfit]
      rfl
    · unfold rv
      rw [if_neg (by intro h; cases h; exact n116 rfl), if_neg (by intro h; cases h; exact n102 rfl), if_neg (by simp [n39]), if_neg (by simp [n60]), if_neg (fun h => hl46 h.2), if_pos ⟨by simp, by intro h; cases h; exact n110 rfl⟩]
      unfold rvC
      rw [e1, e2, if_neg (by simp)]
  by_cases h2 : k = 2
  · subst h2
    have hmb : 0 ≤ m ∧ m ≤ 6 ∧ b = [] := by simp at hok; omega
    obtain ⟨m0, m6, rfl⟩ := hmb
    obtain ⟨s, rfl⟩ : ∃ s : Nat, m = (s : Int) := ⟨m.toNat, by omega⟩
    rw [if_pos (.inr (.inl rfl))]
    have hPR := PR_there n s (by omega) hn.1 hn.2
    obtain ⟨c, l, pt, he, h2, h3, h4⟩ := num_form n s
    have hp : ptext ⟨2, n, (s : Int), []⟩ = c :: l ++ 46 :: pt := by
      show (if (2 : Int) = 1 then _ else if (2 : Int) = 2 then dpt n (s : Int) else _) = _
      rw [if_neg (by decide), if_pos rfl]
      unfold dpt
      rw [Int.toNat_natCast, he]
      by_cases hs : s = 0
      · subst hs
        have : pt = [] := List.eq_nil_of_length_eq_zero h4
        subst this
        simp
      · rw [if_neg hs, if_neg (by omega), List.append_nil]
    rw [he] at hPR
    rw [hp]
    have hc := h2 c (by simp)
    have h46 : (46 : UInt8) ∈ c :: l ++ 46 :: pt := by simp
    obtain ⟨e1, e2⟩ := pU_of hPR hfit
    obtain ⟨n39, _, n60, n110, n116, n102⟩ := hd_ne hc
    have hlast : s ≠ 0 → (c :: l ++ 46 :: pt).getLast? ≠ some 46 := by
      intro hs h
      have hne : pt ≠ [] := fun h => by rw [h] at h4; simp at h4; omega
      have e : (c :: l ++ 46 :: pt).getLast? = some (pt.getLast hne) := by rw [show c :: l ++ 46 :: pt = (c :: l ++ [46]) ++ pt by simp, List.getLast?_append, List.getLast?_eq_some_getLast hne]; rfl
      rw [e] at h
      exact (hd_ne (.inr (h3 46 (Option.some.inj h ▸ List.getLast_mem hne)))).2.1 rfl
    refine ⟨?_, by simp, ?_⟩
    · rw [tl_num (c :: l ++ 46 :: pt) c (l ++ 46 :: pt) rfl hc]
      unfold tnv
      have htr : trimP (c :: l ++ 46 :: pt) = c :: l ++ (if s = 0 then [] else 46 :: pt) := by
        unfold trimP
        by_cases hs : s = 0
        · subst hs
          have : pt = [] := List.eq_nil_of_length_eq_zero h4
          subst this
          have e : c :: l ++ [46] = (c :: l) ++ [46] := rfl
          rw [e, if_pos List.getLast?_concat, if_pos rfl, List.dropLast_concat, List.append_nil]
        · rw [if_neg hs, if_neg (hlast hs)]
      rw [htr, hPR]
      simp only
      rw [if_pos h46, sval_back, nz_fit hfit, fs_fit hfit, hfit]
    · unfold rv
      rw [if_neg (ne_hd (t := c :: l ++ 46 :: pt) (l := l ++ 46 :: pt) rfl n116), if_neg (ne_hd (t := c :: l ++ 46 :: pt) (l := l ++ 46 :: pt) rfl n102), if_neg (by simp [n39]), if_neg (by simp [n60])]
      by_cases hs : s = 0
      · subst hs
        have : pt = [] := List.eq_nil_of_length_eq_zero h4
        subst this
        rw [if_pos rfl, List.append_nil] at hPR e1 e2
        have e : c :: l ++ [46] = (c :: l) ++ [46] := rfl
        rw [e, if_pos ⟨by simp, List.getLast?_concat⟩]
        unfold rvB
        rw [List.dropLast_concat, e1, e2]
      · rw [if_neg hs] at hPR e1 e2
        rw [if_neg (fun h => hlast hs h.2), if_pos ⟨by simp, ne_hd (t := c :: l ++ 46 :: pt) (l := l ++ 46 :: pt) rfl n110⟩]
        unfold rvC
        rw [e1, e2, if_pos (by omega)]
  by_cases h3 : k = 3
  · subst h3
    have hmb : n = 0 ∧ m = 0 ∧ b.length ≤ 256 := by simp at hok; omega
    obtain ⟨rfl, rfl, hb⟩ := hmb
    rw [if_pos (.inr (.inr rfl))]
    have hp : ptext ⟨3, 0, 0, b⟩ = 39 :: (dbl b ++ [39]) := rfl
    rw [hp]
    refine ⟨?_, by simp, ?_⟩
    · unfold tl
      rw [if_neg (by intro h; cases h), if_neg (by intro h; cases h), if_neg (by intro h; cases h), if_pos (show (39 :: (dbl b ++ [39])).head? = some 39 from rfl)]
      show (match unqL (dbl b ++ [39]) with | none => _ | some b => _) = _
      rw [unq_dbl]
    · unfold rv
      rw [if_neg (by intro h; cases h), if_neg (by intro h; cases h), if_pos ⟨by simp, rfl⟩]
      unfold rvA
      have e : ((39 :: (dbl b ++ [39])).take ((39 :: (dbl b ++ [39])).length - 1)).drop 1 = dbl b := by simp
      rw [e, qr_dbl]
  by_cases h4 : k = 4
  · subst h4
    have hmb : (n = 0 ∨ n = 1) ∧ m = 0 ∧ b = [] := by simp at hok; omega
    obtain ⟨hn01, rfl, rfl⟩ := hmb
    rw [if_neg (by decide), if_pos rfl]
    rcases hn01 with rfl | rfl
    · rw [if_neg (by decide)]
      exact ⟨by unfold tl; rw [if_neg (by decide), if_neg (by decide), if_pos rfl], by decide, by unfold rv; rw [if_neg (by decide), if_pos rfl]⟩
    · rw [if_pos rfl]
      exact ⟨by unfold tl; rw [if_neg (by decide), if_pos rfl], by decide, by unfold rv; rw [if_pos rfl]⟩
  by_cases h5 : k = 5
  · subst h5
    have hmb : (-1048576 ≤ n ∧ n ≤ 1048576) ∧ (-1048576 ≤ m ∧ m ≤ 1048576) ∧ b = [] := by simp at hok; obtain ⟨a, b, c, d, e⟩ := hok; exact ⟨⟨a, b⟩, ⟨c, d⟩, e⟩
    obtain ⟨o1, o2, rfl⟩ := hmb
    rw [if_neg (by decide), if_neg (by decide), if_pos rfl]
    have hg : (Pt.ok1 n && Pt.ok1 m) = true := by rw [(Pt.ok1_iff n).2 o1, (Pt.ok1_iff m).2 o2]; rfl
    have hgp := Pt.gpv_text n m hg
    have hcons : ∃ l, Pt.gtx n m = 60 :: l ∧ 1 ≤ l.length := ⟨_, rfl, by rw [List.length_append]; simp only [List.length_cons]; omega⟩
    obtain ⟨l, hl, hl1⟩ := hcons
    rw [hl] at hgp ⊢
    refine ⟨?_, by simp, ?_⟩
    · unfold tl
      rw [if_neg (by intro h; cases h), if_neg (by intro h; cases h), if_neg (by intro h; cases h), if_neg (by simp), if_pos (show (60 :: l).head? = some 60 from rfl), hgp]
      rfl
    · unfold rv
      rw [if_neg (by intro h; cases h), if_neg (by intro h; cases h), if_neg (by simp), if_pos ⟨by simp only [List.length_cons]; omega, rfl⟩, hgp]
  · have hmb : k = 0 ∧ n = 0 ∧ m = 0 ∧ b = [] := by
      rcases hok with h | h | h | h | h | h
      · exact h
      · exact absurd h.1 h1
      · exact absurd h.1 h2
      · exact absurd h.1 h3
      · exact absurd h.1 h4
      · exact absurd h.1 h5
    obtain ⟨rfl, rfl, rfl, rfl⟩ := hmb
    rw [if_neg (by decide), if_neg (by decide), if_neg (by decide)]
    exact ⟨by unfold tl; rw [if_pos rfl], by decide, by unfold rv; rw [if_neg (by decide), if_neg (by decide), if_neg (by decide), if_neg (by decide), if_neg (by decide), if_neg (by simp)]⟩
/-- The numbers that are told are ints. -/
def rg (v : Va) : Prop := -9223372036854775808 ≤ v.n ∧ v.n ≤ 9223372036854775807
theorem gpv_rg (t : List UInt8) : (-1048576 ≤ (Pt.gpv t).1 ∧ (Pt.gpv t).1 ≤ 1048576) ∧ (-1048576 ≤ (Pt.gpv t).2.1 ∧ (Pt.gpv t).2.1 ≤ 1048576) := by
  rcases Pt.gpv_cases t with ⟨x, y, h, _, e⟩ | ⟨_, e⟩
  · rw [e]
    simp only [Bool.and_eq_true] at h
    exact ⟨(Pt.ok1_iff x).1 h.1, (Pt.ok1_iff y).1 h.2⟩
  · rw [e]; decide
theorem tl_rg (t : List UInt8) : rg (tl t).1 := by
  unfold tl
  repeat' split
  all_goals try (unfold rg; simp only; omega)
  · have := (gpv_rg t).1; unfold rg; simp only; omega
  · rw [tnv_1]; exact pU_in _
theorem tl_nil : (tl []).2 = false := by decide +kernel
theorem tx_no {v : Va} (h : vr v = false) : tx v = [] := by unfold tx; rw [h, if_neg (by simp)]
end Go.Proofs.YtibbenhplmmmiaaGreatDoor.Dt
