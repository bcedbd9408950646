/-
  The tokens of any text: each is just what its text alone is; signs, words and literals.
  expr.Parse of any text.
-/
import Derived.Test.YtclhmmgdhagloaaGreatDoorMYEAgM
import Derived.Test.YtclhmmgdhagloaaGreatDoorMQEPrtV
namespace Go.Proofs.YtclhmmgdhagloaaGreatDoor

theorem wordN_take (l : List UInt8) : wordN (l.take (wordN l)) = wordN l := by
  induction l with
  | nil => rfl
  | cons c l ih =>
    have e : ∀ m : List UInt8, wordN (c :: m) = if isW c = true then wordN m + 1 else 0 := fun m => rfl
    by_cases h : isW c = true
    · rw [e l, if_pos h, List.take_succ_cons, e, if_pos h, ih]
    · rw [e l, if_neg h]
      rfl
theorem digN_take (l : List UInt8) : digN (l.take (digN l)) = digN l := by
  induction l with
  | nil => rfl
  | cons c l ih =>
    have e : ∀ m : List UInt8, digN (c :: m) = if isD c = true then digN m + 1 else 0 := fun m => rfl
    by_cases h : isD c = true
    · rw [e l, if_pos h, List.take_succ_cons, e, if_pos h, ih]
    · rw [e l, if_neg h]
      rfl
theorem numN_take (l : List UInt8) : numN (l.take (numN l)) = numN l := by
  induction l with
  | nil => rfl
  | cons c l ih =>
    have e : ∀ m : List UInt8, numN (c :: m) = if isD c = true then numN m + 1 else if c = 46 then digN m + 1 else 0 := fun m => rfl
    by_cases h : isD c = true
    · rw [e l, if_pos h, List.take_succ_cons, e, if_pos h, ih]
    · by_cases h2 : c = 46
      · rw [e l, if_neg h, if_pos h2, List.take_succ_cons, e, if_neg h, if_pos h2, digN_take]
      · rw [e l, if_neg h, if_neg h2]
        rfl
theorem textN_take (l : List UInt8) : ∀ n, textN l = some n → textN (l.take n) = some n := by
  induction h : l.length using Nat.strongRecOn generalizing l with
  | ind m ih =>
    intro n hn
    match l, h with
    | [], _ => simp [textN] at hn
    | c :: l, h =>
      by_cases hc : c = 39
      · subst hc
        match l, h with
        | [], h => rw [textN_last] at hn; cases hn; exact textN_last
        | d :: l, h =>
          by_cases hd : d = 39
          · subst hd
            rw [textN_two] at hn
            cases ht : textN l with
            | none => simp [ht] at hn
            | some k =>
              have := ih l.length (by simp at h; omega) l rfl k ht
              simp [ht] at hn
              subst hn
              show textN (39 :: 39 :: l.take k) = _
              rw [textN_two, this]
              rfl
          · rw [textN_end _ _ hd] at hn
            cases hn
            exact textN_last
      · rw [textN_cons _ _ hc] at hn
        cases ht : textN l with
        | none => simp [ht] at hn
        | some k =>
          have := ih l.length (by simp at h; omega) l rfl k ht
          simp [ht] at hn
          subst hn
          show textN (c :: l.take k) = _
          rw [textN_cons _ _ hc, this]
          rfl
/-- A token's own text begins with that token. -/
theorem lxt_take (l : List UInt8) (h : (lxt l).1 ≠ 0) : lxt (l.take (lxt l).2) = lxt l := by
  cases l with
  | nil => exact absurd rfl h
  | cons c l =>
    rw [lxt_cons] at h ⊢
    by_cases hL : isL c = true
    · rw [if_pos hL]
      show lxt (c :: l.take (wordN l)) = _
      rw [lxt_cons, if_pos hL, wordN_take]
    rw [if_neg hL] at h ⊢
    by_cases hD : isD c = true
    · rw [if_pos hD]
      show lxt (c :: l.take (numN l)) = _
      rw [lxt_cons, if_neg hL, if_pos hD, numN_take]
    rw [if_neg hD] at h ⊢
    by_cases h39 : c = 39
    · rw [if_pos h39] at h ⊢
      cases ht : textN l with
      | none => rw [ht] at h; exact absurd rfl h
      | some n =>
        show lxt (c :: l.take n) = _
        rw [lxt_cons, if_neg hL, if_neg hD, if_pos h39, textN_take l n ht]
    rw [if_neg h39] at h ⊢
    by_cases h60 : c = 60
    · rw [if_pos h60]
      subst h60
      by_cases hh : l.head? = some 62 ∨ l.head? = some 61
      · rw [if_pos hh]
        cases l with
        | nil => simp at hh
        | cons d l =>
          show lxt (60 :: [d]) = _
          rw [lxt_cons, if_neg (by decide), if_neg (by decide), if_neg (by decide), if_pos rfl, if_pos (by simpa using hh)]
      · rw [if_neg hh]
        rfl
    rw [if_neg h60] at h ⊢
    by_cases h62 : c = 62
    · rw [if_pos h62]
      subst h62
      by_cases hh : l.head? = some 61
      · rw [if_pos hh]
        cases l with
        | nil => simp at hh
        | cons d l =>
          show lxt (62 :: [d]) = _
          rw [lxt_cons, if_neg (by decide), if_neg (by decide), if_neg (by decide), if_neg (by decide), if_pos rfl, if_pos (by simpa using hh)]
      · rw [if_neg hh]
        rfl
    rw [if_neg h62] at h ⊢
    by_cases hS : isS c = true
    · rw [if_pos hS]
      show lxt (c :: []) = _
      rw [lxt_cons, if_neg hL, if_neg hD, if_neg h39, if_neg h60, if_neg h62, if_pos hS]
    · rw [if_neg hS] at h
      exact absurd rfl h
def Tok2 (T : List UInt8) : Prop := Tok1 T ∨ T = [59]
theorem tok_right {l : List UInt8} {i : Nat} {y : Tok} (h : tok vz dpv l i = some y) (hb : ∀ c r, l = c :: r → isB c = false) (hl : l.length ≤ 4096) : rtok (tin y) = true ∧ Tok2 y.t := by
  obtain ⟨h1, h2, h3, h4, h5⟩ := tok_len h
  have hle := lxt_le l
  have h0 : (lxt l).1 ≠ 0 := by
    intro h0
    unfold tok at h
    rw [if_pos h0] at h
    cases h
  have hlx := lxt_take l h0
  have htk : tok vz dpv y.t 0 = some ⟨y.k, y.t, y.v, 0⟩ := by
    have e : tok vz dpv (l.take (lxt l).2) 0 = (tok vz dpv l i).map (fun z => (⟨z.k, z.t, z.v, 0⟩ : Tok)) := by
      unfold tok
      rw [hlx, List.take_take, Nat.min_self]
      split
      · rfl
      split
      · split <;> rfl
      split
      · split <;> rfl
      · rfl
    rw [h1, e, h]
    simp [h1]
  have hyne : y.t ≠ [] := by intro he; rw [he] at h2; simp at h2; omega
  have hyl : y.t.length ≤ 4096 := by omega
  obtain ⟨c, r, hcr⟩ : ∃ c r, l = c :: r := by
    cases l with
    | nil => simp at hle; omega
    | cons c r => exact ⟨c, r, rfl⟩
  have hyc : ∃ r', y.t = c :: r' := by
    rw [h1, hcr]
    obtain ⟨m, hm⟩ : ∃ m, (lxt (c :: r)).2 = m + 1 := ⟨(lxt (c :: r)).2 - 1, by rw [hcr] at h3; omega⟩
    rw [hm]
    exact ⟨_, rfl⟩
  obtain ⟨r', hyr⟩ := hyc
  constructor
  · have hlexy : lexL vz dpv y.t 0 = some [⟨y.k, y.t, y.v, 0⟩] := by
      have : lexL vz dpv (c :: r') 0 = some [⟨y.k, y.t, y.v, 0⟩] := by
        rw [lex_tok _ _ _ (hb c r hcr), ← hyr, htk]
        simp only
        rw [List.drop_length, lex_nil]
        rfl
      rw [← hyr] at this
      exact this
    rw [← rt_same (tin y) hyl]
    show (match lexL vz dpv y.t 0 with | some [y] => _ | _ => false) = true
    rw [hlexy]
    simp [sameW_refl]
  · have hlxy : lxt y.t = ((lxt l).1, y.t.length) := by rw [h1, hlx]; rw [← h1, h2]
    rw [hyr] at hlxy ⊢
    rw [lxt_cons] at hlxy
    by_cases hL : isL c = true
    · refine .inl (.inr (.inr (.inr (.inr (.inr (.inr (.inl ?_)))))))
      have hk1 : (lxt l).1 = 1 := by
        rw [if_pos hL] at hlxy
        exact (Prod.mk.inj hlxy).1.symm
      have h32 : (lxt l).2 ≤ 32 := by
        unfold tok at h
        rw [if_neg h0, if_pos hk1] at h
        split at h
        · assumption
        · cases h
      unfold wordL
      rw [lxt_cons, hlxy, ← hyr]
      simp
      exact ⟨hk1, by omega⟩
    rw [if_neg hL] at hlxy
    by_cases hD : isD c = true
    · exact .inl (.inr (.inr (.inr (.inr (.inr (.inr (.inr ⟨c, r', rfl, .inr hD⟩)))))))
    rw [if_neg hD] at hlxy
    by_cases h39 : c = 39
    · exact .inl (.inr (.inr (.inr (.inr (.inr (.inr (.inr ⟨c, r', rfl, .inl h39⟩)))))))
    rw [if_neg h39] at hlxy
    have opk : ∀ op, 6 ≤ op → op ≤ 18 → Tok2 (sgn op) := fun op a b => .inl (.inr (.inr (.inr (.inr (.inr (.inl ⟨op, a, b, rfl⟩))))))
    by_cases h60 : c = 60
    · rw [if_pos h60] at hlxy
      subst h60
      have hl2 := (Prod.mk.inj hlxy).2
      cases r' with
      | nil => exact opk 13 (by decide) (by decide)
      | cons d r'' =>
        split at hl2
        · rename_i hh
          have hr : r'' = [] := by cases r'' with | nil => rfl | cons => simp at hl2
          subst hr
          simp at hh
          rcases hh with rfl | rfl
          · exact opk 12 (by decide) (by decide)
          · exact opk 14 (by decide) (by decide)
        · simp at hl2
    rw [if_neg h60] at hlxy
    by_cases h62 : c = 62
    · rw [if_pos h62] at hlxy
      subst h62
      have hl2 := (Prod.mk.inj hlxy).2
      cases r' with
      | nil => exact opk 15 (by decide) (by decide)
      | cons d r'' =>
        split at hl2
        · rename_i hh
          have hr : r'' = [] := by cases r'' with | nil => rfl | cons => simp at hl2
          subst hr
          simp at hh
          subst hh
          exact opk 16 (by decide) (by decide)
        · simp at hl2
    rw [if_neg h62] at hlxy
    by_cases hS : isS c = true
    · rw [if_pos hS] at hlxy
      have hl2 := (Prod.mk.inj hlxy).2
      have hr : r' = [] := by cases r' with | nil => rfl | cons => simp at hl2
      subst hr
      have n39 : ∀ k : UInt8, c.toNat = k.toNat → c = k := fun k h => UInt8.toNat_inj.1 h
      unfold isS at hS
      simp at hS
      rcases hS with h | h | h | h | h | h | h | h | h | h | h
      · rw [n39 40 h]; exact .inl (.inl rfl)
      · rw [n39 41 h]; exact .inl (.inr (.inl rfl))
      · rw [n39 44 h]; exact .inl (.inr (.inr (.inl rfl)))
      · rw [n39 46 h]; exact .inl (.inr (.inr (.inr (.inr (.inl rfl)))))
      · rw [n39 59 h]; exact .inr rfl
      · rw [n39 42 h]; exact opk 6 (by decide) (by decide)
      · rw [n39 43 h]; exact opk 9 (by decide) (by decide)
      · rw [n39 45 h]; exact opk 10 (by decide) (by decide)
      · rw [n39 47 h]; exact opk 7 (by decide) (by decide)
      · rw [n39 37 h]; exact opk 8 (by decide) (by decide)
      · rw [n39 61 h]; exact opk 11 (by decide) (by decide)
    · rw [if_neg hS] at hlxy
      exact absurd (Prod.mk.inj hlxy).1.symm h0
theorem lex_right (l : List UInt8) : ∀ i x, l.length ≤ 4096 → lexL vz dpv l i = some x → ∀ y ∈ x, rtok (tin y) = true ∧ Tok2 y.t := by
  induction h : l.length using Nat.strongRecOn generalizing l with
  | ind m ih =>
    intro i x hm hx y hy
    match l, h with
    | [], h => cases hx; cases hy
    | c :: l, h =>
      simp at h
      cases hb : isB c with
      | true =>
        rw [lex_blank _ _ _ hb] at hx
        exact ih l.length (by omega) l rfl _ _ (by omega) hx y hy
      | false =>
        rw [lex_tok _ _ _ hb] at hx
        cases hz : tok vz dpv (c :: l) i with
        | none => rw [hz] at hx; cases hx
        | some z =>
          rw [hz] at hx
          simp only at hx
          obtain ⟨_, h2, h3, _⟩ := tok_len hz
          cases hr : lexL vz dpv ((c :: l).drop z.t.length) (i + z.t.length) with
          | none => rw [hr] at hx; cases hx
          | some r =>
            rw [hr] at hx
            simp at hx
            subst hx
            rcases List.mem_cons.1 hy with rfl | hy
            · exact tok_right hz (fun d r' e => by cases e; exact hb) (by simp; omega)
            · exact ih _ (by simp; omega) ((c :: l).drop z.t.length) rfl _ _ (by simp; omega) hr y hy
end Go.Proofs.YtclhmmgdhagloaaGreatDoor

namespace Go.Proofs.YtclhmmgdhagloaaGreatDoor
open Go.RowKit Go.Shelf
attribute [local go_sem] cell?_more frozen?_more setCell_more more_lt more_more more_drew more_drewN setCell_drewN alloc_drewN

theorem vparse_tok2 (t : List UInt8) (w : World) (hT : Tabs w) (hP : Ptab w) (tp : TypeId) (p : Value) (hE : Esy w tp p) (hl : t.length ≤ 4096) (h : Tok2 t) : Calls Tryz.prog 134 #[.string ⟨t.toArray⟩] w fun e w' => e = .returned (dpR (vE t)) ∧ Below w.heap.size w w' := by
  rcases h with h | rfl
  · exact vparse_tok t w hT hP tp p hE hl h
  · exact vparse_no [59] w (by simp) rfl rfl (ba_ne _ _ (by decide)) (ba_ne _ _ (by decide)) (ba_ne _ _ (by decide)) (by decide +kernel)
theorem pars_any (xs : List Tok) (w : World) (hT : Tabs w) (hP : Ptab w) (tp : TypeId) (p : Value) (hE : Esy w tp p) (hr : ∀ y ∈ xs, rtok (tin y) = true ∧ Tok2 y.t) : Pars w (xs.map tin) vE := by
  refine ⟨rfl, fun k W hW => ?_⟩
  by_cases hk : k < xs.length
  · rw [nxt_at (fun y hy => (hr y hy).1) k hk]
    have hm := List.getElem_mem hk
    exact vparse_tok2 _ W (hT.later hW) (hP.later hW) tp p (hE.later hW) (rtok_len (hr _ hm).1).2 (hr _ hm).2
  · rw [nxt_end xs k (by omega)]
    exact vparse_no [] W (by simp) rfl rfl (by rw [ByteArray.toList_eq]; rfl) (by rw [ByteArray.toList_eq]; rfl) (by rw [ByteArray.toList_eq]; rfl) (by decide +kernel)
theorem ntk_of {xs : List Tok} (hr : ∀ y ∈ xs, rtok (tin y) = true) : Ntk (nxt (xs.map tin)) xs.length := by
  refine ⟨fun k hk => ?_, fun k => ?_⟩
  · rw [nxt_end xs k hk]
    exact ⟨rfl, rfl⟩
  · by_cases hk : k < xs.length
    · rw [nxt_at hr k hk]
      exact (rtok_len (hr _ (List.getElem_mem hk))).2
    · rw [nxt_end xs k (by omega)]
      simp

set_option maxHeartbeats 2000000 in
theorem parse6_bad (B : ByteArray) (er : Int) (w : World) (h0 : er ≠ 0) (SP : Calls Tryz.prog 42 #[.string B] w fun e w' => e = .returned (.tuple #[.slice none 0 0, .int .i64 er]) ∧ Below w.heap.size w w') :
    Calls Tryz.prog 20 #[.string B] w fun e w' => e = .returned (.tuple #[.slice none 0 0, .int .i64 er]) ∧ Below w.heap.size w w' := by
  have h0' : (er == 0) = false := by rw [beq_eq_false_iff_ne]; exact h0
  have h0'' : ¬ er = 0 := h0
  clear h0
  go_enter Tryz.func20, Tryz.ntmps20
  go_wp2_with (go_at_call 42; refine SP.mono ?_; rintro e w1 ⟨rfl, b1⟩)
  refine bodyPost_ret_by (v := .tuple #[.slice none 0 0, .int .i64 er]) ?_ rfl ⟨rfl, b1⟩
  simp [results, Tryz.results20, go_sem]

/-- What expr.Parse makes of a text: an error and nothing, or an expression. -/
theorem parse_cases (t : List UInt8) (w : World) (hT : Tabs w) (hP : Ptab w) (hS : Sg w) (tp : TypeId) (p : Value) (hE : Esy w tp p) :
    (∃ er : Int, er ≠ 0 ∧ ∀ W, Below w.heap.size w W → Calls Tryz.prog 20 #[.string ⟨t.toArray⟩] W fun e w' => e = .returned (.tuple #[.slice none 0 0, .int .i64 er]) ∧ Below W.heap.size W w') ∨
    (∃ a : List Nd, 0 < depN mayN a ∧ (∀ x ∈ a, Gn x) ∧ ∀ W, Below w.heap.size w W → Calls Tryz.prog 20 #[.string ⟨t.toArray⟩] W fun e w' => (∃ v, e = .returned (.tuple #[v, .int .i64 0]) ∧ Nowns w' W.heap.size v a) ∧ Below W.heap.size W w') := by
  by_cases hl : t.length ≤ 4096
  case neg =>
    refine .inl ⟨6, by decide, fun W _ => parse6_bad _ 6 W (by decide) ?_⟩
    refine (split_big ⟨t.toArray⟩ W (by show 4096 < t.length; omega)).mono ?_
    rintro e w' ⟨h1, rfl⟩
    exact ⟨h1, Below.refl _ _⟩
  cases hx : lexL vz dpv t 0 with
  | none =>
    refine .inl ⟨30, by decide, fun W h => parse6_bad _ 30 W (by decide) ?_⟩
    have := split_any t W hl (hT.later h) (hP.later h)
    rw [hx] at this
    exact this
  | some xs =>
    have hr := lex_right t 0 xs hl hx
    have hxl : xs.length ≤ 4096 := Nat.le_trans (lex_count _ _ _ hx) hl
    obtain ⟨R, hR⟩ : ∃ R, rdx (nxt (xs.map tin)) vE (xs.length + 1) (7 + 8 * xs.length) .ex 0 [] 0 = R := ⟨_, rfl⟩
    have hok : Okr xs.length R := by
      rw [← hR]
      exact rdx_ok (ntk_of (fun y hy => (hr y hy).1)) vE_in rfl _ _ _ _ _ (Nat.zero_le _) (fun x hx => by cases hx)
    have hsh : shN R.2.2 := fun x hx => ⟨by have := (hok.1 x hx).1; omega, by have := (hok.1 x hx).2.1; omega⟩
    have PA : ∀ W, Below w.heap.size w W → _ := fun W h => parse6_any t xs vE W hl (hT.later h) (hP.later h) (hS.later h) hx hxl (fun V hV => pars_any xs V (hT.later (below_trans h hV)) (hP.later (below_trans h hV)) tp p (hE.later (below_trans h hV)) hr) R hR hsh (by have := hok.2; omega)
    unfold parseP at PA
    by_cases h0 : R.1 = 0
    · simp only [if_pos h0] at PA
      by_cases hd : 0 < depN mayN R.2.2
      · simp only [if_pos hd] at PA
        by_cases hlt : R.2.1 < xs.length
        · simp only [if_pos hlt] at PA
          exact .inl ⟨30, by decide, PA⟩
        · simp only [if_neg hlt] at PA
          exact .inr ⟨R.2.2, hd, hok.1, PA⟩
      · simp only [if_neg hd] at PA
        exact .inl ⟨38, by decide, PA⟩
    · simp only [if_neg h0] at PA
      exact .inl ⟨(R.1 : Int), by omega, PA⟩
end Go.Proofs.YtclhmmgdhagloaaGreatDoor
