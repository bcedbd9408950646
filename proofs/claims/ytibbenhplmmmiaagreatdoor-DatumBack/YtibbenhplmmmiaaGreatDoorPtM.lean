/-
  The text of a point, and a text as a point, as plain mathematics (over the library's own itoa).
-/
import Derived.WalkKit
import Derived.Lib.AtoiAll
import Derived.Lib.ItoaNum
import Derived.Lib.SlTrimSet
namespace Go.Proofs.YtibbenhplmmmiaaGreatDoor.Pt

/-- A text parted at its first comma. -/
def cutCm : List UInt8 → List UInt8 × List UInt8 × Bool
  | [] => ([], [], false)
  | c :: l => if c = 44 then ([], l, true) else (c :: (cutCm l).1, (cutCm l).2.1, (cutCm l).2.2)
theorem cutCm_back (l : List UInt8) : l = (cutCm l).1 ++ (if (cutCm l).2.2 then 44 :: (cutCm l).2.1 else []) ∧ ((cutCm l).2.2 = false → (cutCm l).2.1 = []) := by
  induction l with
  | nil => exact ⟨rfl, fun _ => rfl⟩
  | cons c l ih =>
    unfold cutCm
    by_cases h : c = 44
    · rw [if_pos h]; subst h; exact ⟨rfl, by simp⟩
    · rw [if_neg h]
      refine ⟨?_, ih.2⟩
      show c :: l = (c :: (cutCm l).1) ++ _
      rw [List.cons_append, ← ih.1]
theorem cutCm_none (l : List UInt8) (h : ∀ c ∈ l, c ≠ 44) : cutCm l = (l, [], false) := by
  induction l with
  | nil => rfl
  | cons c l ih =>
    unfold cutCm
    rw [if_neg (h c (by simp)), ih (fun d hd => h d (by simp [hd]))]
theorem cutCm_some (l r : List UInt8) (h : ∀ c ∈ l, c ≠ 44) : cutCm (l ++ 44 :: r) = (l, r, true) := by
  induction l with
  | nil => unfold cutCm; simp
  | cons c l ih =>
    show cutCm (c :: (l ++ 44 :: r)) = _
    unfold cutCm
    rw [if_neg (h c (by simp)), ih (fun d hd => h d (by simp [hd]))]
def isDig (c : UInt8) : Prop := 48 ≤ c.toNat ∧ c.toNat ≤ 57
def valF : List UInt8 → Nat → Nat
  | [], n => n
  | c :: l, n => valF l (n * 10 + (c.toNat - 48))
theorem valF_cons (c : UInt8) (l : List UInt8) (n : Nat) : valF (c :: l) n = valF l (n * 10 + (c.toNat - 48)) := rfl
theorem valF_app (a b : List UInt8) : ∀ n, valF (a ++ b) n = valF b (valF a n) := by
  induction a with
  | nil => intro n; rfl
  | cons c a ih => intro n; rw [List.cons_append, valF_cons, valF_cons, ih]
abbrev digs := Lib.decDigits
theorem digs_small (u : Nat) (h : u < 10) : digs u = [UInt8.ofNat (48 + u)] := by show Lib.decDigits u = _; rw [Lib.decDigits, dif_pos h]
theorem digs_big (u : Nat) (h : ¬ u < 10) : digs u = digs (u / 10) ++ [UInt8.ofNat (48 + u % 10)] := by show Lib.decDigits u = _; rw [Lib.decDigits, dif_neg h]
theorem digs_pos (u : Nat) : 1 ≤ (digs u).length := by
  by_cases h : u < 10
  · rw [digs_small u h]; simp
  · rw [digs_big u h]; simp
theorem digs_len (k : Nat) : ∀ u, u < 10 ^ (k + 1) → (digs u).length ≤ k + 1 := by
  induction k with
  | zero => intro u h; rw [digs_small u (by omega)]; simp
  | succ k ih =>
    intro u h
    by_cases h' : u < 10
    · rw [digs_small u h']; simp
    · rw [digs_big u h', List.length_append]
      have := ih (u / 10) (by rw [Nat.pow_succ] at h; omega)
      simp; omega
theorem dig_nat (r : Nat) (h : r < 10) : (UInt8.ofNat (48 + r)).toNat = 48 + r := by rw [UInt8.toNat_ofNat']; omega
theorem digs_isDig (u : Nat) : ∀ c ∈ digs u, isDig c := by
  induction u using Nat.strongRecOn with
  | ind u ih =>
    intro c hc
    by_cases h : u < 10
    · rw [digs_small u h] at hc
      rw [List.mem_singleton.1 hc]
      unfold isDig; rw [dig_nat u h]; omega
    · rw [digs_big u h] at hc
      rcases List.mem_append.1 hc with h1 | h1
      · exact ih (u / 10) (by omega) c h1
      · rw [List.mem_singleton.1 h1]
        unfold isDig; rw [dig_nat _ (by omega)]; omega
theorem digs_val (u : Nat) : valF (digs u) 0 = u := by
  induction u using Nat.strongRecOn with
  | ind u ih =>
    by_cases h : u < 10
    · rw [digs_small u h]
      show 0 * 10 + ((UInt8.ofNat (48 + u)).toNat - 48) = u
      rw [dig_nat u h]; omega
    · rw [digs_big u h, valF_app, ih (u / 10) (by omega)]
      show u / 10 * 10 + ((UInt8.ofNat (48 + u % 10)).toNat - 48) = u
      rw [dig_nat _ (by omega)]; omega
/-- May a coordinate be? -/
def ok1 (x : Int) : Bool := decide (-1048576 ≤ x ∧ x ≤ 1048576)
/-- A number's text. -/
abbrev itx (n : Int) : List UInt8 := Lib.itoa n
theorem itx_eq (n : Int) : itx n = (if n < 0 then [45] else []) ++ digs n.natAbs := by
  show Lib.itoa n = _
  unfold Lib.itoa
  split
  · rfl
  · rw [show n.toNat = n.natAbs by omega]; rfl
/-- A point's text. -/
def gtx (x y : Int) : List UInt8 := 60 :: (itx x ++ 44 :: (itx y ++ [62]))
theorem itx_mem (n : Int) : ∀ c ∈ itx n, c = 45 ∨ isDig c := by
  intro c hc
  rw [itx_eq] at hc
  rcases List.mem_append.1 hc with h | h
  · split at h
    · exact .inl (List.mem_singleton.1 h)
    · cases h
  · exact .inr (digs_isDig _ c h)
theorem valF_le (l : List UInt8) : ∀ n, n ≤ valF l n := by
  induction l with
  | nil => intro n; exact Nat.le_refl _
  | cons c r ih => intro n; rw [valF_cons]; exact Nat.le_trans (by omega) (ih _)
theorem pUint (l : List UInt8) : ∀ acc, (∀ c ∈ l, isDig c) → valF l acc < 18446744073709551616 → Lib.parseUint10 acc l = .ok (valF l acc) := by
  induction l with
  | nil => intro acc _ _; rfl
  | cons c r ih =>
    intro acc hd hv
    have hc : 48 ≤ c.toNat ∧ c.toNat ≤ 57 := hd c (List.mem_cons_self ..)
    rw [valF_cons] at hv
    have h1 := valF_le r (acc * 10 + (c.toNat - 48))
    unfold Lib.parseUint10
    rw [if_pos hc, if_neg (by omega), if_neg (by omega), ih _ (fun x hx => hd x (List.mem_cons_of_mem _ hx)) hv]
    rfl
theorem pMag (u : Nat) (h : u < 18446744073709551616) : Lib.parseMag (digs u) = .ok u := by
  unfold Lib.parseMag
  rw [if_neg (by intro e; have := digs_pos u; rw [e] at this; simp at this), pUint _ 0 (digs_isDig u) (by rw [digs_val]; exact h), digs_val]
theorem atoi_itx (n : Int) (h0 : -9223372036854775808 ≤ n) (h1 : n ≤ 9223372036854775807) : Lib.atoiAll (itx n) = .ok n := by
  rw [itx_eq]
  by_cases hn : n < 0
  · rw [if_pos hn]
    show Lib.atoiAll (45 :: digs n.natAbs) = _
    unfold Lib.atoiAll
    have e : (45 : UInt8).toNat = 45 := rfl
    simp only [e]
    rw [if_pos (by simp), pMag _ (by omega)]
    simp only
    rw [if_neg (by simp), if_neg (by omega), if_pos trivial, show -((n.natAbs : Nat) : Int) = n by omega]
  · rw [if_neg hn, List.nil_append]
    have hp := pMag n.natAbs (by omega)
    have hd := digs_isDig n.natAbs
    cases hl : digs n.natAbs with
    | nil => have := digs_pos n.natAbs; rw [hl] at this; simp at this
    | cons c r =>
      rw [hl] at hp hd
      have hc : isDig c := hd c (List.mem_cons_self ..)
      unfold isDig at hc
      unfold Lib.atoiAll
      simp only
      rw [if_neg (by omega), hp]
      simp only
      rw [if_neg (by omega), if_neg (by omega), if_neg (by omega), show ((n.natAbs : Nat) : Int) = n by omega]
theorem trim_mid (A : List UInt8) (hA : A ≠ []) (h : ∀ c ∈ A, c ≠ 60 ∧ c ≠ 62) : Lib.trimS (60 :: (A ++ [62])) [60, 62] = A := by
  have key : ∀ (L R : List UInt8), L ≠ [] → (∀ c ∈ L, c ≠ 60 ∧ c ≠ 62) → (L ++ R).dropWhile (([60, 62] : List UInt8).contains ·) = L ++ R := by
    intro L R hL hh
    cases L with
    | nil => exact absurd rfl hL
    | cons c r =>
      have hc := hh c (List.mem_cons_self ..)
      rw [List.cons_append, List.dropWhile_cons, if_neg (by simp [hc.1, hc.2])]
  unfold Lib.trimS Lib.trimRightS Lib.trimLeftS
  have e1 : (60 :: (A ++ [62])).reverse = 62 :: (A.reverse ++ [60]) := by simp
  rw [e1, List.dropWhile_cons, if_pos (by decide), key A.reverse [60] (by simpa using hA) (fun c hc => h c (by simpa using hc))]
  have e2 : (A.reverse ++ [60]).reverse = 60 :: A := by simp
  rw [e2, List.dropWhile_cons, if_pos (by decide)]
  have := key A [] hA h
  rwa [List.append_nil] at this
theorem not_sign {c : UInt8} (h : c = 45 ∨ isDig c) : c ≠ 60 ∧ c ≠ 62 ∧ c ≠ 44 := by
  unfold isDig at h
  refine ⟨?_, ?_, ?_⟩ <;> (rintro rfl; rcases h with h | h <;> revert h <;> decide)
theorem gtx_trim (x y : Int) : Lib.trimS (gtx x y) [60, 62] = itx x ++ 44 :: itx y := by
  have e : gtx x y = 60 :: ((itx x ++ 44 :: itx y) ++ [62]) := by simp [gtx]
  rw [e]
  refine trim_mid _ (by simp) ?_
  intro c hc
  rcases List.mem_append.1 hc with h | h
  · have := not_sign (itx_mem x c h); exact ⟨this.1, this.2.1⟩
  · rcases List.mem_cons.1 h with h | h
    · subst h; decide
    · have := not_sign (itx_mem y c h); exact ⟨this.1, this.2.1⟩
theorem gtx_cut (x y : Int) : cutCm (Lib.trimS (gtx x y) [60, 62]) = (itx x, itx y, true) := by
  rw [gtx_trim]
  exact cutCm_some _ _ (fun c hc => (not_sign (itx_mem x c hc)).2.2)

theorem ok1_iff (x : Int) : ok1 x = true ↔ -1048576 ≤ x ∧ x ≤ 1048576 := by simp [ok1]
/-- What a text is as a point: coordinates and the error's number. -/
def gpv (l : List UInt8) : Int × Int × Int :=
  match Lib.atoiAll (cutCm (Lib.trimS l [60, 62])).1, Lib.atoiAll (cutCm (Lib.trimS l [60, 62])).2.1 with
  | .ok n, .ok m => if (ok1 n && ok1 m) = true ∧ gtx n m = l then (n, m, 0) else (0, 0, 21)
  | _, _ => (0, 0, 21)
theorem gpv_text (x y : Int) (h : (ok1 x && ok1 y) = true) : gpv (gtx x y) = (x, y, 0) := by
  have hx := (ok1_iff x).1 (by simp at h; exact h.1)
  have hy := (ok1_iff y).1 (by simp at h; exact h.2)
  unfold gpv
  rw [gtx_cut]
  simp only
  rw [atoi_itx x (by omega) (by omega), atoi_itx y (by omega) (by omega)]
  simp only
  rw [if_pos (by simp [h])]
theorem gpv_cases (l : List UInt8) : (∃ x y, (ok1 x && ok1 y) = true ∧ l = gtx x y ∧ gpv l = (x, y, 0)) ∨ ((∀ x y, (ok1 x && ok1 y) = true → l ≠ gtx x y) ∧ gpv l = (0, 0, 21)) := by
  by_cases h : ∃ x y, (ok1 x && ok1 y) = true ∧ l = gtx x y
  · obtain ⟨x, y, h1, rfl⟩ := h
    exact .inl ⟨x, y, h1, rfl, gpv_text x y h1⟩
  · refine .inr ⟨fun x y h1 h2 => h ⟨x, y, h1, h2⟩, ?_⟩
    unfold gpv
    split
    · rename_i n m _ _
      rw [if_neg (fun c => h ⟨n, m, c.1, c.2.symm⟩)]
    · rfl
theorem itx_len (z : Int) (h0 : -1048576 ≤ z) (h1 : z ≤ 1048576) : (itx z).length ≤ 8 := by
  rw [itx_eq, List.length_append]
  have := digs_len 6 z.natAbs (by omega)
  split <;> simp <;> omega
/-- The text of whatever point: none of one that may not be. -/
def ptx (x y : Int) : List UInt8 := if (ok1 x && ok1 y) = true then gtx x y else []
/-- The number that Atoi gives, and whether it is right. -/
def atN (l : List UInt8) : Int := match Lib.atoiAll l with
  | .ok v => v
  | .syntax => 0
  | .range => Lib.atoiSat l
def atB (l : List UInt8) : Bool := match Lib.atoiAll l with
  | .ok _ => true
  | _ => false
theorem gpv_at (l x y : List UInt8) (hx : x = (cutCm (Lib.trimS l [60, 62])).1) (hy : y = (cutCm (Lib.trimS l [60, 62])).2.1) : gpv l = if (atB x && atB y && (ok1 (atN x) && ok1 (atN y))) = true ∧ ptx (atN x) (atN y) = l then (atN x, atN y, 0) else (0, 0, 21) := by
  unfold gpv
  rw [← hx, ← hy]
  cases h1 : Lib.atoiAll x with
  | ok n =>
    have e1 : atN x = n := by unfold atN; rw [h1]
    have f1 : atB x = true := by unfold atB; rw [h1]
    cases h2 : Lib.atoiAll y with
    | ok m =>
      have e2 : atN y = m := by unfold atN; rw [h2]
      have f2 : atB y = true := by unfold atB; rw [h2]
      rw [e1, e2, f1, f2]
      unfold ptx
      by_cases hh : (ok1 n && ok1 m) = true
      · rw [if_pos hh]; simp only [hh, Bool.true_and, true_and]
      · have hf : (ok1 n && ok1 m) = false := by simpa using hh
        simp only [hf, Bool.and_false, Bool.false_eq_true, false_and, if_false]
    | «syntax» => have f2 : atB y = false := by unfold atB; rw [h2]
                  simp [f2]
    | range => have f2 : atB y = false := by unfold atB; rw [h2]
               simp [f2]
  | «syntax» => have f2 : atB x = false := by unfold atB; rw [h1]
                simp [f2]
  | range => have f2 : atB x = false := by unfold atB; rw [h1]
             simp [f2]
theorem dropW_len (p : UInt8 → Bool) (l : List UInt8) : (l.dropWhile p).length ≤ l.length := by
  induction l with
  | nil => simp
  | cons c r ih => rw [List.dropWhile_cons]; split <;> simp <;> omega
theorem trimS_len (l : List UInt8) : (Lib.trimS l [60, 62]).length ≤ l.length := by
  unfold Lib.trimS Lib.trimLeftS Lib.trimRightS
  refine Nat.le_trans (dropW_len _ _) ?_
  rw [List.length_reverse]
  refine Nat.le_trans (dropW_len _ _) ?_
  simp
theorem cutCm_len (l : List UInt8) : (cutCm l).1.length ≤ l.length ∧ (cutCm l).2.1.length ≤ l.length := by
  obtain ⟨h1, h2⟩ := cutCm_back l
  have h3 := congrArg List.length h1
  rw [List.length_append] at h3
  cases hb : (cutCm l).2.2 with
  | true => rw [hb, if_pos rfl] at h3; simp at h3; omega
  | false => rw [h2 hb]; rw [hb] at h3; simp at h3; simp; omega
theorem gtx_len (x y : Int) (h : (ok1 x && ok1 y) = true) : (gtx x y).length ≤ 19 := by
  have hx := (ok1_iff x).1 (by simp at h; exact h.1)
  have hy := (ok1_iff y).1 (by simp at h; exact h.2)
  have k : ∀ z : Int, -1048576 ≤ z → z ≤ 1048576 → (itx z).length ≤ 8 := by
    intro z h0 h1
    rw [itx_eq, List.length_append]
    have := digs_len 6 z.natAbs (by omega)
    split <;> simp <;> omega
  have a := k x hx.1 hx.2
  have b := k y hy.1 hy.2
  simp [gtx]; omega

end Go.Proofs.YtibbenhplmmmiaaGreatDoor.Pt
