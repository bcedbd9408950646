/-
  The contract of longstoplaw06.knows.
  With a not behind them nodes are one deeper, or too deep; their columns are the same, and their text stands within.
  What datum.Print tells of the values that a literal may have: null and the two truths besides.
  Of nodes that are an expression names and texts are short.
-/
import Derived.Test.YtgapmofhnjfdiaaGreatDoorMXEKnow3
namespace Go.Proofs.YtgapmofhnjfdiaaGreatDoor
open Go.RowKit Go.Shelf
attribute [local go_sem] cell?_more frozen?_more setCell_more more_lt more_more more_drew more_drewN setCell_drewN alloc_drewN

theorem num6_any (n : Int) (w : World) : Calls Tryz.prog 39 #[.int .i64 n] w fun e w' => e = .returned (.int .i64 n) ∧ w = w' := by
  go_enter Tryz.func39, Tryz.ntmps39
  go_wp2
  go_ret
  exact ⟨rfl, rfl⟩

set_option maxRecDepth 20000 in
set_option maxHeartbeats 4000000 in
theorem knows6_any (w : World) (hT : Tabs w) (hP : Ptab w) (hS : Sg w) : Calls Tryz.prog 12 #[] w fun e w' => e = .returned (.bool true) ∧ Below w.heap.size w w' := by
  have PQ := parse_Q w hT hP hS
  have PR6 : Hid (∀ W ao cap, Below w.heap.size w W → Nw W ao nQ → Calls Tryz.prog 13 #[.slice ao 5 cap] W fun e w' => e = .returned (.string ⟨#[40, 97, 32, 43, 32, 40, 50, 32, 42, 32, 98, 41, 41]⟩) ∧ Below W.heap.size W w') := fun W ao cap h hv => print_Q ao cap W hv (hT.later h) (hP.later h) (hS.later h)
  have DQ : Hid (∀ W ao cap, Below w.heap.size w W → Nw W ao nQ → Calls Tryz.prog 9 #[.slice ao 5 cap] W fun e w' => e = .returned (.int .i64 3) ∧ Below W.heap.size W w') := fun W ao cap h hv => by
    have := depth_of ao cap nQ W hv (by simp) sh_Q (hT.later h)
    rw [dep_Q] at this
    exact this
  have CQ : Hid (∀ W ao cap, Below w.heap.size w W → Nw W ao nQ → Calls Tryz.prog 11 #[.slice ao 5 cap] W fun e w' => (∃ a c, e = .returned (.slice a 2 c)) ∧ Below W.heap.size W w') := fun W ao cap h hv => by
    have := columns_any ao cap nQ W hv (by simp) sh_Q (hT.later h)
    rw [if_pos (by rw [dep_Q]; decide), col_Q] at this
    refine this.mono fun e w' ⟨⟨v, he, hn⟩, hb⟩ => ⟨?_, hb⟩
    obtain ⟨a, c, rfl, _⟩ := hn.lies
    exact ⟨a, c, he⟩
  have N6 := fun W => num6_any 0 W
  clear hT hP hS
  go_enter Tryz.func12, Tryz.ntmps12
  go_wp2_with (first
    | (go_at_call 38; refine PQ.mono ?_; rintro e w1 ⟨⟨v, rfl, ho⟩, b1⟩; obtain ⟨ao, cap, rfl, hnw⟩ := ho.lies; obtain ⟨b, off, rfl, hc⟩ := hnw (by simp); have c4 := (hc 4 (by simp)).1; have hg := (hc 4 (by simp)).lt; simp only [List.getElem_cons_succ, List.getElem_cons_zero] at c4 hg)
    | (go_at_call 39; refine (N6 _).mono ?_; rintro e w' ⟨rfl, rfl⟩))
  have RE := fun W => reserved_any ⟨#[97, 110, 100]⟩ W
  rw [show resL (ByteArray.mk #[97, 110, 100]).toList = true by rw [ByteArray.toList_eq]; decide +kernel] at RE
  have P1 := PR6.out w1 _ cap b1 hnw
  refine P1.mono ?_
  rintro e w2 ⟨rfl, b2⟩
  have B2 := below_trans b1 b2
  have D1 := DQ.out w2 _ cap B2 (hnw.later b2)
  have C1 : Hid (∀ W, Below w2.heap.size w2 W → _) := fun W h => CQ.out W (some ⟨b, off, none⟩) cap (below_trans B2 h) ((hnw.later b2).later h)
  clear hc ho hnw PQ P1
  go_wp2_with (first
    | (go_at_call 9; refine D1.mono ?_; rintro e w3 ⟨rfl, b3⟩; have C2 := C1.out _ b3)
    | (go_at_call 11; refine C2.mono ?_; rintro e w4 ⟨⟨ca, cc, rfl⟩, b4⟩)
    | (go_at_call 40; refine (RE _).mono ?_; rintro e w' ⟨rfl, rfl⟩))
  go_ret
  exact ⟨rfl, below_trans (below_trans B2 b3) b4⟩
end Go.Proofs.YtgapmofhnjfdiaaGreatDoor

namespace Go.Proofs.YtgapmofhnjfdiaaGreatDoor

abbrev ntN : Nd := ⟨4, [], [], vz0, 0⟩
theorem may_nt : mayN ntN = true := by decide +kernel
theorem runD_app (l : List Nd) (x : Nd) : ∀ st, runD mayN (l ++ [x]) st = match runD mayN l st with | none => none | some s => stepD mayN s x := by
  induction l with
  | nil =>
    intro st
    show (match stepD mayN st x with | none => none | some st' => some st') = stepD mayN st x
    cases stepD mayN st x <;> rfl
  | cons y l ih =>
    intro st
    show (match stepD mayN st y with | none => none | some st' => runD mayN (l ++ [x]) st') = match (match stepD mayN st y with | none => none | some st' => runD mayN l st') with | none => none | some s => stepD mayN s x
    cases stepD mayN st y with
    | none => rfl
    | some s => exact ih s
theorem depN_nt (l : List Nd) (h : 0 < depN mayN l) : depN mayN (l ++ [ntN]) = if depN mayN l = 16 ∨ l.length = 256 then 0 else depN mayN l + 1 := by
  obtain ⟨hl, d, hr⟩ := depN_some h
  have hd : depN mayN l = if d ≤ 16 then d else 0 := by unfold depN; rw [if_pos hl, hr]; rfl
  have hd16 : d ≤ 16 := by
    rw [hd] at h
    split at h
    · assumption
    · omega
  rw [if_pos hd16] at hd
  rw [hd]
  unfold depN
  rw [List.length_append]
  by_cases h256 : l.length = 256
  · rw [if_neg (by simp; omega), if_pos (Or.inr h256)]
  · rw [if_pos (by simp; omega), runD_app, hr]
    show depO (stepD mayN [d] ntN) = _
    have hs : stepD mayN [d] ntN = some [d + 1] := by
      unfold stepD
      rw [if_pos ⟨may_nt, (by decide : opsN ntN ≤ ((1 : Nat) : Int))⟩]
      show some [max 1 (d + 1)] = _
      rw [Nat.max_eq_right (by omega)]
    rw [hs]
    show (if d + 1 ≤ 16 then d + 1 else 0) = _
    by_cases h16 : d = 16
    · rw [if_neg (by omega), if_pos (Or.inl h16)]
    · rw [if_pos (by omega), if_neg (by omega)]
theorem colsL_nt (l : List Nd) : ∀ out, colsL (l ++ [ntN]) out = colsL l out := by
  induction l with
  | nil => intro out; rfl
  | cons x l ih => intro out; exact ih _
theorem runT_app (pv : Va → List UInt8) (l : List Nd) (x : Nd) : ∀ st, runT pv (l ++ [x]) st = stepT pv (runT pv l st) x := by
  induction l with
  | nil => intro st; rfl
  | cons y l ih => intro st; exact ih _
theorem runT_len (pv : Va → List UInt8) (l : List Nd) : ∀ (st : List (List UInt8)) (ds r : List Nat), ds.length = st.length → runD mayN l ds = some r → (runT pv l st).length = r.length := by
  induction l with
  | nil =>
    intro st ds r h hr
    cases hr
    exact h.symm
  | cons x l ih =>
    intro st ds r h hr
    obtain ⟨_, h2, ds', h3, h4⟩ := runD_some hr
    refine ih (stepT pv st x) ds' r ?_ h4
    unfold stepT
    rw [List.length_append, List.length_take, h3, h]
    simp
theorem prtN_nt (pv : Va → List UInt8) (l : List Nd) (h : 0 < depN mayN (l ++ [ntN])) (h0 : 0 < depN mayN l) : prtN pv (l ++ [ntN]) = parT [wNot, prtN pv l] := by
  obtain ⟨_, d, hr⟩ := depN_some h0
  unfold prtN
  rw [if_pos h, if_pos h0, runT_app]
  have hlen := runT_len pv l [] [] [d] rfl hr
  obtain ⟨t, ht⟩ := List.length_eq_one_iff.1 hlen
  rw [ht]
  rfl
end Go.Proofs.YtgapmofhnjfdiaaGreatDoor

namespace Go.Proofs.YtgapmofhnjfdiaaGreatDoor
open Go.RowKit Go.Shelf
attribute [local go_sem] cell?_more frozen?_more setCell_more more_lt more_more more_drew more_drewN setCell_drewN alloc_drewN

set_option maxHeartbeats 2000000 in
theorem boolText_any (n m : Int) (B : ByteArray) (w : World) : Calls Tryz.prog 163 #[va 4 n m B] w fun e w' => e = .returned (.string ⟨(if n = 1 then [116, 114, 117, 101] else [102, 97, 108, 115, 101] : List UInt8).toArray⟩) ∧ Grew w w' := by
  by_cases h : n = 1
  · subst h
    rw [if_pos rfl]
    go_enter Tryz.func163, Tryz.ntmps163
    go_wp2
    go_ret
    exact ⟨rfl, by repeat (first | assumption | exact Grew.refl _ | apply Grew.drew | apply Grew.drewN | apply Grew.alloc | apply Grew.more)⟩
  · rw [if_neg h]
    have h' : (n == 1) = false := by rw [beq_eq_false_iff_ne]; exact h
    go_enter Tryz.func163, Tryz.ntmps163
    go_wp2
    go_ret
    exact ⟨rfl, by repeat (first | assumption | exact Grew.refl _ | apply Grew.drew | apply Grew.drewN | apply Grew.alloc | apply Grew.more)⟩

/-- What Print answers of a value that a literal may have. -/
def pvl (v : Va) : List UInt8 := if v.k = 1 ∨ v.k = 2 ∨ v.k = 3 then pv v else if vr v then (if v.k = 4 then (if v.n = 1 then [116, 114, 117, 101] else [102, 97, 108, 115, 101]) else [110, 117, 108, 108]) else []

set_option maxHeartbeats 2000000 in
theorem vprint_lit (v : Va) (w : World) (hT : Tabs w) (hP : Ptab w) (hl : litV v = true) (hn : -9223372036854775808 ≤ v.n ∧ v.n ≤ 9223372036854775807) (hk : v.k = 0 ∨ v.k = 1 ∨ v.k = 2 ∨ v.k = 3 ∨ v.k = 4) :
    Calls Tryz.prog 97 #[vv v] w fun e w' => e = .returned (.string ⟨(pvl v).toArray⟩) ∧ Below w.heap.size w w' := by
  unfold pvl
  by_cases h123 : v.k = 1 ∨ v.k = 2 ∨ v.k = 3
  · rw [if_pos h123]
    exact vprint_any v w hT hP h123 hn
  rw [if_neg h123]
  obtain ⟨k, n, m, b⟩ := v
  simp only at hk h123 ⊢
  have hvr : vr ⟨k, n, m, b⟩ = true := by unfold litV at hl; rw [Bool.and_eq_true] at hl; exact hl.1
  have R : ∀ W, Below w.heap.size w W → Calls Tryz.prog 42 #[va k n m ⟨b.toArray⟩] W fun e w' => e = .returned (.bool true) ∧ Below W.heap.size W w' := fun W h => by
    have := vright_any k n m ⟨b.toArray⟩ W (hT.later h)
    have e : (vr ⟨k, n, m, b⟩) = true := hvr
    refine this.mono fun e' w' ⟨h1, h2⟩ => ⟨?_, h2⟩
    rw [h1]
    exact congrArg (fun z => Ending.returned (Value.bool z)) e
  rw [if_pos hvr]
  have B0 := Box.new w k n m b
  have A0 := (Below.refl w.heap.size w).alloc (Nat.le_refl _) (.cells #[.int .i64 k, .int .i64 n, .int .i64 m, .string ⟨b.toArray⟩] 30)
  clear hT hP hl hvr hn
  have hk2 : k = 0 ∨ k = 4 := by omega
  clear hk h123
  rcases hk2 with rfl | rfl
  · rw [if_neg (by decide)]
    go_enter Tryz.func97, Tryz.ntmps97
    go_wp2_with (go_at_call 42; refine (R _ A0).mono ?_; rintro e w1 ⟨rfl, b1⟩; have bx := B0.later b1; obtain ⟨c0, c1, c2, c3⟩ := bx.at4; have lt1 := bx.lt)
    go_ret
    exact ⟨rfl, A0.trans (b1.mono (by simp))⟩
  · rw [if_pos rfl]
    have BT := fun W => boolText_any n m ⟨b.toArray⟩ W
    generalize (if n = 1 then [116, 114, 117, 101] else [102, 97, 108, 115, 101] : List UInt8) = T at *
    go_enter Tryz.func97, Tryz.ntmps97
    go_wp2_with (first
      | (go_at_call 42; refine (R _ A0).mono ?_; rintro e w1 ⟨rfl, b1⟩; have bx := B0.later b1; obtain ⟨c0, c1, c2, c3⟩ := bx.at4; have lt1 := bx.lt)
      | (go_at_call 163; refine (BT _).mono ?_; rintro e w2 ⟨rfl, g2⟩))
    go_ret
    exact ⟨rfl, below_trans (A0.trans (b1.mono (by simp))) g2.below⟩
end Go.Proofs.YtgapmofhnjfdiaaGreatDoor

namespace Go.Proofs.YtgapmofhnjfdiaaGreatDoor

theorem may_all (l : List Nd) : ∀ st r, runD mayN l st = some r → ∀ x ∈ l, mayN x = true := by
  induction l with
  | nil => intro st r _ x hx; simp at hx
  | cons y l ih =>
    intro st r h x hx
    obtain ⟨h1, _, st', _, h2⟩ := runD_some h
    rcases List.mem_cons.1 hx with rfl | hx
    · exact h1
    · exact ih st' r h2 x hx
theorem dep_may {l : List Nd} (h : 0 < depN mayN l) : ∀ x ∈ l, mayN x = true := by
  obtain ⟨_, d, hr⟩ := depN_some h
  exact may_all l [] [d] hr
theorem name_len {l : List UInt8} (h : nameL l = true) : l.length ≤ 32 := by
  unfold nameL wordL at h
  simp only [Bool.and_eq_true, decide_eq_true_eq] at h
  exact h.1.2.2
theorem may_parts {x : Nd} (h : mayN x = true) : x.t.length ≤ 32 ∧ x.n.length ≤ 32 ∧ (x.o = 1 → litV x.v = true) ∧ (x.o ≠ 1 → x.v = vz0) := by
  unfold mayN at h
  rw [Bool.and_eq_true, sameN_eq] at h
  obtain ⟨h1, h2⟩ := h
  unfold fitN at h2
  unfold namedN at h1
  obtain ⟨xo, xt, xn, xv, xa⟩ := x
  simp only at h1 h2 ⊢
  by_cases c1 : xo = 1
  · rw [if_pos c1] at h1 h2
    simp only [Nd.mk.injEq] at h1
    obtain ⟨_, rfl, rfl, _, _⟩ := h1
    exact ⟨by simp, by simp, fun _ => h2, fun h => absurd c1 h⟩
  rw [if_neg c1] at h1 h2
  by_cases c2 : xo = 2
  · rw [if_pos c2] at h1 h2
    simp only [Nd.mk.injEq] at h1
    obtain ⟨_, _, _, rfl, _⟩ := h1
    rw [Bool.and_eq_true] at h2
    refine ⟨?_, name_len h2.1, fun h => absurd h c1, fun _ => rfl⟩
    rcases Bool.or_eq_true_iff.1 h2.2 with h | h
    · have : xt = [] := by simpa using h
      rw [this]; simp
    · exact name_len h
  rw [if_neg c2] at h1 h2
  by_cases c3 : xo = 19
  · rw [if_pos c3] at h1 h2
    simp only [Nd.mk.injEq] at h1
    obtain ⟨_, rfl, _, rfl, _⟩ := h1
    rw [Bool.and_eq_true] at h2
    exact ⟨by simp, name_len h2.1, fun h => absurd h c1, fun _ => rfl⟩
  rw [if_neg c3] at h1
  simp only [Nd.mk.injEq] at h1
  obtain ⟨_, rfl, rfl, rfl, _⟩ := h1
  exact ⟨by simp, by simp, fun h => absurd h c1, fun _ => rfl⟩
theorem dtext_len (n : Int) (s : Nat) (hs : s ≤ 6) (h0 : -9223372036854775808 ≤ n) (h1 : n ≤ 9223372036854775807) : (dtext n s).length ≤ 100 := by
  have := digs_len 19 n.natAbs (by have : (10 : Nat) ^ (19 + 1) = 100000000000000000000 := by decide
                                   omega)
  have h1 := pad_len s (digs n.natAbs)
  have h0 := pad_len 0 (digs n.natAbs)
  unfold dtext
  split <;> split <;> simp [List.length_take] <;> omega
theorem pvl_len (v : Va) (hr : litV v = true) (h0 : -9223372036854775808 ≤ v.n) (h1 : v.n ≤ 9223372036854775807) : (pvl v).length ≤ 1000 := by
  have hvr : vr v = true := by unfold litV at hr; rw [Bool.and_eq_true] at hr; exact hr.1
  have hok := (vr_iff v).1 hvr
  obtain ⟨k, n, m, b⟩ := v
  unfold pvl pv ptext dpt
  simp only [hvr, if_true] at hok ⊢
  have a1 := dtext_len n 0 (by omega) h0 h1
  have ab := dbl_len b
  unfold vok at hok
  simp only at hok h0 h1
  split
  · rename_i hk
    split
    · omega
    split
    · rename_i h2
      have a2 := dtext_len n m.toNat (by omega) h0 h1
      rw [List.length_append]
      split <;> simp <;> omega
    · unfold quoL
      simp only [List.length_cons, List.length_append, List.length_nil]
      omega
  · split
    · split <;> simp
    · simp
theorem pvl_z : (pvl vz0).length ≤ 1000 := by decide +kernel
theorem runT_sum (pv : Va → List UInt8) (B : Nat) (l : List Nd) : ∀ (st : List (List UInt8)) (ds r : List Nat), ds.length = st.length → runD mayN l ds = some r → (∀ x ∈ l, x.t.length ≤ B ∧ x.n.length ≤ B ∧ (pv x.v).length ≤ B) → sumT (runT pv l st) ≤ sumT st + l.length * (2 * B + 20) := by
  induction l with
  | nil => intro st ds r _ _ _; show sumT st ≤ _; omega
  | cons x l ih =>
    intro st ds r h hr hb
    obtain ⟨hm, h2, ds', h3, h4⟩ := runD_some hr
    obtain ⟨b1, b2, b3⟩ := hb x (by simp)
    have ho := mayN_ops x hm
    have hd : ((st.drop (st.length - (opsN x).toNat)).length : Int) = opsN x := by
      rw [List.length_drop]; omega
    have ht := txtN_len pv x (st.drop (st.length - (opsN x).toNat)) B hm hd b1 b2 b3
    have hs : sumT (stepT pv st x) ≤ sumT st + (2 * B + 20) := by
      unfold stepT
      rw [sumT_app]
      have e : sumT st = sumT (st.take (st.length - (opsN x).toNat)) + sumT (st.drop (st.length - (opsN x).toNat)) := by rw [← sumT_app, List.take_append_drop]
      have e1 : ∀ t : List UInt8, sumT [t] = t.length := fun t => by simp [sumT]
      rw [e1]
      omega
    have hl : (stepT pv st x).length = ds'.length := by
      unfold stepT
      rw [List.length_append, List.length_take, h3, h]
      simp
    have := ih (stepT pv st x) ds' r hl.symm h4 (fun y hy => hb y (by simp [hy]))
    show sumT (runT pv l (stepT pv st x)) ≤ _
    rw [List.length_cons, Nat.succ_mul]
    omega
theorem prtN_len (pv : Va → List UInt8) (B : Nat) (l : List Nd) (h : 0 < depN mayN l) (hb : ∀ x ∈ l, x.t.length ≤ B ∧ x.n.length ≤ B ∧ (pv x.v).length ≤ B) : (prtN pv l).length ≤ 256 * (2 * B + 20) := by
  obtain ⟨hl, d, hr⟩ := depN_some h
  have hs := runT_sum pv B l [] [] [d] rfl hr hb
  have hlen := runT_len pv l [] [] [d] rfl hr
  obtain ⟨t, ht⟩ := List.length_eq_one_iff.1 hlen
  unfold prtN
  rw [if_pos h, ht]
  rw [ht] at hs
  show t.length ≤ _
  have e : sumT [t] = t.length := by simp [sumT]
  have e0 : sumT [] = 0 := rfl
  rw [e, e0] at hs
  have := Nat.mul_le_mul_right (2 * B + 20) hl
  omega
/-- The text of an expression with a not around it. -/
theorem par_not (t : List UInt8) : parT [wNot, t] = [40, 110, 111, 116, 32] ++ t ++ [41] := by
  unfold parT Lib.join
  simp [List.intercalate, List.intersperse, wNot]
theorem pv_bounds {l : List Nd} (h : 0 < depN mayN l) (hi : ∀ x ∈ l, -9223372036854775808 ≤ x.v.n ∧ x.v.n ≤ 9223372036854775807) : ∀ x ∈ l, x.t.length ≤ 1000 ∧ x.n.length ≤ 1000 ∧ (pvl x.v).length ≤ 1000 := by
  intro x hx
  obtain ⟨h1, h2, h3, h4⟩ := may_parts (dep_may h x hx)
  refine ⟨by omega, by omega, ?_⟩
  by_cases ho : x.o = 1
  · exact pvl_len x.v (h3 ho) (hi x hx).1 (hi x hx).2
  · rw [h4 ho]; exact pvl_z
theorem colsL_len (l : List Nd) : ∀ out, (colsL l out).length ≤ out.length + l.length := by
  induction l with
  | nil => intro out; show out.length ≤ _; omega
  | cons x l ih =>
    intro out
    have := ih (if x.o = 2 ∧ memN out x = false then out ++ [⟨2, x.t, x.n, vz0, 0⟩] else out)
    show (colsL l (if x.o = 2 ∧ memN out x = false then out ++ [⟨2, x.t, x.n, vz0, 0⟩] else out)).length ≤ _
    have h2 : (if x.o = 2 ∧ memN out x = false then out ++ [⟨2, x.t, x.n, vz0, 0⟩] else out).length ≤ out.length + 1 := by
      split <;> simp
    rw [List.length_cons]
    omega
end Go.Proofs.YtgapmofhnjfdiaaGreatDoor
