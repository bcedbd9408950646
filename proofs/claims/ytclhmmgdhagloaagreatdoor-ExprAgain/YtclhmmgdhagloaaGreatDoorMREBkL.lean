/-
  Of nodes that are an expression names and texts are short.
  The walk of longstoplaw06.ExprDeeper.
  The tables that lie: strconv's powers, the signs of expr; names that came in are not too long.
  The contract of lexer.Join.
  Tokens of joined tokens, with no program in it: each right token's text is lexed to itself, and so is the joined text of right tokens.
  What is printed is read back: texts and their tokens, with no program in it.
-/
import Derived.Test.YtclhmmgdhagloaaGreatDoorMQEPrtV
import Derived.Test.YtclhmmgdhagloaaGreatDoorMLEOwn
import Derived.Test.YtclhmmgdhagloaaGreatDoorMALRight
import Derived.Test.YtclhmmgdhagloaaGreatDoorESpec
namespace Go.Proofs.YtclhmmgdhagloaaGreatDoor

theorem may_all (l : List Nd) : ∀ st r, runD mayN l st = some r → ∀ x ∈ l, mayN x = true := by
  induction l with
  | nil => intro st r _ x hx; simp at hx
  | cons y l ih =>
    intro st r h x hx
    obtain ⟨h1, _, st', _, h2⟩ := runD_some h
    rcases List.mem_cons.1 hx with rfl | hx
    · exact h1
    · exact ih st' r h2 x hx
theorem dep_may {l : List Nd} (h : 0 < depN mayN l) : ∀ x ∈ l, mayN x = true := by
  obtain ⟨_, d, hr⟩ := depN_some h
  exact may_all l [] [d] hr
theorem name_len {l : List UInt8} (h : nameL l = true) : l.length ≤ 32 := by
  unfold nameL wordL at h
  simp only [Bool.and_eq_true, decide_eq_true_eq] at h
  exact h.1.2.2
theorem may_parts {x : Nd} (h : mayN x = true) : x.t.length ≤ 32 ∧ x.n.length ≤ 32 ∧ (x.o = 1 → litV x.v = true) ∧ (x.o ≠ 1 → x.v = vz0) := by
  unfold mayN at h
  rw [Bool.and_eq_true, sameN_eq] at h
  obtain ⟨h1, h2⟩ := h
  unfold fitN at h2
  unfold namedN at h1
  obtain ⟨xo, xt, xn, xv, xa⟩ := x
  simp only at h1 h2 ⊢
  by_cases c1 : xo = 1
  · rw [if_pos c1] at h1 h2
    simp only [Nd.mk.injEq] at h1
    obtain ⟨_, rfl, rfl, _, _⟩ := h1
    exact ⟨by simp, by simp, fun _ => h2, fun h => absurd c1 h⟩
  rw [if_neg c1] at h1 h2
  by_cases c2 : xo = 2
  · rw [if_pos c2] at h1 h2
    simp only [Nd.mk.injEq] at h1
    obtain ⟨_, _, _, rfl, _⟩ := h1
    rw [Bool.and_eq_true] at h2
    refine ⟨?_, name_len h2.1, fun h => absurd h c1, fun _ => rfl⟩
    rcases Bool.or_eq_true_iff.1 h2.2 with h | h
    · have : xt = [] := by simpa using h
      rw [this]; simp
    · exact name_len h
  rw [if_neg c2] at h1 h2
  by_cases c3 : xo = 19
  · rw [if_pos c3] at h1 h2
    simp only [Nd.mk.injEq] at h1
    obtain ⟨_, rfl, _, rfl, _⟩ := h1
    rw [Bool.and_eq_true] at h2
    exact ⟨by simp, name_len h2.1, fun h => absurd h c1, fun _ => rfl⟩
  rw [if_neg c3] at h1
  simp only [Nd.mk.injEq] at h1
  obtain ⟨_, rfl, rfl, rfl, _⟩ := h1
  exact ⟨by simp, by simp, fun h => absurd h c1, fun _ => rfl⟩
theorem dtext_len (n : Int) (s : Nat) (hs : s ≤ 6) (h0 : -9223372036854775808 ≤ n) (h1 : n ≤ 9223372036854775807) : (dtext n s).length ≤ 100 := by
  have := digs_len 19 n.natAbs (by have : (10 : Nat) ^ (19 + 1) = 100000000000000000000 := by decide
                                   omega)
  have h1 := pad_len s (digs n.natAbs)
  have h0 := pad_len 0 (digs n.natAbs)
  unfold dtext
  split <;> split <;> simp [List.length_take] <;> omega
theorem pvl_len (v : Va) (hr : litV v = true) (h0 : -9223372036854775808 ≤ v.n) (h1 : v.n ≤ 9223372036854775807) : (pvl v).length ≤ 1000 := by
  have hvr : vr v = true := by unfold litV at hr; rw [Bool.and_eq_true] at hr; exact hr.1
  have hok := (vr_iff v).1 hvr
  obtain ⟨k, n, m, b⟩ := v
  unfold pvl pv ptext dpt
  simp only [hvr, if_true] at hok ⊢
  have a1 := dtext_len n 0 (by omega) h0 h1
  have ab := dbl_len b
  unfold vok at hok
  simp only at hok h0 h1
  split
  · rename_i hk
    split
    · omega
    split
    · rename_i h2
      have a2 := dtext_len n m.toNat (by omega) h0 h1
      rw [List.length_append]
      split <;> simp <;> omega
    · unfold quoL
      simp only [List.length_cons, List.length_append, List.length_nil]
      omega
  · split
    · split <;> simp
    · simp
theorem pvl_z : (pvl vz0).length ≤ 1000 := by decide +kernel
theorem pv_bounds {l : List Nd} (h : 0 < depN mayN l) (hi : ∀ x ∈ l, -9223372036854775808 ≤ x.v.n ∧ x.v.n ≤ 9223372036854775807) : ∀ x ∈ l, x.t.length ≤ 1000 ∧ x.n.length ≤ 1000 ∧ (pvl x.v).length ≤ 1000 := by
  intro x hx
  obtain ⟨h1, h2, h3, h4⟩ := may_parts (dep_may h x hx)
  refine ⟨by omega, by omega, ?_⟩
  by_cases ho : x.o = 1
  · exact pvl_len x.v (h3 ho) (hi x hx).1 (hi x hx).2
  · rw [h4 ho]; exact pvl_z
end Go.Proofs.YtclhmmgdhagloaaGreatDoor

namespace Go.Proofs.YtclhmmgdhagloaaGreatDoor
open Go.RowKit Go.Shelf
attribute [local go_sem] cell?_more frozen?_more setCell_more more_lt more_more more_drew more_drewN setCell_drewN alloc_drewN

theorem lit_kind {v : Va} (h : litV v = true) : v.k = 0 ∨ v.k = 1 ∨ v.k = 2 ∨ v.k = 3 ∨ v.k = 4 := by
  unfold litV at h
  simp only [Bool.and_eq_true, Bool.not_eq_true', beq_eq_false_iff_ne] at h
  have hok := (vr_iff v).1 h.1
  have h5 := h.2.1
  unfold vok at hok
  omega

end Go.Proofs.YtclhmmgdhagloaaGreatDoor

namespace Go.Proofs.YtclhmmgdhagloaaGreatDoor
open Go.ChangeShapes Go.WideShapes Go.ChangeAt Go.WideMaps Go.WideElems Go.RowKit Go.Shelf Go.Lib

theorem ptab6_of {W : World} (h : VarReads Tryz.prog W "internal/strconv.uint64pow10" Rows.laid_internal_strconv_uint64pow10) : Ptab W := by
  obtain ⟨g', t', cs, fuel, p, hg', ht', hvar, hd⟩ := h
  have hg : Tryz.prog.globalNamed "internal/strconv.uint64pow10" = some 7 := by kernel_rfl
  have hty : (Tryz.prog.globals[7]?).map (·.type) = some 279 := by kernel_rfl
  obtain rfl := Option.some.inj (hg.symm.trans hg')
  obtain rfl := Option.some.inj (hty.symm.trans ht')
  have hd' : DataW.trod (fun _ => ()) Tryz.prog W 0 (fun _ => true) false fuel 279 cs.toList = some (Lib.tabData .u64 Lib.pow10Tab, p) := by
    rw [hd, show Rows.laid_internal_strconv_uint64pow10 = Lib.tabData (H := Unit) .u64 Lib.pow10Tab by kernel_rfl]
  unfold Ptab Lib.TabIs
  rw [hvar, ← cells_of_tab Tryz.underlying279 Tryz.underlying161 (by kernel_rfl) (by kernel_rfl) hd']

/-- An array of texts that reads as these holds them, cell for cell. -/
theorem cells_of_texts {H : Type} {enc : TypeId × Value → H} {P : Program} {w : World} {base : Nat} {sp : Nat → Bool} {held : Bool} {fuel : Nat} {t e : TypeId} {n : Nat} {cs : List Value} {ss : List (List UInt8)} {p : List MemPlace}
    (ht : P.underlying t = some (.array n e)) (he : P.underlying e = some .string) (hce : P.cellsOf e = 1) (hct : P.cellsOf t = n)
    (h : DataW.trod enc P w base sp held fuel t cs = some (.agg (ss.map fun s => .lit (.string s)), p)) : cs = ss.map fun s => Value.string ⟨s.toArray⟩ := by
  cases fuel with
  | zero => simp [DataW.trod] at h
  | succ fuel =>
    simp only [DataW.trod, ht, hce, hct, Nat.mul_one] at h
    split at h
    · rename_i hl
      obtain ⟨xs, hm, hx⟩ := Option.map_eq_some_iff.1 h
      have hxs : xs.map (·.1) = ss.map fun s => (DataW.lit (.string s) : DataW H) := by
        have := congrArg Prod.fst hx
        simpa using this
      have hxl : xs.length = n := by simpa using Lib.mapM_length hm
      have hzl : ss.length = n := by
        have := congrArg List.length hxs
        simp at this
        omega
      apply List.ext_getElem?
      intro i
      by_cases hi : i < n
      · obtain ⟨b, hb, hf⟩ := mapM_at hm i i (by simp [hi])
        obtain ⟨z, hc, rfl, _⟩ := DataW.trod_string he hf
        have h1 : cs[i]? = some (.string z) := by
          have := congrArg (·[0]?) hc
          simpa [List.getElem?_take, List.getElem?_drop] using this
        have h2 : (xs.map (·.1))[i]? = some (DataW.lit (.string z.data.toList) : DataW H) := by simp [hb]
        rw [hxs] at h2
        simp only [List.getElem?_map, Option.map_eq_some_iff, DataW.lit.injEq, Lit.string.injEq] at h2
        obtain ⟨z', hz', rfl⟩ := h2
        simp [h1, hz']
      · rw [List.getElem?_eq_none (by omega), List.getElem?_eq_none (by simp; omega)]
    · cases h

theorem sg_of {W : World} (h : VarReads Tryz.prog W "longstop/expr.signs" Rows.laid_longstop_expr_signs) : Sg W := by
  obtain ⟨g', t', cs, fuel, p, hg', ht', hvar, hd⟩ := h
  have hg : Tryz.prog.globalNamed "longstop/expr.signs" = some 0 := by kernel_rfl
  have hty : (Tryz.prog.globals[0]?).map (·.type) = some 98 := by kernel_rfl
  obtain rfl := Option.some.inj (hg.symm.trans hg')
  obtain rfl := Option.some.inj (hty.symm.trans ht')
  have hd' : DataW.trod (fun _ => ()) Tryz.prog W 0 (fun _ => true) false fuel 98 cs.toList = some (.agg (((List.range 19).map sgn).map fun s => .lit (.string s)), p) := by
    rw [hd, show (Rows.laid_longstop_expr_signs : DataW Unit) = .agg (((List.range 19).map sgn).map fun s => .lit (.string s)) by kernel_rfl]
  have hcs := cells_of_texts Tryz.underlying98 Tryz.underlying9 (by kernel_rfl) (by kernel_rfl) hd'
  intro i hi
  have hc := World.var?_cell hg hvar i
  rw [hc]
  have e : cs = (((List.range 19).map sgn).map fun s => Value.string ⟨s.toArray⟩).toArray := by
    rw [← Array.toArray_toList (xs := cs), hcs]
  rw [e]
  simp [hi]

end Go.Proofs.YtclhmmgdhagloaaGreatDoor

namespace Go.Proofs.YtclhmmgdhagloaaGreatDoor
open Go.RowKit Go.Shelf
attribute [local go_sem] cell?_more frozen?_more setCell_more more_lt more_more more_drew more_drewN setCell_drewN alloc_drewN

end Go.Proofs.YtclhmmgdhagloaaGreatDoor

namespace Go.Proofs.YtclhmmgdhagloaaGreatDoor

theorem sameV_eq {a b : Va} (h : sameW a b = true) : a = b := by
  obtain ⟨ak, an, am, ab⟩ := a
  obtain ⟨bk, bn, bm, bb⟩ := b
  simp [sameW] at h
  obtain ⟨h1, h2, h3, h4⟩ := h
  subst h1; subst h2; subst h3; subst h4
  rfl
theorem rtok_one {x : Ti} (h : rtok x = true) : ∃ y : Tok, lexL vz dpv x.t 0 = some [y] ∧ (y.k : Int) = x.k ∧ y.t = x.t ∧ y.v = x.v := by
  unfold rtok at h
  split at h
  · unfold rt1 at h
    split at h
    · rename_i y hy
      simp [sameT] at h
      exact ⟨y, hy, h.1, h.2.1, sameV_eq h.2.2.1⟩
    · cases h
  · cases h
theorem rtok_len {x : Ti} (h : rtok x = true) : 1 ≤ x.t.length ∧ x.t.length ≤ 4096 := by
  obtain ⟨y, hy, _, ht, _⟩ := rtok_one h
  obtain ⟨_, _, h3, _⟩ := lex_first hy
  refine ⟨by rw [← ht]; exact h3, ?_⟩
  unfold rtok at h
  split at h
  · assumption
  · cases h

/-- What the document's Right asks of a token is what the program's asks. -/
theorem rt_same (x : Ti) (h : x.t.length ≤ 4096) : (match lexL vz dpv x.t 0 with | some [y] => ((y.k : Int) == x.k && (y.t == x.t && sameW y.v x.v)) | _ => false) = rtok x := by
  unfold rtok rt1
  rw [if_pos h]
  match hl : lexL vz dpv x.t 0 with
  | none => rfl
  | some [] => rfl
  | some (y1 :: y2 :: ys) => rfl
  | some [y] =>
    obtain ⟨_, h2, h3, h4, _⟩ := lex_first hl
    show _ = sameT (tin y) ⟨x.k, x.t, x.v, 0⟩
    unfold sameT
    simp only
    by_cases ht : y.t = x.t
    · have ha : y.a = 0 := by
        have := congrArg List.length ht
        omega
      rw [ha]
      simp
    · have : (y.t == x.t) = false := by rw [beq_eq_false_iff_ne]; exact ht
      rw [this]
      simp
end Go.Proofs.YtclhmmgdhagloaaGreatDoor

namespace Go.Proofs.YtclhmmgdhagloaaGreatDoor

/-- Tokens by their kinds and texts. -/
abbrev Kt := Int × List UInt8
abbrev kyT (y : Tok) : Kt := ((y.k : Int), y.t)
/-- What ends a token: nothing, a blank, a parenthesis that closes, a comma. -/
def Brk (r : List UInt8) : Prop := r = [] ∨ ∃ c r', r = c :: r' ∧ (c = 32 ∨ c = 41 ∨ c = 44)
/-- What ends a word. -/
def WEnd (r : List UInt8) : Prop := r = [] ∨ ∃ c r', r = c :: r' ∧ isW c = false
theorem Brk.word {r : List UInt8} (h : Brk r) : WEnd r := by
  rcases h with h | ⟨c, r', h, hc⟩
  · exact .inl h
  · exact .inr ⟨c, r', h, by rcases hc with rfl | rfl | rfl <;> decide⟩
/-- A text, whatever of a kind stands behind it, begins with these tokens. -/
def Lx (P : List UInt8 → Prop) (t : List UInt8) (s : List Kt) : Prop := ∀ r i, P r → ∃ xs : List Tok, xs.map kyT = s ∧ (∀ y ∈ xs, rtok (tin y) = true) ∧ lexL vz dpv (t ++ r) i = (lexL vz dpv r (i + t.length)).map (xs ++ ·)
theorem Lx.mono {P Q : List UInt8 → Prop} {t : List UInt8} {s : List Kt} (h : Lx P t s) (hq : ∀ r, Q r → P r) : Lx Q t s := fun r i hr => h r i (hq r hr)
theorem Lx.app {P Q : List UInt8 → Prop} {t1 t2 : List UInt8} {s1 s2 : List Kt} (h1 : Lx P t1 s1) (h2 : Lx Q t2 s2) (hq : ∀ r, Q r → P (t2 ++ r)) : Lx Q (t1 ++ t2) (s1 ++ s2) := fun r i hr => by
  obtain ⟨x1, m1, k1, e1⟩ := h1 (t2 ++ r) i (hq r hr)
  obtain ⟨x2, m2, k2, e2⟩ := h2 r (i + t1.length) hr
  refine ⟨x1 ++ x2, by rw [List.map_append, m1, m2], fun y hy => ?_, ?_⟩
  · rcases List.mem_append.1 hy with h | h
    · exact k1 y h
    · exact k2 y h
  · rw [List.append_assoc, e1, e2, List.length_append, Nat.add_assoc]
    cases lexL vz dpv r (i + (t1.length + t2.length)) <;> simp
theorem Lx.nil : Lx (fun _ => True) [] [] := fun r i _ => ⟨[], rfl, (fun y hy => by cases hy), by
  simp only [List.nil_append, List.length_nil, Nat.add_zero]
  cases lexL vz dpv r i <;> simp⟩
theorem Lx.blank : Lx (fun _ => True) [32] [] := fun r i _ => ⟨[], rfl, (fun y hy => by cases hy), by
  show lexL vz dpv (32 :: r) i = _
  rw [lex_blank _ _ _ (by decide)]
  show _ = (lexL vz dpv r (i + 1)).map ([] ++ ·)
  cases lexL vz dpv r (i + 1) <;> simp⟩
theorem sameW_refl (v : Va) : sameW v v = true := by simp [sameW]
/-- One token. -/
theorem Lx.one {P : List UInt8 → Prop} {k : Nat} {t : List UInt8} {v : Va} (hP : P []) (hl : t.length ≤ 4096) (hb : ∀ c l, t = c :: l → isB c = false) (hne : t ≠ []) (h : ∀ r i, P r → tok vz dpv (t ++ r) i = some ⟨k, t, v, i⟩) : Lx P t [((k : Int), t)] := by
  have key : ∀ r i, P r → lexL vz dpv (t ++ r) i = (lexL vz dpv r (i + t.length)).map ((⟨k, t, v, i⟩ : Tok) :: ·) := by
    intro r i hr
    have ht := h r i hr
    cases t with
    | nil => exact absurd rfl hne
    | cons c l =>
      rw [List.cons_append] at ht ⊢
      rw [lex_tok _ _ _ (hb c l rfl), ht]
      simp only
      rw [← List.cons_append, List.drop_left]
  intro r i hr
  refine ⟨[⟨k, t, v, i⟩], rfl, fun y hy => ?_, ?_⟩
  · obtain rfl : y = ⟨k, t, v, i⟩ := by simpa using hy
    have h0 := key [] 0 hP
    rw [List.append_nil, Nat.zero_add, lex_nil] at h0
    rw [← rt_same (tin ⟨k, t, v, i⟩) hl]
    show (match lexL vz dpv t 0 with | some [y] => _ | _ => false) = true
    rw [h0]
    simp [sameW_refl]
  · rw [key r i hr]
    cases lexL vz dpv r (i + t.length) <;> simp
/-- A sign that is none of those that may be the beginning of another one. -/
theorem Lx.sign (c : UInt8) (hs : isS c = true) (hL : isL c = false) (hD : isD c = false) (h39 : c ≠ 39) (h60 : c ≠ 60) (h62 : c ≠ 62) (hb : isB c = false) : Lx (fun _ => True) [c] [(2, [c])] := by
  refine Lx.one (k := 2) (v := vz) trivial (by simp) (fun d l h => by cases h; exact hb) (by simp) (fun r i _ => ?_)
  have e : lxt ([c] ++ r) = (2, 1) := by
    show lxt (c :: r) = _
    rw [lxt_cons, if_neg (by simp [hL]), if_neg (by simp [hD]), if_neg h39, if_neg h60, if_neg h62, if_pos hs]
  unfold tok
  rw [e]
  simp
theorem wordN_all (l r : List UInt8) (h : wordN l = l.length) (hr : WEnd r) : wordN (l ++ r) = l.length := by
  induction l with
  | nil =>
    rcases hr with rfl | ⟨c, r', rfl, hc⟩
    · rfl
    · simp [wordN, hc]
  | cons c l ih =>
    unfold wordN at h
    split at h
    · rename_i hc
      rw [List.cons_append]
      unfold wordN
      rw [if_pos hc, ih (by simpa using h)]
      rfl
    · simp at h
/-- A word. -/
theorem Lx.word (w : List UInt8) (hw : wordL w = true) : Lx WEnd w [(1, w)] := by
  unfold wordL at hw
  simp only [Bool.and_eq_true, decide_eq_true_eq] at hw
  obtain ⟨h1, h2, h3⟩ := hw
  cases w with
  | nil => simp [lxt] at h1
  | cons c l =>
    have hL : isL c = true := by
      cases hc : isL c with
      | true => rfl
      | false =>
        rw [lxt_cons, if_neg (by simp [hc])] at h1
        exfalso
        revert h1
        repeat' split
        all_goals simp
    rw [lxt_cons, if_pos hL] at h2
    have hwl : wordN l = l.length := by simpa using h2
    refine Lx.one (k := 1) (v := vz) (.inl rfl) (by simp at h3 ⊢; omega) (fun d l' h => by cases h; cases hb : isB c with | false => rfl | true => rw [(isB_L hb).1] at hL; cases hL) (by simp) (fun r i hr => ?_)
    have e : lxt (c :: l ++ r) = (1, l.length + 1) := by
      rw [List.cons_append, lxt_cons, if_pos hL, wordN_all l r hwl hr]
    unfold tok
    rw [e]
    simp only
    rw [if_neg (by decide), if_pos trivial, if_pos (by simpa using h3)]
    simp
/-- The signs of ops. -/
theorem Lx.op (op : Nat) (h0 : 6 ≤ op) (h1 : op ≤ 18) : Lx Brk (sgn op) [(if op = 17 ∨ op = 18 then 1 else 2, sgn op)] := by
  have cmp : ∀ (c : UInt8) (l : List UInt8), c = 60 ∨ c = 62 → (l = [] ∨ l = [61] ∨ (c = 60 ∧ l = [62])) → Lx Brk (c :: l) [(2, c :: l)] := by
    intro c l hc hl
    refine Lx.one (k := 2) (v := vz) (.inl rfl) (by rcases hl with rfl | rfl | ⟨_, rfl⟩ <;> simp) (fun d l' h => by cases h; rcases hc with rfl | rfl <;> decide) (by simp) (fun r i hr => ?_)
    have hh : ∀ k : UInt8, k = 61 ∨ k = 62 → (r.head? = some k) = False := by
      intro k hk
      rcases hr with rfl | ⟨d, r', rfl, hd⟩
      · simp
      · simp
        rintro rfl
        rcases hk with rfl | rfl <;> rcases hd with h | h | h <;> exact absurd h (by decide)
    have e : lxt (c :: l ++ r) = (2, l.length + 1) := by
      rw [List.cons_append, lxt_cons]
      rcases hc with rfl | rfl
      · rw [if_neg (by decide), if_neg (by decide), if_neg (by decide), if_pos rfl]
        rcases hl with rfl | rfl | ⟨_, rfl⟩
        · simp [hh]
        · simp
        · simp
      · rw [if_neg (by decide), if_neg (by decide), if_neg (by decide), if_neg (by decide), if_pos rfl]
        rcases hl with rfl | rfl | ⟨h, _⟩
        · simp [hh]
        · simp
        · exact absurd h (by decide)
    unfold tok
    rw [e]
    simp
  have sg1 : ∀ c : UInt8, isS c = true → isL c = false → isD c = false → c ≠ 39 → c ≠ 60 → c ≠ 62 → isB c = false → Lx Brk [c] [(2, [c])] := fun c a1 a2 a3 a4 a5 a6 a7 => (Lx.sign c a1 a2 a3 a4 a5 a6 a7).mono (fun _ _ => trivial)
  match op, h0, h1 with
  | 6, _, _ => exact sg1 42 (by decide) (by decide) (by decide) (by decide) (by decide) (by decide) (by decide)
  | 7, _, _ => exact sg1 47 (by decide) (by decide) (by decide) (by decide) (by decide) (by decide) (by decide)
  | 8, _, _ => exact sg1 37 (by decide) (by decide) (by decide) (by decide) (by decide) (by decide) (by decide)
  | 9, _, _ => exact sg1 43 (by decide) (by decide) (by decide) (by decide) (by decide) (by decide) (by decide)
  | 10, _, _ => exact sg1 45 (by decide) (by decide) (by decide) (by decide) (by decide) (by decide) (by decide)
  | 11, _, _ => exact sg1 61 (by decide) (by decide) (by decide) (by decide) (by decide) (by decide) (by decide)
  | 12, _, _ => exact cmp 60 [62] (.inl rfl) (.inr (.inr ⟨rfl, rfl⟩))
  | 13, _, _ => exact cmp 60 [] (.inl rfl) (.inl rfl)
  | 14, _, _ => exact cmp 60 [61] (.inl rfl) (.inr (.inl rfl))
  | 15, _, _ => exact cmp 62 [] (.inr rfl) (.inl rfl)
  | 16, _, _ => exact cmp 62 [61] (.inr rfl) (.inr (.inl rfl))
  | 17, _, _ => exact (Lx.word (sgn 17) (by decide)).mono (fun _ h => h.word)
  | 18, _, _ => exact (Lx.word (sgn 18) (by decide)).mono (fun _ h => h.word)
  | op + 19, _, h => omega
end Go.Proofs.YtclhmmgdhagloaaGreatDoor
