/-
  Of nodes that are an expression names and texts are short.
  The walk of longstoplaw06.ExprDeeper.
  The tables that lie: strconv's powers, the signs of expr; names that came in are not too long.
  The document's Reserved, Free and literal.
  The document's literal and operands of a node.
-/
import Derived.Test.YtclhmmgdhagloaaGreatDoorMREPrtV
import Derived.Test.YtclhmmgdhagloaaGreatDoorMMEOwn
import Derived.Test.YtclhmmgdhagloaaGreatDoorEFit
import Derived.Test.YtclhmmgdhagloaaGreatDoorMtVFrm3
namespace Go.Proofs.YtclhmmgdhagloaaGreatDoor

theorem may_all (l : List Nd) : ∀ st r, runD mayN l st = some r → ∀ x ∈ l, mayN x = true := by
  induction l with
  | nil => intro st r _ x hx; simp at hx
  | cons y l ih =>
    intro st r h x hx
    obtain ⟨h1, _, st', _, h2⟩ := runD_some h
    rcases List.mem_cons.1 hx with rfl | hx
    · exact h1
    · exact ih st' r h2 x hx
theorem dep_may {l : List Nd} (h : 0 < depN mayN l) : ∀ x ∈ l, mayN x = true := by
  obtain ⟨_, d, hr⟩ := depN_some h
  exact may_all l [] [d] hr
theorem name_len {l : List UInt8} (h : nameL l = true) : l.length ≤ 32 := by
  unfold nameL wordL at h
  simp only [Bool.and_eq_true, decide_eq_true_eq] at h
  exact h.1.2.2
theorem may_parts {x : Nd} (h : mayN x = true) : x.t.length ≤ 32 ∧ x.n.length ≤ 32 ∧ (x.o = 1 → litV x.v = true) ∧ (x.o ≠ 1 → x.v = vz0) := by
  unfold mayN at h
  rw [Bool.and_eq_true, sameN_eq] at h
  obtain ⟨h1, h2⟩ := h
  unfold fitN at h2
  unfold namedN at h1
  obtain ⟨xo, xt, xn, xv, xa⟩ := x
  simp only at h1 h2 ⊢
  by_cases c1 : xo = 1
  · rw [if_pos c1] at h1 h2
    simp only [Nd.mk.injEq] at h1
    obtain ⟨_, rfl, rfl, _, _⟩ := h1
    exact ⟨by simp, by simp, fun _ => h2, fun h => absurd c1 h⟩
  rw [if_neg c1] at h1 h2
  by_cases c2 : xo = 2
  · rw [if_pos c2] at h1 h2
    simp only [Nd.mk.injEq] at h1
    obtain ⟨_, _, _, rfl, _⟩ := h1
    rw [Bool.and_eq_true] at h2
    refine ⟨?_, name_len h2.1, fun h => absurd h c1, fun _ => rfl⟩
    rcases Bool.or_eq_true_iff.1 h2.2 with h | h
    · have : xt = [] := by simpa using h
      rw [this]; simp
    · exact name_len h
  rw [if_neg c2] at h1 h2
  by_cases c3 : xo = 19
  · rw [if_pos c3] at h1 h2
    simp only [Nd.mk.injEq] at h1
    obtain ⟨_, rfl, _, rfl, _⟩ := h1
    rw [Bool.and_eq_true] at h2
    exact ⟨by simp, name_len h2.1, fun h => absurd h c1, fun _ => rfl⟩
  rw [if_neg c3] at h1
  simp only [Nd.mk.injEq] at h1
  obtain ⟨_, rfl, rfl, rfl, _⟩ := h1
  exact ⟨by simp, by simp, fun h => absurd h c1, fun _ => rfl⟩
theorem dtext_len (n : Int) (s : Nat) (hs : s ≤ 6) (h0 : -9223372036854775808 ≤ n) (h1 : n ≤ 9223372036854775807) : (dtext n s).length ≤ 100 := by
  have := digs_len 19 n.natAbs (by have : (10 : Nat) ^ (19 + 1) = 100000000000000000000 := by decide
                                   omega)
  have h1 := pad_len s (digs n.natAbs)
  have h0 := pad_len 0 (digs n.natAbs)
  unfold dtext
  split <;> split <;> simp [List.length_take] <;> omega
theorem pvl_len (v : Va) (hr : litV v = true) (h0 : -9223372036854775808 ≤ v.n) (h1 : v.n ≤ 9223372036854775807) : (pvl v).length ≤ 1000 := by
  have hvr : vr v = true := by unfold litV at hr; rw [Bool.and_eq_true] at hr; exact hr.1
  have hok := (vr_iff v).1 hvr
  obtain ⟨k, n, m, b⟩ := v
  unfold pvl pv ptext dpt
  simp only [hvr, if_true] at hok ⊢
  have a1 := dtext_len n 0 (by omega) h0 h1
  have ab := dbl_len b
  unfold vok at hok
  simp only at hok h0 h1
  split
  · rename_i hk
    split
    · omega
    split
    · rename_i h2
      have a2 := dtext_len n m.toNat (by omega) h0 h1
      rw [List.length_append]
      split <;> simp <;> omega
    · unfold quoL
      simp only [List.length_cons, List.length_append, List.length_nil]
      omega
  · split
    · split <;> simp
    · simp
theorem pvl_z : (pvl vz0).length ≤ 1000 := by decide +kernel
theorem pv_bounds {l : List Nd} (h : 0 < depN mayN l) (hi : ∀ x ∈ l, -9223372036854775808 ≤ x.v.n ∧ x.v.n ≤ 9223372036854775807) : ∀ x ∈ l, x.t.length ≤ 1000 ∧ x.n.length ≤ 1000 ∧ (pvl x.v).length ≤ 1000 := by
  intro x hx
  obtain ⟨h1, h2, h3, h4⟩ := may_parts (dep_may h x hx)
  refine ⟨by omega, by omega, ?_⟩
  by_cases ho : x.o = 1
  · exact pvl_len x.v (h3 ho) (hi x hx).1 (hi x hx).2
  · rw [h4 ho]; exact pvl_z
theorem colsL_len (l : List Nd) : ∀ out, (colsL l out).length ≤ out.length + l.length := by
  induction l with
  | nil => intro out; show out.length ≤ _; omega
  | cons x l ih =>
    intro out
    have := ih (if x.o = 2 ∧ memN out x = false then out ++ [⟨2, x.t, x.n, vz0, 0⟩] else out)
    show (colsL l (if x.o = 2 ∧ memN out x = false then out ++ [⟨2, x.t, x.n, vz0, 0⟩] else out)).length ≤ _
    have h2 : (if x.o = 2 ∧ memN out x = false then out ++ [⟨2, x.t, x.n, vz0, 0⟩] else out).length ≤ out.length + 1 := by
      split <;> simp
    rw [List.length_cons]
    omega
end Go.Proofs.YtclhmmgdhagloaaGreatDoor

namespace Go.Proofs.YtclhmmgdhagloaaGreatDoor
open Go.RowKit Go.Shelf
attribute [local go_sem] cell?_more frozen?_more setCell_more more_lt more_more more_drew more_drewN setCell_drewN alloc_drewN

end Go.Proofs.YtclhmmgdhagloaaGreatDoor

namespace Go.Proofs.YtclhmmgdhagloaaGreatDoor
open Go.ChangeShapes Go.WideShapes Go.ChangeAt Go.WideMaps Go.WideElems Go.RowKit Go.Shelf Go.Lib

theorem ptab6_of {W : World} (h : VarReads Tryz.prog W "internal/strconv.uint64pow10" Rows.laid_internal_strconv_uint64pow10) : Ptab W := by
  obtain ⟨g', t', cs, fuel, p, hg', ht', hvar, hd⟩ := h
  have hg : Tryz.prog.globalNamed "internal/strconv.uint64pow10" = some 7 := by kernel_rfl
  have hty : (Tryz.prog.globals[7]?).map (·.type) = some 279 := by kernel_rfl
  obtain rfl := Option.some.inj (hg.symm.trans hg')
  obtain rfl := Option.some.inj (hty.symm.trans ht')
  have hd' : DataW.trod (fun _ => ()) Tryz.prog W 0 (fun _ => true) false fuel 279 cs.toList = some (Lib.tabData .u64 Lib.pow10Tab, p) := by
    rw [hd, show Rows.laid_internal_strconv_uint64pow10 = Lib.tabData (H := Unit) .u64 Lib.pow10Tab by kernel_rfl]
  unfold Ptab Lib.TabIs
  rw [hvar, ← cells_of_tab Tryz.underlying279 Tryz.underlying161 (by kernel_rfl) (by kernel_rfl) hd']

/-- An array of texts that reads as these holds them, cell for cell. -/
theorem cells_of_texts {H : Type} {enc : TypeId × Value → H} {P : Program} {w : World} {base : Nat} {sp : Nat → Bool} {held : Bool} {fuel : Nat} {t e : TypeId} {n : Nat} {cs : List Value} {ss : List (List UInt8)} {p : List MemPlace}
    (ht : P.underlying t = some (.array n e)) (he : P.underlying e = some .string) (hce : P.cellsOf e = 1) (hct : P.cellsOf t = n)
    (h : DataW.trod enc P w base sp held fuel t cs = some (.agg (ss.map fun s => .lit (.string s)), p)) : cs = ss.map fun s => Value.string ⟨s.toArray⟩ := by
  cases fuel with
  | zero => simp [DataW.trod] at h
  | succ fuel =>
    simp only [DataW.trod, ht, hce, hct, Nat.mul_one] at h
    split at h
    · rename_i hl
      obtain ⟨xs, hm, hx⟩ := Option.map_eq_some_iff.1 h
      have hxs : xs.map (·.1) = ss.map fun s => (DataW.lit (.string s) : DataW H) := by
        have := congrArg Prod.fst hx
        simpa using this
      have hxl : xs.length = n := by simpa using Lib.mapM_length hm
      have hzl : ss.length = n := by
        have := congrArg List.length hxs
        simp at this
        omega
      apply List.ext_getElem?
      intro i
      by_cases hi : i < n
      · obtain ⟨b, hb, hf⟩ := mapM_at hm i i (by simp [hi])
        obtain ⟨z, hc, rfl, _⟩ := DataW.trod_string he hf
        have h1 : cs[i]? = some (.string z) := by
          have := congrArg (·[0]?) hc
          simpa [List.getElem?_take, List.getElem?_drop] using this
        have h2 : (xs.map (·.1))[i]? = some (DataW.lit (.string z.data.toList) : DataW H) := by simp [hb]
        rw [hxs] at h2
        simp only [List.getElem?_map, Option.map_eq_some_iff, DataW.lit.injEq, Lit.string.injEq] at h2
        obtain ⟨z', hz', rfl⟩ := h2
        simp [h1, hz']
      · rw [List.getElem?_eq_none (by omega), List.getElem?_eq_none (by simp; omega)]
    · cases h

theorem sg_of {W : World} (h : VarReads Tryz.prog W "longstop/expr.signs" Rows.laid_longstop_expr_signs) : Sg W := by
  obtain ⟨g', t', cs, fuel, p, hg', ht', hvar, hd⟩ := h
  have hg : Tryz.prog.globalNamed "longstop/expr.signs" = some 0 := by kernel_rfl
  have hty : (Tryz.prog.globals[0]?).map (·.type) = some 98 := by kernel_rfl
  obtain rfl := Option.some.inj (hg.symm.trans hg')
  obtain rfl := Option.some.inj (hty.symm.trans ht')
  have hd' : DataW.trod (fun _ => ()) Tryz.prog W 0 (fun _ => true) false fuel 98 cs.toList = some (.agg (((List.range 19).map sgn).map fun s => .lit (.string s)), p) := by
    rw [hd, show (Rows.laid_longstop_expr_signs : DataW Unit) = .agg (((List.range 19).map sgn).map fun s => .lit (.string s)) by kernel_rfl]
  have hcs := cells_of_texts Tryz.underlying98 Tryz.underlying9 (by kernel_rfl) (by kernel_rfl) hd'
  intro i hi
  have hc := World.var?_cell hg hvar i
  rw [hc]
  have e : cs = (((List.range 19).map sgn).map fun s => Value.string ⟨s.toArray⟩).toArray := by
    rw [← Array.toArray_toList (xs := cs), hcs]
  rw [e]
  simp [hi]

end Go.Proofs.YtclhmmgdhagloaaGreatDoor

namespace Go.Proofs.YtclhmmgdhagloaaGreatDoor
open Go.RowKit Go.Shelf
attribute [local go_sem] cell?_more frozen?_more setCell_more more_lt more_more more_drew more_drewN setCell_drewN alloc_drewN

theorem res_drop (l : List UInt8) (k : Nat) (h : k < resW.length) : (resW.drop k).contains l = (resW[k] == l || (resW.drop (k + 1)).contains l) := by
  rw [List.drop_eq_getElem_cons h, List.contains_cons]
  congr 1
  rw [Bool.eq_iff_iff, beq_iff_eq, beq_iff_eq]
  exact ⟨fun h => h.symm, fun h => h.symm⟩

set_option maxRecDepth 20000 in
set_option maxHeartbeats 4000000 in
theorem rres_any (B : ByteArray) (w : World) : Calls Tryz.prog 19 #[.string B] w fun e w' => e = .returned (.bool (resL B.toList)) ∧ Below w.heap.size w w' := by
  obtain ⟨R, hR⟩ : ∃ R, R = resL B.toList := ⟨_, rfl⟩
  rw [← hR]
  have HR : Hid ((resW.drop 0).contains B.toList = R) := hR.symm
  clear hR
  have BX := Cbox.new w (resW.map fun t => Value.string ⟨t.toArray⟩).toArray 9
  have A1 : Below w.heap.size w (w.alloc (.cells (resW.map fun t => Value.string ⟨t.toArray⟩).toArray 9)) := (Below.refl _ _).alloc (Nat.le_refl _) _
  have HBX : Hid (Cbox (w.alloc (.cells (resW.map fun t => Value.string ⟨t.toArray⟩).toArray 9)) w.heap.size (resW.map fun t => Value.string ⟨t.toArray⟩).toArray 9) := BX
  have HB : Hid (Below w.heap.size w (w.alloc (.cells (resW.map fun t => Value.string ⟨t.toArray⟩).toArray 9))) := A1
  clear BX A1
  generalize hwx : w.alloc (.cells (resW.map fun t => Value.string ⟨t.toArray⟩).toArray 9) = wx at HBX HB
  simp only [resW, List.map_cons, List.map_nil] at hwx
  go_enter Tryz.func19, Tryz.ntmps19
  go_wp2
  try rw [hwx]
  clear hwx
  go_loopw [4] (fun r wr => ∃ k : Nat, r = .int .i64 (k : Int) ∧ k ≤ 41 ∧ wr = wx ∧ Hid ((resW.drop k).contains B.toList = R)) (fun r _ => 41 - (intOf r).toNat)
  case atStart => exact ⟨0, rfl, Nat.zero_le _, rfl, HR⟩
  case round =>
    obtain ⟨k, rfl, hk, rfl, hH⟩ := hrel
    by_cases hlt : k < 41
    · have hlt' : (k : Int) < 41 := by omega
      have k0 : (0 : Int) ≤ (k : Int) := by omega
      have hkl : k < resW.length := hlt
      have ck := HBX.out.at k
      rw [List.getElem?_toArray, List.getElem?_map, List.getElem?_eq_getElem hkl] at ck
      have gl := HBX.out.lt
      have hst := hH.out
      rw [res_drop _ _ hkl] at hst
      obtain ⟨S, hS⟩ : ∃ S : ByteArray, S = ⟨resW[k].toArray⟩ := ⟨_, rfl⟩
      have eS : S.toList = resW[k] := by rw [hS, ByteArray.toList_eq]
      have ck' : wr.cell? ⟨w.heap.size, k, none⟩ = some (.string S) := by rw [hS]; exact ck
      rw [← eS] at hst
      have HST : Hid ((S.toList == B.toList || (resW.drop (k + 1)).contains B.toList) = R) := hst
      clear ck hst hH HR hS eS
      by_cases he : S.toList = B.toList
      · have he' : (S.toList == B.toList) = true := by rw [beq_iff_eq]; exact he
        have HF : Hid (R = true) := by show R = true; rw [← HST.out, he', Bool.true_or]
        clear HST he
        go_wp2
        go_ret
        exact ⟨by have h := HF.out; subst h; rfl, HB.out⟩
      · have he' : (S.toList == B.toList) = false := by rw [beq_eq_false_iff_ne]; exact he
        have HF : Hid ((resW.drop (k + 1)).contains B.toList = R) := by show _ = R; rw [← HST.out, he', Bool.false_or]
        clear HST he
        go_wp2
        exact ⟨⟨k + 1, by rw [cst1], by omega, (by first | trivial | rfl), HF⟩, by simp [intOf]; omega⟩
    · have hlt' : ¬ (k : Int) < 41 := by omega
      have HF : Hid (R = false) := by
        show R = false
        rw [← hH.out, List.drop_eq_nil_of_le (by show 41 ≤ k; omega)]
        rfl
      clear hH HR
      go_wp2
      go_ret
      exact ⟨by have h := HF.out; subst h; rfl, HB.out⟩

theorem rfree_any (l : List UInt8) (w : World) (A : ∀ W, Calls Tryz.prog 125 #[.string ⟨l.toArray⟩] W fun e w' => e = .returned (.bool (wordL l)) ∧ W = w') : Calls Tryz.prog 67 #[.string ⟨l.toArray⟩] w fun e w' => e = .returned (.bool (nameL l)) ∧ Below w.heap.size w w' := by
  have B := fun W => rres_any ⟨l.toArray⟩ W
  have e : (ByteArray.mk l.toArray).toList = l := by rw [ByteArray.toList_eq]
  rw [e] at B
  clear e
  unfold nameL
  generalize ByteArray.mk l.toArray = S at *
  generalize wordL l = b at *
  cases b with
  | false =>
    clear B
    go_enter Tryz.func67, Tryz.ntmps67
    go_wp2_with (go_at_call 125; refine (A _).mono ?_; rintro e w' ⟨rfl, rfl⟩)
    go_ret
    exact ⟨rfl, Below.refl _ _⟩
  | true =>
    generalize resL l = r at *
    go_enter Tryz.func67, Tryz.ntmps67
    go_wp2_with (first
      | (go_at_call 125; refine (A _).mono ?_; rintro e w' ⟨rfl, rfl⟩)
      | (go_at_call 19; refine (B _).mono ?_; rintro e w' ⟨rfl, bb⟩))
    go_ret
    exact ⟨rfl, bb⟩

/-- What the document says of a literal is what the program says. -/
theorem lit_doc (v : Va) : litV v = (vr v && (!(v.k == 5) && !((v.k == 1 || v.k == 2) && decide (v.n < 0)))) := by
  unfold litV
  cases h : vr v with
  | false => rfl
  | true =>
    have hok := (vr_iff v).1 h
    unfold vok at hok
    rw [Bool.true_and, Bool.true_and, Bool.eq_iff_iff]
    simp only [Bool.and_eq_true, Bool.not_eq_true', beq_eq_false_iff_ne, decide_eq_true_eq, Bool.and_eq_false_iff, Bool.or_eq_false_iff, decide_eq_false_iff_not]
    constructor
    · rintro ⟨h1, h2⟩
      exact ⟨h1, .inr (by omega)⟩
    · rintro ⟨h1, h2⟩
      refine ⟨h1, ?_⟩
      rcases h2 with h2 | h2 <;> omega
end Go.Proofs.YtclhmmgdhagloaaGreatDoor

namespace Go.Proofs.YtclhmmgdhagloaaGreatDoor
open Go.RowKit Go.Shelf
attribute [local go_sem] cell?_more frozen?_more setCell_more more_lt more_more more_drew more_drewN setCell_drewN alloc_drewN

set_option maxHeartbeats 2000000 in
theorem rlit_any (v : Va) (w : World) : Calls Tryz.prog 66 #[vv v] w fun e w' => e = .returned (.bool (litV v)) ∧ Below w.heap.size w w' := by
  have A : ∀ W, Calls Tryz.prog 68 #[va v.k v.n v.m ⟨v.b.toArray⟩] W fun e w' => e = .returned (.bool (vr v)) ∧ Below W.heap.size W w' := fun W => rright_any v.k v.n v.m ⟨v.b.toArray⟩ W
  rw [lit_doc]
  obtain ⟨vk, vn, vm, vb⟩ := v
  generalize vr ⟨vk, vn, vm, vb⟩ = r at *
  simp only at A ⊢
  have Z := Cbox.new w #[.int .i64 vk, .int .i64 vn, .int .i64 vm, .string ⟨vb.toArray⟩] 42
  have A0 := (Below.refl w.heap.size w).alloc (Nat.le_refl _) (.cells #[.int .i64 vk, .int .i64 vn, .int .i64 vm, .string ⟨vb.toArray⟩] 42)
  cases r with
  | false =>
    clear Z
    go_enter Tryz.func66, Tryz.ntmps66
    go_wp2_with (go_at_call 68; refine (A _).mono ?_; rintro e w1 ⟨rfl, b1⟩; have B1 := A0.trans (b1.mono A0.size))
    go_ret
    exact ⟨rfl, B1⟩
  | true =>
    rw [Bool.true_and]
    by_cases h5 : vk = 5
    · subst h5
      go_enter Tryz.func66, Tryz.ntmps66
      go_wp2_with (go_at_call 68; refine (A _).mono ?_; rintro e w1 ⟨rfl, b1⟩; have B1 := A0.trans (b1.mono A0.size); have z0 := (Z.later b1).at 0; have z1 := (Z.later b1).at 1; have zl := (Z.later b1).lt)
      go_ret
      exact ⟨rfl, B1⟩
    have h5' : ¬ vk = 5 := h5
    by_cases h1 : vk = 1
    · subst h1
      by_cases h0 : vn < 0
      · go_enter Tryz.func66, Tryz.ntmps66
        go_wp2_with (go_at_call 68; refine (A _).mono ?_; rintro e w1 ⟨rfl, b1⟩; have B1 := A0.trans (b1.mono A0.size); have z0 := (Z.later b1).at 0; have z1 := (Z.later b1).at 1; have zl := (Z.later b1).lt)
        go_ret
        exact ⟨by simp [h0], B1⟩
      · go_enter Tryz.func66, Tryz.ntmps66
        go_wp2_with (go_at_call 68; refine (A _).mono ?_; rintro e w1 ⟨rfl, b1⟩; have B1 := A0.trans (b1.mono A0.size); have z0 := (Z.later b1).at 0; have z1 := (Z.later b1).at 1; have zl := (Z.later b1).lt)
        go_ret
        exact ⟨by simp, B1⟩
    have h1' : (vk == 1) = false := by rw [beq_eq_false_iff_ne]; exact h1
    by_cases h2 : vk = 2
    · subst h2
      by_cases h0 : vn < 0
      · go_enter Tryz.func66, Tryz.ntmps66
        go_wp2_with (go_at_call 68; refine (A _).mono ?_; rintro e w1 ⟨rfl, b1⟩; have B1 := A0.trans (b1.mono A0.size); have z0 := (Z.later b1).at 0; have z1 := (Z.later b1).at 1; have zl := (Z.later b1).lt)
        go_ret
        exact ⟨by simp [h0], B1⟩
      · go_enter Tryz.func66, Tryz.ntmps66
        go_wp2_with (go_at_call 68; refine (A _).mono ?_; rintro e w1 ⟨rfl, b1⟩; have B1 := A0.trans (b1.mono A0.size); have z0 := (Z.later b1).at 0; have z1 := (Z.later b1).at 1; have zl := (Z.later b1).lt)
        go_ret
        exact ⟨by simp, B1⟩
    have h2' : (vk == 2) = false := by rw [beq_eq_false_iff_ne]; exact h2
    go_enter Tryz.func66, Tryz.ntmps66
    go_wp2_with (go_at_call 68; refine (A _).mono ?_; rintro e w1 ⟨rfl, b1⟩; have B1 := A0.trans (b1.mono A0.size); have z0 := (Z.later b1).at 0; have z1 := (Z.later b1).at 1; have zl := (Z.later b1).lt)
    go_ret
    have e5 : (vk == 5) = false := by rw [beq_eq_false_iff_ne]; exact h5
    exact ⟨by simp [e5, h1', h2']; exact h5, B1⟩
end Go.Proofs.YtclhmmgdhagloaaGreatDoor
