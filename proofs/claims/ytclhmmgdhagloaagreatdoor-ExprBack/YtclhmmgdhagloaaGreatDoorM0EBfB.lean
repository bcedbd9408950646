/-
  ExprBack's walk.
  The library's error of the syntax, as the row lays it.
  ExprBack: the row's frame.
  ExprBack: what the row's form asks of the program's own text.
-/
import Derived.Test.YtclhmmgdhagloaaGreatDoorEBkP
import Derived.Test.YtclhmmgdhagloaaGreatDoorMREPrtV
import Derived.Test.YtclhmmgdhagloaaGreatDoorEPrt6
import Derived.Test.YtclhmmgdhagloaaGreatDoorXSame6
import Derived.Test.YtclhmmgdhagloaaGreatDoorMMEOwn
import Derived.Test.YtclhmmgdhagloaaGreatDoorMSEBkL
import Derived.Test.YtclhmmgdhagloaaGreatDoorMXGParse
import Derived.Stop.LaidErr
import Derived.ChangeMaps5
import Derived.SizedLaws
import Derived.Carry
import Derived.Test.YtclhmmgdhagloaaGreatDoorMtVFrm3
namespace Go.Proofs.YtclhmmgdhagloaaGreatDoor
open Go.RowKit Go.Shelf
attribute [local go_sem] cell?_more frozen?_more setCell_more more_lt more_more more_drew more_drewN setCell_drewN alloc_drewN

theorem lex_count {V : Type} {z : V} {f : List UInt8 → Option V} (l : List UInt8) : ∀ i x, lexL z f l i = some x → x.length ≤ l.length := by
  induction h : l.length using Nat.strongRecOn generalizing l with
  | ind m ih =>
    intro i x hx
    match l, h with
    | [], h => cases hx; simp
    | c :: l, h =>
      simp at h
      cases hb : isB c with
      | true =>
        rw [lex_blank _ _ _ hb] at hx
        have := ih l.length (by omega) l rfl _ _ hx
        omega
      | false =>
        rw [lex_tok _ _ _ hb] at hx
        cases hy : tok z f (c :: l) i with
        | none => rw [hy] at hx; cases hx
        | some y =>
          rw [hy] at hx
          simp only at hx
          obtain ⟨_, h2, h3, _⟩ := tok_len hy
          have h4 := lxt_le (c :: l)
          cases hr : lexL z f ((c :: l).drop y.t.length) (i + y.t.length) with
          | none => rw [hr] at hx; cases hx
          | some r =>
            rw [hr] at hx
            have := ih _ (by simp at h4 ⊢; omega) ((c :: l).drop y.t.length) rfl _ _ hr
            simp at hx
            subst hx
            simp at this h4 ⊢
            omega
/-- The tokens of an expression's text, as the reader meets them. -/
theorem nxt_at {xs : List Tok} (hr : ∀ y ∈ xs, rtok (tin y) = true) (k : Nat) (hk : k < xs.length) : nxt (xs.map tin) k = tin xs[k] := by
  unfold nxt
  rw [List.getElem?_map, List.getElem?_eq_getElem hk]
  simp only [Option.map_some]
  rw [if_pos (hr _ (List.getElem_mem _))]
theorem nxt_end (xs : List Tok) (k : Nat) (hk : xs.length ≤ k) : nxt (xs.map tin) k = tz := by
  unfold nxt
  rw [List.getElem?_eq_none (by simpa using hk)]
/-- An expression is read out of its text. -/
theorem read_back {l : List Nd} {t : List UInt8} {s : List Kt} {d : Nat} (h : Tr vE l t s d) (hd : d ≤ 16) (hl : l.length ≤ 256) :
    ∃ xs : List Tok, lexL vz dpv t 0 = some xs ∧ (∀ y ∈ xs, rtok (tin y) = true) ∧ (∀ y ∈ xs, Tok1 y.t) ∧ rdx (nxt (xs.map tin)) vE (xs.length + 1) (7 + 8 * xs.length) .ex 0 [] 0 = (0, xs.length, l) := by
  obtain ⟨xs, hm, hr, hlex⟩ := tr_lex h [] 0 (.inl rfl)
  rw [List.append_nil, lex_nil] at hlex
  simp only [Option.map_some, List.append_nil] at hlex
  have hlen : xs.length = s.length := by rw [← hm, List.length_map]
  refine ⟨xs, hlex, hr, ?_, ?_⟩
  · intro y hy
    exact tr_tok h (kyT y) (by rw [← hm]; exact List.mem_map_of_mem hy)
  · have hseg : Seg (nxt (xs.map tin)) 0 s := by
      intro j hj
      rw [Nat.zero_add, nxt_at hr j (by omega)]
      have e : s[j] = kyT xs[j] := by
        have : s[j]? = (xs.map kyT)[j]? := by rw [hm]
        rw [List.getElem?_eq_getElem hj, List.getElem?_map, List.getElem?_eq_getElem (by omega)] at this
        exact Option.some.inj this
      rw [e]
      exact ⟨rfl, rfl⟩
    have hp := h.pos
    have hend : (nxt (xs.map tin) (0 + s.length)).t = [] := by rw [nxt_end xs _ (by omega)]
    have hu := rd_un h (nxt (xs.map tin)) (xs.length + 1) (8 * xs.length + 1) 0 0 [] hseg (by omega) (by omega) (by omega) (by simpa using hl) (by rw [hend]; rfl) (by rw [hend]; rfl)
    obtain ⟨x, r, hxr, hxn⟩ := h.first
    have hfst : ((nxt (xs.map tin) 0).t == wNot) = false := by
      rw [hxr] at hseg
      rw [hseg.head.2]
      exact hxn
    have := ex_of_un (by omega) hu hfst (by rw [hend]; exact .inr (.inr rfl))
    rw [show 7 + 8 * xs.length = 8 * xs.length + 1 + 6 by omega, this, Nat.zero_add, List.nil_append, hlen]
theorem pars_of (xs : List Tok) (w : World) (hT : Tabs w) (hP : Ptab w) (tp : TypeId) (p : Value) (hE : Esy w tp p) (hr : ∀ y ∈ xs, rtok (tin y) = true) (ht : ∀ y ∈ xs, Tok1 y.t) : Pars w (xs.map tin) vE := by
  refine ⟨rfl, fun k W hW => ?_⟩
  by_cases hk : k < xs.length
  · rw [nxt_at hr k hk]
    have hm := List.getElem_mem hk
    exact vparse_tok _ W (hT.later hW) (hP.later hW) tp p (hE.later hW) (rtok_len (hr _ hm)).2 (ht _ hm)
  · rw [nxt_end xs k (by omega)]
    exact vparse_no [] W (by simp) rfl rfl (by rw [ByteArray.toList_eq]; rfl) (by rw [ByteArray.toList_eq]; rfl) (by rw [ByteArray.toList_eq]; rfl) (by decide +kernel)

set_option maxRecDepth 20000 in
set_option maxHeartbeats 4000000 in
theorem back_all (lo : Option Addr) (lc : Nat) (l : List Nd) (w : World) (hv : Nw w lo l) (hln : l.length * 88 ≤ 140737488351232) (hs : shN l) (hi6 : ∀ x ∈ l, vin x.v) (hT : Tabs w) (hP : Ptab w) (hS : Sg w) (tp : TypeId) (p : Value) (hE : Esy w tp p) :
    Calls Tryz.prog 4 #[.slice lo l.length lc] w fun e w' => e = .returned (.bool true) ∧ Below w.heap.size w w' := by
  have KN : Hid (∀ W, Below w.heap.size w W → Calls Tryz.prog 7 #[] W fun e w' => e = .returned (.bool true) ∧ Below W.heap.size W w') := fun W h => knows6_any W (hT.later h) (hP.later h) (hS.later h)
  have hn47 : l.length ≤ 140737488351232 := by omega
  have OW : Hid (Calls Tryz.prog 8 #[.slice lo l.length lc] w fun e w' => (∃ ao' cap', e = .returned (.slice ao' l.length cap') ∧ Nw w' ao' l) ∧ Below w.heap.size w w') := by
    show Calls _ _ _ _ _
    refine (own6_any lo lc l w hv hln).mono ?_
    rintro e w' ⟨⟨ao', cap', h1, h2, _⟩, h4⟩
    exact ⟨⟨ao', cap', h1, h2⟩, h4⟩
  have RI : Hid (∀ W a c, Below w.heap.size w W → Nw W a l → Calls Tryz.prog 9 #[.slice a l.length c] W fun e w' => e = .returned (.bool (decide (0 < depN mayN l))) ∧ Below W.heap.size W w') := fun W a c h h1 => right_of a c l W h1 hn47 hs (hT.later h)
  have PR6 : Hid (∀ W a c, Below w.heap.size w W → Nw W a l → Calls Tryz.prog 16 #[.slice a l.length c] W fun e w' => e = .returned (.string ⟨(prtN pvl l).toArray⟩) ∧ Below W.heap.size W w') := fun W a c h h1 =>
    print_walk pvl 1000 a c l W h1 hn47 hs (hT.later h) (hS.later h) (by omega) (fun hd => pv_bounds hd (fun x hx => (hi6 x hx).1)) (fun hd x hx ho V hV => by
      have hlit := (may_parts (dep_may hd x hx)).2.2.1 ho
      exact vprint_lit x.v V (hT.later (below_trans h hV)) (hP.later (below_trans h hV)) hlit (hi6 x hx).1 (lit_kind hlit))
  have SM6 : Hid (∀ W lo' lc', Below w.heap.size w W → Nw W lo' l → Calls Tryz.prog 13 #[.slice lo' l.length lc', .slice lo l.length lc] W fun e w' => e = .returned (.bool true) ∧ Below W.heap.size W w') := fun W lo' lc' h h1 => same6_any lo' lo lc' lc l W h1 (hv.later h) hn47
  have NM := fun n W => num6_any n W
  by_cases hd : 0 < depN mayN l
  case neg =>
    rw [decide_eq_false hd] at RI
    have e0 : prtN pvl l = [] := by unfold prtN; rw [if_neg hd]
    rw [e0] at PR6
    have PR6' : Hid (∀ W a c, Below w.heap.size w W → Nw W a l → Calls Tryz.prog 16 #[.slice a l.length c] W fun e w' => e = .returned (.string ⟨#[]⟩) ∧ Below W.heap.size W w') := PR6
    clear hv hln hs hi6 hT hP hS hE hn47 SM6 NM hd e0 PR6
    obtain ⟨n, hnn⟩ : ∃ n, l.length = n := ⟨_, rfl⟩
    rw [hnn] at OW RI PR6' ⊢
    clear hnn
    go_enter Tryz.func4, Tryz.ntmps4
    go_wp2_with fail
    refine OW.out.mono ?_
    rintro e w1 ⟨⟨lo', lc', rfl, hv1⟩, B1⟩
    have HV : Hid (Nw w1 lo' l) := hv1
    clear hv1
    go_wp2_with fail
    refine (PR6'.out _ lo' lc' B1 HV.out).mono ?_
    rintro e w2 ⟨rfl, b2⟩
    have B2 := below_trans B1 b2
    go_wp2_with fail
    refine (RI.out _ lo' lc' B2 (HV.out.later b2)).mono ?_
    rintro e w3 ⟨rfl, b3⟩
    have B3 := below_trans B2 b3
    go_wp2_with fail
    refine (KN.out _ B3).mono ?_
    rintro e w4 ⟨rfl, b4⟩
    go_wp2
    go_ret
    exact ⟨rfl, below_trans B3 b4⟩
  rw [decide_eq_true hd] at RI
  by_cases hlong : (prtN pvl l).length ≤ 4096
  case neg =>
    have h' : (4096 : Int) < ((prtN pvl l).length : Int) := by omega
    have hsz : (ByteArray.mk (prtN pvl l).toArray).size = (prtN pvl l).length := rfl
    clear hv hln hs hi6 hT hP hS hE hn47 SM6 NM hd hlong
    generalize (prtN pvl l).length = z at *
    generalize ByteArray.mk (prtN pvl l).toArray = TB at *
    obtain ⟨n, hnn⟩ : ∃ n, l.length = n := ⟨_, rfl⟩
    rw [hnn] at OW RI PR6 ⊢
    clear hnn
    go_enter Tryz.func4, Tryz.ntmps4
    go_wp2_with fail
    refine OW.out.mono ?_
    rintro e w1 ⟨⟨lo', lc', rfl, hv1⟩, B1⟩
    have HV : Hid (Nw w1 lo' l) := hv1
    clear hv1
    go_wp2_with fail
    refine (PR6.out _ lo' lc' B1 HV.out).mono ?_
    rintro e w2 ⟨rfl, b2⟩
    have B2 := below_trans B1 b2
    go_wp2_with fail
    refine (RI.out _ lo' lc' B2 (HV.out.later b2)).mono ?_
    rintro e w3 ⟨rfl, b3⟩
    have B3 := below_trans B2 b3
    go_wp2_with fail
    refine (KN.out _ B3).mono ?_
    rintro e w4 ⟨rfl, b4⟩
    go_wp2
    go_ret
    exact ⟨rfl, below_trans B3 b4⟩
  obtain ⟨s, d, htr, hd16, hl256⟩ := tr_of name_none l (fun x hx hm ho => lit_ok x.v ((may_parts hm).2.2.1 ho) (hi6 x hx).1.2) hd
  obtain ⟨xs, hlex, hrt, htk, hrd⟩ := read_back htr hd16 hl256
  have hxl : xs.length ≤ 4096 := Nat.le_trans (lex_count _ _ _ hlex) hlong
  have PS : Hid (∀ W, Below w.heap.size w W → Calls Tryz.prog 20 #[.string ⟨(prtN pvl l).toArray⟩] W fun e w' => (∃ v, e = .returned (.tuple #[v, .int .i64 0]) ∧ Nowns w' W.heap.size v l) ∧ Below W.heap.size W w') := fun W h => by
    have := parse6_any (prtN pvl l) xs vE W hlong (hT.later h) (hP.later h) (hS.later h) hlex hxl (fun V hV => pars_of xs V (hT.later (below_trans h hV)) (hP.later (below_trans h hV)) tp p (hE.later (below_trans h hV)) hrt htk) (0, xs.length, l) hrd hs hxl
    refine this.mono fun e w' ⟨h1, h2⟩ => ⟨?_, h2⟩
    unfold parseP at h1
    rw [if_pos rfl, if_pos hd, if_neg (by simp)] at h1
    exact h1
  have h' : ¬ (4096 : Int) < ((prtN pvl l).length : Int) := by omega
  have hsz : (ByteArray.mk (prtN pvl l).toArray).size = (prtN pvl l).length := rfl
  clear hv hln hs hi6 hT hP hS hE hn47 hd hlong htr hd16 hl256 hlex hrt htk hrd hxl
  generalize (prtN pvl l).length = z at *
  generalize ByteArray.mk (prtN pvl l).toArray = TB at *
  obtain ⟨n, hnn⟩ : ∃ n, l.length = n := ⟨_, rfl⟩
  have HN : Hid (l.length = n) := hnn
  rw [hnn] at OW RI PR6 SM6 ⊢
  clear hnn
  go_enter Tryz.func4, Tryz.ntmps4
  go_wp2_with fail
  refine OW.out.mono ?_
  rintro e w1 ⟨⟨lo', lc', rfl, hv1⟩, B1⟩
  have HV : Hid (Nw w1 lo' l) := hv1
  clear hv1
  go_wp2_with fail
  refine (PR6.out _ lo' lc' B1 HV.out).mono ?_
  rintro e w2 ⟨rfl, b2⟩
  have B2 := below_trans B1 b2
  go_wp2_with fail
  refine (RI.out _ lo' lc' B2 (HV.out.later b2)).mono ?_
  rintro e w3 ⟨rfl, b3⟩
  have B3 := below_trans B2 b3
  go_wp2_with fail
  refine (PS.out _ B3).mono ?_
  rintro e w4 ⟨⟨v4, rfl, o4⟩, b4⟩
  have B4 := below_trans B3 b4
  obtain ⟨a4, c4, rfl, nw4⟩ := o4.lies
  rw [HN.out]
  have HN4 : Hid (Nw w4 a4 l) := nw4
  clear o4 nw4
  go_wp2_with (go_at_call 21; refine (NM _ _).mono ?_; rintro e wc ⟨rfl, rfl⟩)
  refine (SM6.out _ a4 c4 B4 HN4.out).mono ?_
  rintro e w5 ⟨rfl, b5⟩
  have B5 := below_trans B4 b5
  go_wp2_with fail
  refine (KN.out _ B5).mono ?_
  rintro e w6 ⟨rfl, b6⟩
  go_wp2
  go_ret
  exact ⟨rfl, below_trans B5 b6⟩
end Go.Proofs.YtclhmmgdhagloaaGreatDoor

namespace Go.Proofs.YtclhmmgdhagloaaGreatDoor
open Go.RowKit Go.Shelf

theorem esy_row (u : TypeId) (h : Tryz.prog.typeName? 3 u = some "*errors.errorString") : u = 324 :=
  typeName_ptr_named (nm := "errors.errorString") (by rw [show "*" ++ "errors.errorString" = "*errors.errorString" by decide]; kernel_rfl) (by kernel_rfl) (by decide) u (by rw [show "*" ++ "errors.errorString" = "*errors.errorString" by decide]; exact h)
theorem esy_of {W : World} {r : List (String × DataW Unit)} (h : laidMet Tryz.prog (("strconv.ErrSyntax", Rows.laid_strconv_ErrSyntax) :: r) W) : ∃ tp p, Esy W tp p := by
  have h' : laidMet Tryz.prog (("strconv.ErrSyntax", .iface "*errors.errorString" (.ptr (.agg [.lit (.string [105, 110, 118, 97, 108, 105, 100, 32, 115, 121, 110, 116, 97, 120])]))) :: r) W := h
  obtain ⟨a0, s0, hv0, _⟩ := laid_sentinel h' (show Tryz.prog.globalNamed "strconv.ErrSyntax" = some 11 by kernel_rfl) (show (Tryz.prog.globals[11]?).map (·.type) = some 156 by kernel_rfl) Tryz.underlying156 esy_row Tryz.underlying324 Tryz.underlying326 rfl rfl Tryz.underlying9 (by kernel_rfl) (by kernel_rfl)
  exact ⟨_, _, hv0⟩
end Go.Proofs.YtclhmmgdhagloaaGreatDoor

namespace Go.Proofs.YtclhmmgdhagloaaGreatDoor
open Go.ChangeShapes Go.WideShapes Go.ChangeAt Go.WideMaps Go.WideElems Go.RowKit Go.Shelf Go.Lib
open Go.ChangeMaps (open_string shut_string)

set_option maxRecDepth 100000 in
theorem ebk_lifted (os : Os) (started : os.Started) (H : Type) (enc : TypeId × Value → H) :
    ReturnsInHanded {} Tryz.checked os 4 .any (fun w args => (Rows.exprBackSpec.pre enc Tryz.prog Tryz.f4 [] false w args ∧ laidMetH Tryz.prog Rows.exprBackRow.laid w) ∧ sizedMet enc Tryz.prog Tryz.f4 (OpenSpec.ofChange Rows.exprBackSpec) false w args)
      (Rows.exprBackSpec.post enc Tryz.prog Tryz.f4 false true false false) := by
  refine returnsInHanded_of_change_and (C := Tryz.checked) (X := fun w _ => laidMetH Tryz.prog Rows.exprBackRow.laid w) (fun _ _ _ hh h => h.of_heap hh) own started (by kernel_rfl) Tryz.func4
    (ChangeSpec.witness_shaped (enc := enc) (C := Tryz.checked) (os := os) (X := fun w _ => laidMetH Tryz.prog Rows.exprBackRow.laid w) false (World.laidAll Tryz.prog os Rows.exprBackRow.laid) #[.slice none 0 0] 8 (World.laidAll_os _ _ _)
      (World.shaped_of_ZipB (by kernel_rfl) (by kernel_rfl)) (by kernel_rfl) (by kernel_rfl) (by kernel_rfl)
      (by rw [MakeChecks.laidMetH_plain _ _ _ (by kernel_rfl)]; exact laidMet_laidAll _ (by kernel_rfl) (by kernel_rfl))) ?_
  intro W base args ds gs before hval0 hW _ hsz0 hL _
  have hval : ∀ (j : Nat) t v, Tryz.f4.params[j]? = some t → args[j]? = some v → Value.okWide Tryz.prog W .any base t v := hval0
  have hsz : (DataW.weightsEach Tryz.prog (Tryz.f4.params.toList ++ Rows.exprBackSpec.plain.varTypes Tryz.prog) (ds ++ gs)).all (· ≤ reachBytes) = true := hsz0
  have hW' := hW
  obtain ⟨p, q, hA0, hV, rfl, hfz, hnd⟩ := hW
  have hA : DataW.TrodAll enc Tryz.prog W 0 (fun _ => true) true Tryz.f4.params.toList args.toList ds p := hA0
  rw [Tryz.params4] at hA hval hsz
  obtain ⟨v0, d0, rfl, rfl, h0⟩ := trodAll_one hA
  obtain ⟨rfl, rfl⟩ := trodVars_none hV
  obtain ⟨x0, n0, c0, rfl⟩ := okWide_slice Tryz.underlying22 (hval 0 22 v0 rfl rfl)
  have k0 := h0
  have lt0 : ∀ x ∈ p, x.block < W.heap.size := by obtain ⟨m, hm⟩ := k0; exact DataW.trod_lt m _ _ _ hm
  obtain ⟨f0, hf0⟩ := h0
  obtain ⟨g0, r0, e0⟩ := nods_open (a := x0) (len := n0) (cap := c0) hf0 (by simp [Value.cells])
  have z0 : c0 * Tryz.prog.bytesOf 67 ≤ 140737488351232 := by
    rcases e0 with h | ⟨es, sp, hd, hl⟩
    · rw [h]; simp
    · have hd0 : d0 = .slice es sp := hd
      rw [← hl]; exact sized_slice hsz (j := 0) (t := 22) (e := 67) rfl (by simp [hd0]) Tryz.underlying22
  obtain ⟨r0v, rfl, r0c, r0i, r0w⟩ := r0
  have r0s := sh_of hsz (j := 0) rfl rfl r0w
  rw [bytes88] at z0
  clear hA0 hval0 hsz0
  rw [MakeChecks.laidMetH_plain _ _ _ (by kernel_rfl)] at hL
  have hT : Tabs W := tabs_of (Lib.laidMet.reads hL (.tail _ (.tail _ (.tail _ (.tail _ (.tail _ (.tail _ (.tail _ (.head _))))))))) (Lib.laidMet.reads hL (.tail _ (.tail _ (.tail _ (.head _)))))
  have hP : Ptab W := ptab6_of (Lib.laidMet.reads hL (.tail _ (.tail _ (.head _))))
  have hS : Sg W := sg_of (Lib.laidMet.reads hL (.tail _ (.tail _ (.tail _ (.tail _ (.tail _ (.tail _ (.head _))))))))
  obtain ⟨_, _, hE⟩ := esy_of hL.tail.tail.tail.tail.tail
  refine (back_all x0 c0 g0 W r0v (by omega) r0s r0i hT hP hS _ _ hE).mono fun e W' ⟨he, bel⟩ => ?_
  subst he
  exact ⟨_, rfl, _, _, _, [], _, [], hW', trodAll_mk1 (shut_bool Tryz.underlying4 _), trodAll_mk1 (Below.trod laidOut (by kernel_rfl) (of_decide_eq_true (by kernel_rfl)) k0 bel lt0), rfl, bel.frame _, fun h => by cases h⟩
end Go.Proofs.YtclhmmgdhagloaaGreatDoor

namespace Go.Proofs.YtclhmmgdhagloaaGreatDoor
open Go.ChangeShapes Go.WideShapes Go.ChangeAt Go.WideMaps Go.WideElems Go.RowKit Go.Shelf Go.Lib

theorem ebk_b : joinedFacts Tryz.pinned.checked.prog 4 Tryz.f4 Rows.exprBackSpec Rows.exprBackRow = true := by kernel_rfl
end Go.Proofs.YtclhmmgdhagloaaGreatDoor
