/-
  ExprAgain's walk.
  The library's error of the syntax, as the row lays it.
  ExprAgain: the row's frame.
  ExprAgain: what the row's form asks of the program's own text.
-/
import Derived.Test.YtclhmmgdhagloaaGreatDoorMZEAgP
import Derived.BigRegion
import Derived.Test.YtclhmmgdhagloaaGreatDoorMWGParse
import Derived.Test.YtclhmmgdhagloaaGreatDoorMREBkL
import Derived.Stop.LaidErr
import Derived.ChangeMaps5
import Derived.SizedLaws
import Derived.Carry
import Derived.Test.YtclhmmgdhagloaaGreatDoorMtVFrm3
namespace Go.Proofs.YtclhmmgdhagloaaGreatDoor
open Go.RowKit Go.Shelf
attribute [local go_sem] cell?_more frozen?_more setCell_more more_lt more_more more_drew more_drewN setCell_drewN alloc_drewN

set_option maxRecDepth 20000 in
set_option maxHeartbeats 4000000 in
theorem again_all (S : ByteArray) (w : World) (hT : Tabs w) (hP : Ptab w) (hS : Sg w) (tp : TypeId) (p : Value) (hE : Esy w tp p) :
    Calls Tryz.prog 5 #[.string S] w fun e w' => e = .returned (.bool true) ∧ Below w.heap.size w w' := by
  have KN : Hid (∀ W, Below w.heap.size w W → Calls Tryz.prog 7 #[] W fun e w' => e = .returned (.bool true) ∧ Below W.heap.size W w') := fun W h => knows6_any W (hT.later h) (hP.later h) (hS.later h)
  have NM := fun n W => num6_any n W
  rcases parse_cases S.data.toList w hT hP hS tp p hE with ⟨er, h0, PB⟩ | ⟨l, hd, hg, PG⟩
  · have PB' := PB w (Below.refl _ _)
    have h0' : ¬ er = 0 := h0
    have PB2 : Calls Tryz.prog 20 #[.string S] w fun e w' => e = .returned (.tuple #[.slice none 0 0, .int .i64 er]) ∧ Below w.heap.size w w' := PB'
    clear PB PB' hT hP hS hE h0
    go_enter Tryz.func5, Tryz.ntmps5
    go_wp2_with fail
    refine PB2.mono ?_
    rintro e w1 ⟨rfl, b1⟩
    go_wp2_with (go_at_call 21; refine (NM _ _).mono ?_; rintro e wc ⟨rfl, rfl⟩)
    refine (KN.out _ b1).mono ?_
    rintro e w2 ⟨rfl, b2⟩
    go_wp2
    go_ret
    exact ⟨rfl, below_trans b1 b2⟩
  have hl256 := (depN_some hd).1
  have hs : shN l := fun x hx => ⟨by have := (hg x hx).1; omega, by have := (hg x hx).2.1; omega⟩
  have hi6 : ∀ x ∈ l, vin x.v := fun x hx => (hg x hx).2.2
  have hn47 : l.length ≤ 140737488351232 := by omega
  have PG1 : Hid (Calls Tryz.prog 20 #[.string S] w fun e w' => (∃ v, e = .returned (.tuple #[v, .int .i64 0]) ∧ Nowns w' w.heap.size v l) ∧ Below w.heap.size w w') := PG w (Below.refl _ _)
  have RI : Hid (∀ W a c, Below w.heap.size w W → Nw W a l → Calls Tryz.prog 9 #[.slice a l.length c] W fun e w' => e = .returned (.bool true) ∧ Below W.heap.size W w') := fun W a c h h1 => by
    have := right_of a c l W h1 hn47 hs (hT.later h)
    rw [decide_eq_true hd] at this
    exact this
  have PR6 : Hid (∀ W a c, Below w.heap.size w W → Nw W a l → Calls Tryz.prog 16 #[.slice a l.length c] W fun e w' => e = .returned (.string ⟨(prtN pvl l).toArray⟩) ∧ Below W.heap.size W w') := fun W a c h h1 =>
    print_walk pvl 1000 a c l W h1 hn47 hs (hT.later h) (hS.later h) (by omega) (fun hd => pv_bounds hd (fun x hx => (hi6 x hx).1)) (fun hd x hx ho V hV => by
      have hlit := (may_parts (dep_may hd x hx)).2.2.1 ho
      exact vprint_lit x.v V (hT.later (below_trans h hV)) (hP.later (below_trans h hV)) hlit (hi6 x hx).1 (lit_kind hlit))
  by_cases hlong : (prtN pvl l).length ≤ 4096
  case neg =>
    have h' : (4096 : Int) < ((prtN pvl l).length : Int) := by omega
    have hsz : (ByteArray.mk (prtN pvl l).toArray).size = (prtN pvl l).length := rfl
    have HLN : Hid (l.length = l.length) := rfl
    clear PG hT hP hS hE hn47 hd hlong hs hi6 hg hl256
    generalize (prtN pvl l).length = z at *
    generalize ByteArray.mk (prtN pvl l).toArray = TB at *
    go_enter Tryz.func5, Tryz.ntmps5
    go_wp2_with fail
    refine PG1.out.mono ?_
    rintro e w1 ⟨⟨v1, rfl, o1⟩, B1⟩
    obtain ⟨a1, c1, rfl, nw1⟩ := o1.lies
    have HV : Hid (Nw w1 a1 l) := nw1
    clear o1 nw1
    go_wp2_with (go_at_call 21; refine (NM _ _).mono ?_; rintro e wc ⟨rfl, rfl⟩)
    refine (RI.out _ a1 c1 B1 HV.out).mono ?_
    rintro e w2 ⟨rfl, b2⟩
    have B2 := below_trans B1 b2
    go_wp2_with fail
    refine (PR6.out _ a1 c1 B2 (HV.out.later b2)).mono ?_
    rintro e w3 ⟨rfl, b3⟩
    have B3 := below_trans B2 b3
    go_wp2_with fail
    refine (KN.out _ B3).mono ?_
    rintro e w4 ⟨rfl, b4⟩
    go_wp2
    go_ret
    exact ⟨rfl, below_trans B3 b4⟩
  obtain ⟨s, d, htr, hd16, _⟩ := tr_of name_none l (fun x hx hm ho => lit_ok x.v ((may_parts hm).2.2.1 ho) (hi6 x hx).1.2) hd
  obtain ⟨xs, hlex, hrt, htk, hrd⟩ := read_back htr hd16 hl256
  have hxl : xs.length ≤ 4096 := Nat.le_trans (lex_count _ _ _ hlex) hlong
  have PS : Hid (∀ W, Below w.heap.size w W → Calls Tryz.prog 20 #[.string ⟨(prtN pvl l).toArray⟩] W fun e w' => (∃ v, e = .returned (.tuple #[v, .int .i64 0]) ∧ Nowns w' W.heap.size v l) ∧ Below W.heap.size W w') := fun W h => by
    have := parse6_any (prtN pvl l) xs vE W hlong (hT.later h) (hP.later h) (hS.later h) hlex hxl (fun V hV => pars_of xs V (hT.later (below_trans h hV)) (hP.later (below_trans h hV)) tp p (hE.later (below_trans h hV)) hrt htk) (0, xs.length, l) hrd hs hxl
    refine this.mono fun e w' ⟨h1, h2⟩ => ⟨?_, h2⟩
    unfold parseP at h1
    rw [if_pos rfl, if_pos hd, if_neg (by simp)] at h1
    exact h1
  have h' : ¬ (4096 : Int) < ((prtN pvl l).length : Int) := by omega
  have hsz : (ByteArray.mk (prtN pvl l).toArray).size = (prtN pvl l).length := rfl
  clear PG hT hP hS hE hn47 hd hlong hs hi6 hg htr hd16 hlex hrt htk hrd hxl
  generalize (prtN pvl l).length = z at *
  generalize ByteArray.mk (prtN pvl l).toArray = TB at *
  obtain ⟨n, hnn⟩ : ∃ n, l.length = n := ⟨_, rfl⟩
  have HN : Hid (l.length = n) := hnn
  rw [hnn] at RI PR6 hl256
  clear hnn
  go_enter Tryz.func5, Tryz.ntmps5
  go_wp2_with fail
  refine PG1.out.mono ?_
  rintro e w1 ⟨⟨v1, rfl, o1⟩, B1⟩
  obtain ⟨a1, c1, rfl, nw1⟩ := o1.lies
  have HV : Hid (Nw w1 a1 l) := nw1
  rw [HN.out]
  clear o1 nw1
  go_wp2_with (go_at_call 21; refine (NM _ _).mono ?_; rintro e wc ⟨rfl, rfl⟩)
  refine (RI.out _ a1 c1 B1 HV.out).mono ?_
  rintro e w2 ⟨rfl, b2⟩
  have B2 := below_trans B1 b2
  go_wp2_with fail
  refine (PR6.out _ a1 c1 B2 (HV.out.later b2)).mono ?_
  rintro e w3 ⟨rfl, b3⟩
  have B3 := below_trans B2 b3
  have b13 := below_trans b2 b3
  go_wp2_with fail
  refine (PS.out _ B3).mono ?_
  rintro e w4 ⟨⟨v4, rfl, o4⟩, b4⟩
  have B4 := below_trans B3 b4
  have b14 := below_trans b13 b4
  obtain ⟨a4, c4, rfl, nw4⟩ := o4.lies
  have HV4 : Hid (Nw w4 a4 l) := nw4
  rw [HN.out]
  clear o4 nw4
  go_wp2_with (go_at_call 21; refine (NM _ _).mono ?_; rintro e wc ⟨rfl, rfl⟩)
  refine (PR6.out _ a4 c4 B4 HV4.out).mono ?_
  rintro e w5 ⟨rfl, b5⟩
  have B5 := below_trans B4 b5
  have Q1 : Hid (Nw w5 a1 l) := HV.out.later (below_trans b14 b5)
  have Q4 : Hid (Nw w5 a4 l) := HV4.out.later b5
  clear HV HV4
  go_wp2_with fail
  go_loopw [8] (fun r wr => ∃ k : Nat, r = .int .i64 (k : Int) ∧ k ≤ n ∧ Below w5.heap.size w5 wr) (fun r _ => n - (intOf r).toNat)
  case atStart => exact ⟨0, rfl, Nat.zero_le _, Below.refl _ _⟩
  case round =>
    rename World => wo
    obtain ⟨k, rfl, hk, hb⟩ := hrel
    by_cases hlt : k < n
    · have hlt' : (k : Int) < (n : Int) := by omega
      have k0 : (0 : Int) ≤ (k : Int) := by omega
      have hkl : k < l.length := by rw [HN.out]; exact hlt
      obtain ⟨s1, o1, rfl, h1⟩ := (Q1.out.later hb) (by omega)
      obtain ⟨s2, o2, rfl, h2⟩ := (Q4.out.later hb) (by omega)
      obtain ⟨x0, x1, x2, x3, x4, x5, x6, x7⟩ := h1 k hkl
      obtain ⟨z0, z1, z2, z3, z4, z5, z6, z7⟩ := h2 k hkl
      have l1 := (h1 k hkl).lt
      have l2 := (h2 k hkl).lt
      have eqx := fun W => eqNd l[k] l[k] W
      rw [show sameN l[k] l[k] = true from sameN_eq.2 rfl] at eqx
      generalize l[k] = c at *
      obtain ⟨co, ct, cn, ⟨ck, cx, cm, cb⟩, ca⟩ := c
      have eqx' : ∀ W, (Op.equalIn 10000 44 (.agg #[.int .i64 co, .string ⟨ct.toArray⟩, .string ⟨cn.toArray⟩, .int .i64 ck, .int .i64 cx, .int .i64 cm, .string ⟨cb.toArray⟩, .int .i64 ca]) (.agg #[.int .i64 co, .string ⟨ct.toArray⟩, .string ⟨cn.toArray⟩, .int .i64 ck, .int .i64 cx, .int .i64 cm, .string ⟨cb.toArray⟩, .int .i64 ca])).run Tryz.prog W = .ok true W := eqx
      have HBB : Hid (Below w5.heap.size w5 wo) := hb
      clear eqx h1 h2 Q1 Q4 hb
      as_aux_lemma =>
        go_wp2
        go_region
        all_goals go_wp2
        all_goals exact ⟨⟨k + 1, by rw [cst1], by omega, by first | exact HBB.out | exact HBB.out.drew⟩, by simp [intOf]; omega⟩
    · have hlt' : ¬ (k : Int) < (n : Int) := by omega
      have B6 := below_trans B5 hb
      go_wp2_with fail
      refine (KN.out _ B6).mono ?_
      rintro e w7 ⟨rfl, b7⟩
      go_wp2
      go_ret
      exact ⟨rfl, below_trans B6 b7⟩
end Go.Proofs.YtclhmmgdhagloaaGreatDoor

namespace Go.Proofs.YtclhmmgdhagloaaGreatDoor
open Go.RowKit Go.Shelf

theorem esy_row (u : TypeId) (h : Tryz.prog.typeName? 3 u = some "*errors.errorString") : u = 324 :=
  typeName_ptr_named (nm := "errors.errorString") (by rw [show "*" ++ "errors.errorString" = "*errors.errorString" by decide]; kernel_rfl) (by kernel_rfl) (by decide) u (by rw [show "*" ++ "errors.errorString" = "*errors.errorString" by decide]; exact h)
theorem esy_of {W : World} {r : List (String × DataW Unit)} (h : laidMet Tryz.prog (("strconv.ErrSyntax", Rows.laid_strconv_ErrSyntax) :: r) W) : ∃ tp p, Esy W tp p := by
  have h' : laidMet Tryz.prog (("strconv.ErrSyntax", .iface "*errors.errorString" (.ptr (.agg [.lit (.string [105, 110, 118, 97, 108, 105, 100, 32, 115, 121, 110, 116, 97, 120])]))) :: r) W := h
  obtain ⟨a0, s0, hv0, _⟩ := laid_sentinel h' (show Tryz.prog.globalNamed "strconv.ErrSyntax" = some 11 by kernel_rfl) (show (Tryz.prog.globals[11]?).map (·.type) = some 156 by kernel_rfl) Tryz.underlying156 esy_row Tryz.underlying324 Tryz.underlying326 rfl rfl Tryz.underlying9 (by kernel_rfl) (by kernel_rfl)
  exact ⟨_, _, hv0⟩
end Go.Proofs.YtclhmmgdhagloaaGreatDoor

namespace Go.Proofs.YtclhmmgdhagloaaGreatDoor
open Go.ChangeShapes Go.WideShapes Go.ChangeAt Go.WideMaps Go.WideElems Go.RowKit Go.Shelf Go.Lib
open Go.ChangeMaps (open_string shut_string)

set_option maxRecDepth 100000 in
theorem eag_lifted (os : Os) (started : os.Started) (H : Type) (enc : TypeId × Value → H) :
    ReturnsInHanded {} Tryz.checked os 5 .any (fun w args => (Rows.exprAgainSpec.pre enc Tryz.prog Tryz.f5 [] false w args ∧ laidMetH Tryz.prog Rows.exprAgainRow.laid w) ∧ sizedMet enc Tryz.prog Tryz.f5 (OpenSpec.ofChange Rows.exprAgainSpec) false w args)
      (Rows.exprAgainSpec.post enc Tryz.prog Tryz.f5 false true false false) := by
  refine returnsInHanded_of_change_and (C := Tryz.checked) (X := fun w _ => laidMetH Tryz.prog Rows.exprAgainRow.laid w) (fun _ _ _ hh h => h.of_heap hh) own started (by kernel_rfl) Tryz.func5
    (ChangeSpec.witness_shaped (enc := enc) (C := Tryz.checked) (os := os) (X := fun w _ => laidMetH Tryz.prog Rows.exprAgainRow.laid w) false (World.laidAll Tryz.prog os Rows.exprAgainRow.laid) #[.string ⟨#[]⟩] 8 (World.laidAll_os _ _ _)
      (World.shaped_of_ZipB (by kernel_rfl) (by kernel_rfl)) (by kernel_rfl) (by kernel_rfl) (by kernel_rfl)
      (by rw [MakeChecks.laidMetH_plain _ _ _ (by kernel_rfl)]; exact laidMet_laidAll _ (by kernel_rfl) (by kernel_rfl))) ?_
  intro W base args ds gs before hval0 hW _ hsz0 hL _
  have hval : ∀ (j : Nat) t v, Tryz.f5.params[j]? = some t → args[j]? = some v → Value.okWide Tryz.prog W .any base t v := hval0
  have hsz : (DataW.weightsEach Tryz.prog (Tryz.f5.params.toList ++ Rows.exprAgainSpec.plain.varTypes Tryz.prog) (ds ++ gs)).all (· ≤ reachBytes) = true := hsz0
  have hW' := hW
  obtain ⟨p, q, hA0, hV, rfl, hfz, hnd⟩ := hW
  have hA : DataW.TrodAll enc Tryz.prog W 0 (fun _ => true) true Tryz.f5.params.toList args.toList ds p := hA0
  rw [Tryz.params5] at hA hval hsz
  obtain ⟨v0, d0, rfl, rfl, h0⟩ := trodAll_one hA
  obtain ⟨rfl, rfl⟩ := trodVars_none hV
  obtain ⟨s0, rfl, rfl, rfl, w0⟩ := open_string Tryz.underlying9 (hval 0 9 v0 rfl rfl) h0
  have z0 := sized_string hsz (j := 0) (t := 9) rfl rfl
  clear hA0 hval0 hsz0
  rw [MakeChecks.laidMetH_plain _ _ _ (by kernel_rfl)] at hL
  have hT : Tabs W := tabs_of (Lib.laidMet.reads hL (.tail _ (.tail _ (.tail _ (.tail _ (.tail _ (.tail _ (.tail _ (.head _))))))))) (Lib.laidMet.reads hL (.tail _ (.tail _ (.tail _ (.head _)))))
  have hP : Ptab W := ptab6_of (Lib.laidMet.reads hL (.tail _ (.tail _ (.head _))))
  have hS : Sg W := sg_of (Lib.laidMet.reads hL (.tail _ (.tail _ (.tail _ (.tail _ (.tail _ (.tail _ (.head _))))))))
  obtain ⟨_, _, hE⟩ := esy_of hL.tail.tail.tail.tail.tail
  refine (again_all s0 W hT hP hS _ _ hE).mono fun e W' ⟨he, bel⟩ => ?_
  subst he
  exact ⟨_, rfl, _, _, _, [], _, [], hW', trodAll_mk1 (shut_bool Tryz.underlying4 _), trodAll_mk1 (shut_string Tryz.underlying9 w0), rfl, bel.frame _, fun h => by cases h⟩
end Go.Proofs.YtclhmmgdhagloaaGreatDoor

namespace Go.Proofs.YtclhmmgdhagloaaGreatDoor
open Go.ChangeShapes Go.WideShapes Go.ChangeAt Go.WideMaps Go.WideElems Go.RowKit Go.Shelf Go.Lib

theorem eag_b : joinedFacts Tryz.pinned.checked.prog 5 Tryz.f5 Rows.exprAgainSpec Rows.exprAgainRow = true := by kernel_rfl
end Go.Proofs.YtclhmmgdhagloaaGreatDoor
