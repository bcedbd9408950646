/-
  The claim: CodecFirst answers true for every two lists of bytes and every number: a record is read as it was, whatever stands behind it, and cut short it is ErrEnd (its tied card: the program's table of sums lies as the program's text lays it).
-/
import Derived.Test.YtdjilmcpkeckoabDoorFrm
import Derived.Test.YtdjilmcpkeckoabDoorFirstP
import Derived.Test.YtdjilmcpkeckoabDoorLaws2
import Derived.Test.YtdjilmcpkeckoabDoorCards
import Derived.Test.YtdjilmcpkeckoabDoorTie
import Derived.SizedLaws
namespace Go.Proofs.YtdjilmcpkeckoabDoor
open Go.ChangeShapes Go.WideShapes Go.ChangeAt Go.WideMaps Go.WideElems Go.RowKit

set_option maxHeartbeats 1000000 in
theorem first_big (ao ap : Option Addr) (n cap m cq : Nat) (bs : List UInt8) (k : Int) (w : World) (hT : Tab w) (hr : Rd w ao n cap bs) (hb : 1048576 < n) :
    Calls Tryd.prog 3 #[.slice ao n cap, .slice ap m cq, .int .i64 k] w fun e w' => e = .returned (.bool true) ∧ Below w.heap.size w w' := by
  have hm := hr.2.2.1
  have hnc := hr.2.1
  unfold maxLen at hm
  have hb' : (1048576 : Int) < (n : Int) := by omega
  clear hr
  go_enter Tryd.func3, Tryd.ntmps3
  go_wp2_with (first
    | (go_at_call 6; refine (record_big ao n cap _ hb (by omega)).mono ?_; rintro e w' ⟨rfl, rfl⟩)
    | (go_at_call 7; refine (num_any _ _).mono ?_; rintro e w' ⟨rfl, rfl⟩)
    | (go_at_call 8; refine (knows_any _ hT).mono ?_; rintro e w3 ⟨rfl, b3⟩))
  go_ret
  exact ⟨rfl, b3⟩

theorem turn_index (k : Int) (n : Nat) (hn : 0 < n) : ∃ (q : Int) (j : Nat), k.tmod (n : Int) = q ∧ -(n : Int) < q ∧ q < (n : Int) ∧ (q + (n : Int)).tmod (n : Int) = (j : Int) ∧ (q + (n : Int)) % (n : Int) = (j : Int) ∧ j < n := by
  have h1 := Int.tmod_lt_of_pos k (show (0 : Int) < (n : Int) by omega)
  have h2 : -(n : Int) < k.tmod (n : Int) := by
    have := Int.tmod_lt_of_pos (-k) (show (0 : Int) < (n : Int) by omega)
    rw [Int.neg_tmod] at this
    omega
  have h3 := Int.emod_nonneg (k.tmod (n : Int) + (n : Int)) (show (n : Int) ≠ 0 by omega)
  have h4 := Int.emod_lt_of_pos (k.tmod (n : Int) + (n : Int)) (show (0 : Int) < (n : Int) by omega)
  have h5 := Int.tmod_eq_emod_of_nonneg (b := (n : Int)) (show 0 ≤ k.tmod (n : Int) + (n : Int) by omega)
  refine ⟨_, ((k.tmod (n : Int) + (n : Int)) % (n : Int)).toNat, rfl, by omega, h1, ?_, ?_, by omega⟩
  · rw [h5]; omega
  · omega

set_option maxHeartbeats 600000 in
theorem first_fits (ao ap : Option Addr) (n cap m cq : Nat) (bs more : List UInt8) (k : Int) (w : World) (hT : Tab w) (hr : Rd w ao n cap bs) (hr2 : Rd w ap m cq more) (hb : n ≤ 1048576) (hm : m ≤ 140737488355328) :
    Calls Tryd.prog 3 #[.slice ao n cap, .slice ap m cq, .int .i64 k] w fun e w' => e = .returned (.bool true) ∧ Below w.heap.size w w' := by
  have hln := hr.1
  have hnl := numBytes_len (n : Int)
  have hrl : (recBytes bs).length = (numBytes (n : Int)).length + n + 8 := by simp [recBytes, eight_length, hln]; omega
  have HREAD : Hid (takeR (recBytes bs ++ more) = (bs, (recBytes bs).length, 0)) := rec_read bs more (by omega)
  have HCUT : Hid (∀ c, c < (recBytes bs).length → takeR ((recBytes bs).take c) = ([], 0, 20)) := fun c hc => rec_cut bs (by omega) c hc
  generalize (numBytes (n : Int)).length = hd at hnl hrl
  have Hhr := record_fits ao n cap bs w hT hr hb
  generalize recBytes bs = R at hrl HREAD HCUT Hhr
  have HREC : Hid (Calls Tryd.prog 6 #[.slice ao n cap] w fun e w' => ∃ v', e = .returned (.tuple #[v', .int .i64 0]) ∧ Own w' w.heap.size v' R ∧ Below w.heap.size w w') := Hhr
  obtain ⟨q, j, hq, hq0, hq1, hj1, hj2, hjn⟩ := turn_index k R.length (by omega)
  have HRL : Hid (R.length = hd + n + 8) := hrl
  have h9 : ¬ (R.length : Int) < (n : Int) + 9 := by omega
  have hbd : (R.length : Int) ≤ 2000000 := by omega
  have hbd' : R.length ≤ 2000000 := by omega
  have hmm := hr2.2.1
  have hmx := hr2.2.2.1
  obtain ⟨i0, hi, hz0, hz1, hz2⟩ := info_parts Tryd.info5
  have HN : Hid (bs.length = n) := hln
  have HT : Hid (Tab w) := hT
  clear Hhr hrl hln hnl hT
  go_enter Tryd.func3, Tryd.ntmps3
  go_wp2_with fail
  refine HREC.out.mono ?_
  rintro e w1 ⟨v1, rfl, ho1, b1⟩
  have z1 := b1.size
  obtain ⟨g, c1, u1, rfl, hg, lt1, hk1, R1⟩ := own_block ho1 (by intro h; rw [h] at hjn; simp at hjn)
  have hrr := R1 w1 hk1
  clear ho1
  have A1 : Below w1.heap.size w1 (w1.alloc (.cells #[] 5)) := (Below.refl _ _).alloc (Nat.le_refl _) _
  have hmade := own_made (base := w.heap.size) w1 #[] 0 z1 (by decide) rfl
  have BA := b1.trans (A1.mono z1)
  have zA : w1.heap.size + 1 = (w1.alloc (.cells #[] 5)).heap.size := by simp
  have hra := hrr.later A1
  go_wp2_with (first
    | (go_at_call 7; refine (num_any _ _).mono ?_; rintro e w' ⟨rfl, rfl⟩)
    | (at_builtin; refine wpList_append_from rfl (.tmp 43) (.tmp 44) 22 22 rfl w1.heap.size 5 i0 (.int .u8 0) 1 1 Tryd.underlying22 hi hz0 hz1 hz2 rfl _ 0 [] rfl (own_made (base := w1.heap.size) w1 #[] 0 (Nat.le_refl _) (by decide) rfl) _ R.length (bv R) rfl (src_of_rd Tryd.underlying22 hra) (by unfold maxLen; omega) (by omega) (by omega) ?_))
  intro v2 w2 ho2 hgrow2
  have hO2 : Own w2 w1.heap.size v2 R := own_of ho2
  have b2 : Below w1.heap.size w1 w2 := A1.grown hgrow2 (by omega) (fun k hk => by cases hk; exact Nat.le_refl _)
  have z2 := b2.size
  have hmo := hr2.later (b1.trans (b2.mono z1))
  have hrr2 := hrr.later b2
  clear ho2 hgrow2 hmade hra A1 BA zA
  go_wp2_with (at_builtin; refine wpList_append_wide rfl (.tmp 45) (.tmp 46) 22 22 rfl w1.heap.size 5 i0 (.int .u8 0) 1 1 Tryd.underlying22 hi hz0 hz1 hz2 rfl _ _ _ rfl hO2 _ m (bv more) rfl (src_of_rd Tryd.underlying22 hmo) (by unfold maxLen; omega) (wide_fits (by omega)) (by omega) ?_)
  intro v3 w3 ho3 hgrow3
  have hO3 : Own w3 w1.heap.size v3 (R ++ more) := own_append ho3
  have b3 : Below w1.heap.size w1 w3 := b2.grown hgrow3 (by omega) (fun k hk => (World.ownsRow.lt hO2 k hk).1)
  have z3 := b3.size
  have B3 := b1.trans (b3.mono z1)
  have Z3 := B3.size
  have T3 := HT.out.later B3 HT.out.pos
  obtain ⟨a3, c3, rfl, hr3, _⟩ := hO3.rd
  have hrr3 := hrr.later b3
  have hrb3 := hr.later B3
  have HU1 : Hid (Calls Tryd.prog 9 #[.slice a3 (R ++ more).length c3] w3 fun e w' => ∃ a c, e = .returned (.tuple #[.slice a bs.length c, .int .i64 (R.length : Int), .int .i64 0]) ∧ Rd w' a bs.length c bs ∧ Below w3.heap.size w3 w') := by
    refine (unrecord_any _ _ _ _ _ T3 hr3).mono ?_
    rintro e w4 ⟨v, rfl, ho, b4⟩
    rw [HREAD.out] at ho ⊢
    obtain ⟨a, c, rfl, hra, _⟩ := ho.rd
    exact ⟨a, c, rfl, hra, b4⟩
  clear ho3 hgrow3 hO3 hO2 hmo hrr2 hr3 T3
  generalize (R ++ more).length = L3 at HU1 ⊢
  go_wp2_with fail
  refine HU1.out.mono ?_
  rintro e w4 ⟨a4, c4, rfl, hr4, b4⟩
  have z4 := b4.size
  have B4 := B3.trans (b4.mono Z3)
  have hrr4 := hrr3.later b4
  have hrb4 := hrb3.later b4
  have T4 := HT.out.later B4 HT.out.pos
  have hcut := hrr4.cut 0 j (by omega)
  simp only [List.drop_zero, Nat.add_zero, Nat.sub_zero] at hcut
  have HU2 : Hid (Calls Tryd.prog 9 #[.slice (some ⟨g, 0, none⟩) j c1] w4 fun e w' => ∃ a c, e = .returned (.tuple #[.slice a 0 c, .int .i64 0, .int .i64 20]) ∧ Below w4.heap.size w4 w') := by
    refine (unrecord_any _ _ _ _ _ T4 hcut).mono ?_
    rintro e w5 ⟨v, rfl, ho, b5⟩
    rw [HCUT.out j hjn] at ho ⊢
    obtain ⟨a, c, rfl, _, _⟩ := ho.rd
    exact ⟨a, c, rfl, b5⟩
  have hjc : (j : Int) ≤ (c1 : Int) := by have := hrr4.2.1; omega
  have hj0 : (0 : Int) ≤ (j : Int) := by omega
  clear HU1 HREC HCUT hcut hrr hrr3 hrr4 hrb3 R1 hk1 T4
  generalize bs.length = lb at hr4
  go_wp2_with fail
  refine HU2.out.mono ?_
  rintro e w5 ⟨a5, c5, rfl, b5⟩
  have B5 := B4.trans (b5.mono (by have := B4.size; omega))
  have Z5 := B5.size
  have T5 := HT.out.later B5 HT.out.pos
  have q1 := run_string_of (P := Tryd.prog) 22 9 5 Tryd.underlying22 Tryd.underlying5 Tryd.underlying9 (hr4.later b5)
  have q2 := run_string_of (P := Tryd.prog) 22 9 5 Tryd.underlying22 Tryd.underlying5 Tryd.underlying9 (hrb4.later b5)
  clear HU2 HREAD hr hr2 hr4 hrb4 b1 b2 b3 b4 b5 B3 B4
  go_wp2_with (first
    | (go_at_call 7; refine (num_any _ _).mono ?_; rintro e w' ⟨rfl, rfl⟩)
    | (go_at_call 8; refine (knows_any _ T5).mono ?_; rintro e w6 ⟨rfl, b6⟩))
  go_ret
  exact ⟨rfl, B5.trans (b6.mono Z5)⟩

theorem first_walk (ao ap : Option Addr) (n cap m cq : Nat) (bs more : List UInt8) (k : Int) (w : World) (hT : Tab w) (hr : Rd w ao n cap bs) (hr2 : Rd w ap m cq more) (hm : cq ≤ 140737488355328) :
    Calls Tryd.prog 3 #[.slice ao n cap, .slice ap m cq, .int .i64 k] w fun e w' => e = .returned (.bool true) ∧ Below w.heap.size w w' := by
  by_cases hb : n ≤ 1048576
  · exact first_fits ao ap n cap m cq bs more k w hT hr hr2 hb (by have := hr2.2.1; omega)
  · exact first_big ao ap n cap m cq bs k w hT hr (by omega)

set_option maxRecDepth 100000 in
theorem first_lifted (os : Os) (started : os.Started) (H : Type) (enc : TypeId × Value → H) :
    ReturnsInHanded {} Tryd.checked os 3 .any (fun w args => (Rows.codecFirstSpec.pre enc Tryd.prog Tryd.f3 [] false w args ∧ laidMetH Tryd.prog laid1 w) ∧ sizedMet enc Tryd.prog Tryd.f3 (OpenSpec.ofChange Rows.codecFirstSpec) false w args)
      (Rows.codecFirstSpec.post enc Tryd.prog Tryd.f3 false true false false) := by
  refine returnsInHanded_of_change_and (C := Tryd.checked) (X := fun w _ => laidMetH Tryd.prog laid1 w) (fun _ _ _ hh h => h.of_heap hh) own started (by kernel_rfl) Tryd.func3
    (ChangeSpec.witness_shaped (enc := enc) (C := Tryd.checked) (os := os) (X := fun w _ => laidMetH Tryd.prog laid1 w) false (World.doorLaid Tryd.prog 14 os) #[.slice none 0 0, .slice none 0 0, .int .i64 0] 8 rfl (World.shaped_of_RefB (by kernel_rfl) (by kernel_rfl)) (by kernel_rfl) (by kernel_rfl) (by kernel_rfl) (door_met os _)) ?_
  intro W base args ds gs before hval0 hW _ hsz0 hL _
  have hval : ∀ (j : Nat) t v, Tryd.f3.params[j]? = some t → args[j]? = some v → Value.okWide Tryd.prog W .any base t v := hval0
  have hsz : (DataW.weightsEach Tryd.prog (Tryd.f3.params.toList ++ Rows.codecFirstSpec.plain.varTypes Tryd.prog) (ds ++ gs)).all (· ≤ reachBytes) = true := hsz0
  have hW' := hW
  obtain ⟨p, q, hA0, hV, rfl, hfz, hnd⟩ := hW
  have hA : DataW.TrodAll enc Tryd.prog W 0 (fun _ => true) true Tryd.f3.params.toList args.toList ds p := hA0
  rw [Tryd.params3] at hA hval hsz
  obtain ⟨v0, v1, v2, d0, d1, d2, p0, p1, p2, rfl, rfl, rfl, h0, h1, h2⟩ := trodAll_three hA
  obtain ⟨rfl, rfl⟩ := trodVars_none hV
  obtain ⟨x0, n0, c0, rfl⟩ := okWide_slice Tryd.underlying22 (hval 0 22 v0 rfl rfl)
  have k0 := h0
  have lt0 : ∀ x ∈ p0, x.block < W.heap.size := by obtain ⟨m, hm⟩ := k0; exact DataW.trod_lt m _ _ _ hm
  obtain ⟨f0, hf0⟩ := h0
  obtain ⟨g0, r0, e0⟩ := rd_open (a := x0) (len := n0) (cap := c0) hf0 (by simp [Value.cells])
  have z0 : c0 * Tryd.prog.bytesOf 5 ≤ 140737488351232 := by
    rcases e0 with h | ⟨es, sp, hd, hl⟩
    · rw [h]; simp
    · have hd0 : d0 = .slice es sp := hd
      rw [← hl]; exact sized_slice hsz (j := 0) (t := 22) (e := 5) rfl (by simp [hd0]) Tryd.underlying22
  obtain ⟨x1, n1, c1, rfl⟩ := okWide_slice Tryd.underlying22 (hval 1 22 v1 rfl rfl)
  have k1 := h1
  have lt1 : ∀ x ∈ p1, x.block < W.heap.size := by obtain ⟨m, hm⟩ := k1; exact DataW.trod_lt m _ _ _ hm
  obtain ⟨f1, hf1⟩ := h1
  obtain ⟨g1, r1, e1⟩ := rd_open (a := x1) (len := n1) (cap := c1) hf1 (by simp [Value.cells])
  have z1 : c1 * Tryd.prog.bytesOf 5 ≤ 140737488351232 := by
    rcases e1 with h | ⟨es, sp, hd, hl⟩
    · rw [h]; simp
    · have hd0 : d1 = .slice es sp := hd
      rw [← hl]; exact sized_slice hsz (j := 1) (t := 22) (e := 5) rfl (by simp [hd0]) Tryd.underlying22
  obtain ⟨a2, rfl, rfl, rfl, w2⟩ := open_int Tryd.underlying3 (hval 2 3 v2 rfl rfl) h2
  have b2 := bounds_i64 w2
  clear hA0 hval0 hsz0
  refine (first_walk x0 x1 n0 c0 n1 c1 g0 g1 a2 W (tab_of_laid hL) r0 r1 (by rw [bytes1] at z1; omega)).mono fun e W' ⟨he, bel⟩ => ?_
  subst he
  exact ⟨_, rfl, _, _, _, [], _, [], hW', trodAll_mk1 (shut_bool Tryd.underlying4 _), trodAll_mk3 (Below.trod laidOut (by kernel_rfl) (of_decide_eq_true (by kernel_rfl)) k0 bel lt0) (Below.trod laidOut (by kernel_rfl) (of_decide_eq_true (by kernel_rfl)) k1 bel lt1) (shut_int Tryd.underlying3 w2), rfl, bel.frame _, fun h => by cases h⟩

theorem first_said : Rows.CodecFirstSaid :=
  OpenClaim.holds_of_wide 3 Tryd.f3 rfl rfl rfl rfl rfl rfl rfl ⟨rfl, rfl, rfl, rfl, rfl⟩ rfl rfl rfl rfl rfl (by kernel_rfl) Tryd.func3 (by kernel_rfl)
    (of_decide_eq_true (by kernel_rfl)) (by unfold Func.isWrapper; first | (rw [if_pos (by decide +kernel)]; kernel_rfl) | (rw [if_neg (by decide +kernel)]; exact ⟨rfl, rfl⟩))
    (fun os started H enc _ => first_lifted os started H enc)

theorem codecFirst_holds : Rows.CodecFirstCardSaid :=
  Claim7.holds_tied_plain_at .later [] [.data] true _ false
    first_said (fun _ h => by cases h) (by kernel_rfl) (fun _ h => by cases h) codecFirst_row_tie rfl ⟨rfl, rfl⟩ (by kernel_rfl) rfl
    (fun f fn hf hfn => by
      obtain rfl : f = 3 := Option.some.inj ((show Tryd.prog.funcNamed Tryd.f3.name = some 3 by kernel_rfl).symm.trans hf) |>.symm
      obtain rfl : fn = Tryd.f3 := (Option.some.inj (Tryd.func3.symm.trans hfn)).symm
      exact ⟨by kernel_rfl, fun j t ht => by
        rw [Tryd.params3] at ht
        have hm : t ∈ [22, 22, 3] := by simpa using Array.mem_of_getElem? ht
        have hall : ([22, 22, 3].all fun u => !Tryd.prog.wantsStandIn u) = true := by kernel_rfl
        exact (show Tryd.prog.wantsStandIn t = false by simpa using List.all_eq_true.1 hall t hm)⟩)
    (by kernel_rfl)
#print axioms codecFirst_holds
end Go.Proofs.YtdjilmcpkeckoabDoor
