/-
  The claim: CodecRot answers true for every list of bytes, every place and every byte: a record with one byte behind its length that is another one is told by its sum (its tied card: the program's table of sums lies as the program's text lays it).
-/
import Derived.Test.YtdjilmcpkeckoabDoorFrm
import Derived.Test.YtdjilmcpkeckoabDoorRotP
import Derived.Test.YtdjilmcpkeckoabDoorCards
import Derived.Test.YtdjilmcpkeckoabDoorTie
import Derived.SizedLaws
namespace Go.Proofs.YtdjilmcpkeckoabDoor
open Go.ChangeShapes Go.WideShapes Go.ChangeAt Go.WideMaps Go.WideElems Go.RowKit
open Go.ChangeMaps (open_string shut_string)

set_option maxHeartbeats 1000000 in
theorem rot_big (ao : Option Addr) (n cap : Nat) (bs : List UInt8) (k : Int) (x : Int) (w : World) (hT : Tab w) (hr : Rd w ao n cap bs) (hb : 1048576 < n) :
    Calls Tryd.prog 4 #[.slice ao n cap, .int .i64 k, .int .u8 x] w fun e w' => e = .returned (.bool true) ∧ Below w.heap.size w w' := by
  have hm := hr.2.2.1
  have hnc := hr.2.1
  unfold maxLen at hm
  clear hr
  go_enter Tryd.func4, Tryd.ntmps4
  go_wp2_with (first
    | (go_at_call 6; refine (record_big ao n cap _ hb (by omega)).mono ?_; rintro e w' ⟨rfl, rfl⟩)
    | (go_at_call 7; refine (num_any _ _).mono ?_; rintro e w' ⟨rfl, rfl⟩)
    | (go_at_call 8; refine (knows_any _ hT).mono ?_; rintro e w3 ⟨rfl, b3⟩))
  go_ret
  exact ⟨rfl, b3⟩

set_option maxHeartbeats 1000000 in
theorem rot_zero (ao : Option Addr) (n cap : Nat) (bs : List UInt8) (k : Int) (w : World) (hT : Tab w) (hr : Rd w ao n cap bs) (hb : n ≤ 1048576) :
    Calls Tryd.prog 4 #[.slice ao n cap, .int .i64 k, .int .u8 0] w fun e w' => e = .returned (.bool true) ∧ Below w.heap.size w w' := by
  go_enter Tryd.func4, Tryd.ntmps4
  go_wp2_with fail
  refine (record_fits ao n cap bs _ hT hr hb).mono ?_
  rintro e w1 ⟨v1, rfl, ho1, b1⟩
  have T1 := hT.later b1 hT.pos
  have z1 := b1.size
  clear ho1 hr hT
  go_wp2_with (first
    | (go_at_call 7; refine (num_any _ _).mono ?_; rintro e w' ⟨rfl, rfl⟩)
    | (go_at_call 8; refine (knows_any _ T1).mono ?_; rintro e w3 ⟨rfl, b3⟩))
  go_ret
  exact ⟨rfl, b1.trans (b3.mono z1)⟩

/-- One byte of a row of the call's own is written. -/
theorem own_store {w : World} {base g cap : Nat} {bs : List UInt8} (hown : Own w base (.slice (some ⟨g, 0, none⟩) bs.length cap) bs) (j : Nat) (y : UInt8) :
    Own (w.setCell ⟨g, j, none⟩ (.int .u8 (y.toNat : Int))) base (.slice (some ⟨g, 0, none⟩) bs.length cap) (bs.set j y) := by
  obtain ⟨h1, h2⟩ := hown
  rcases h2 with ⟨hv, _⟩ | ⟨g', cap', cur', hv, hb, hg', hnc, hcm, hcs, htake⟩
  · cases hv
  · cases hv
    refine ⟨by simp [bv], .inr ⟨g, cap, _, by simp, hb, row_setCell hg', by simpa using hnc, hcm, by simpa using hcs, ?_⟩⟩
    have e : (cur'.setIfInBounds j (.int .u8 (y.toNat : Int))).toList = cur'.toList.set j (.int .u8 (y.toNat : Int)) := by simp
    rw [e, List.length_set, List.take_set, htake]
    simp [bv, List.map_set]

theorem rot_index (k : Int) (n : Nat) : ∃ (q : Int) (j : Nat), k.tmod ((n : Int) + 8) = q ∧ -((n : Int) + 8) < q ∧ q < (n : Int) + 8 ∧ (q + (n : Int) + 8).tmod ((n : Int) + 8) = (j : Int) ∧ (q + (n : Int) + 8) % ((n : Int) + 8) = (j : Int) ∧ j < n + 8 := by
  have h1 := Int.tmod_lt_of_pos k (show (0 : Int) < (n : Int) + 8 by omega)
  have h2 : -((n : Int) + 8) < k.tmod ((n : Int) + 8) := by
    have := Int.tmod_lt_of_pos (-k) (show (0 : Int) < (n : Int) + 8 by omega)
    rw [Int.neg_tmod] at this
    omega
  have h3 := Int.emod_nonneg (k.tmod ((n : Int) + 8) + (n : Int) + 8) (show ((n : Int) + 8) ≠ 0 by omega)
  have h4 := Int.emod_lt_of_pos (k.tmod ((n : Int) + 8) + (n : Int) + 8) (show (0 : Int) < (n : Int) + 8 by omega)
  have h5 := Int.tmod_eq_emod_of_nonneg (b := (n : Int) + 8) (show 0 ≤ k.tmod ((n : Int) + 8) + (n : Int) + 8 by omega)
  refine ⟨_, ((k.tmod ((n : Int) + 8) + (n : Int) + 8) % ((n : Int) + 8)).toNat, rfl, by omega, h1, ?_, ?_, by omega⟩
  · rw [h5]; omega
  · omega

theorem xor_byte (a x : UInt8) : bits .xor .u8 (a.toNat : Int) (x.toNat : Int) = ((a ^^^ x).toNat : Int) := by
  rw [u8_xor_nat _ _ a.toNat_lt x.toNat_lt, UInt8.toNat_xor]
theorem xor_ne (a x : UInt8) (hx : x.toNat ≠ 0) : a ^^^ x ≠ a := by
  intro h
  have h2 : a ^^^ (a ^^^ x) = a ^^^ a := by rw [h]
  rw [← UInt8.xor_assoc, UInt8.xor_self, UInt8.zero_xor] at h2
  rw [h2] at hx
  exact hx rfl

set_option maxHeartbeats 1000000 in
theorem rot_one (ao : Option Addr) (n cap : Nat) (bs : List UInt8) (k : Int) (x : UInt8) (w : World) (hT : Tab w) (hr : Rd w ao n cap bs) (hb : n ≤ 1048576) (hx : x.toNat ≠ 0) :
    Calls Tryd.prog 4 #[.slice ao n cap, .int .i64 k, .int .u8 (x.toNat : Int)] w fun e w' => e = .returned (.bool true) ∧ Below w.heap.size w w' := by
  have hln := hr.1
  obtain ⟨q, j, hq, hq0, hq1, hj1, hj2, hjn⟩ := rot_index k n
  have hxe : ((x.toNat : Int) == 0) = false := by simp; omega
  have hnl := numBytes_len (n : Int)
  have hrl : (recBytes bs).length = (numBytes (n : Int)).length + n + 8 := by simp [recBytes, eight_length, hln]; omega
  have HROT : Hid (∀ y : UInt8, (∀ h : (numBytes (n : Int)).length + j < (recBytes bs).length, y ≠ (recBytes bs)[(numBytes (n : Int)).length + j]) → takeR ((recBytes bs).set ((numBytes (n : Int)).length + j) y) = ([], 0, 22)) := by
    intro y hy
    have := rec_rot bs (by omega) j (by omega) y
    rw [hln] at this
    exact this hy
  generalize (numBytes (n : Int)).length = hd at hnl hrl HROT
  have Hhr := record_fits ao n cap bs w hT hr hb
  generalize recBytes bs = R at hrl HROT Hhr
  have HREC : Hid (Calls Tryd.prog 6 #[.slice ao n cap] w fun e w' => ∃ v', e = .returned (.tuple #[v', .int .i64 0]) ∧ Own w' w.heap.size v' R ∧ Below w.heap.size w w') := Hhr
  have hidx : hd + j < R.length := by omega
  have HY : Hid (takeR (R.set (hd + j) (R[hd + j] ^^^ x)) = ([], 0, 22)) := HROT.out _ (fun _ => xor_ne _ _ hx)
  have ex := xor_byte R[hd + j] x
  generalize hold : R[hd + j] = old at ex HY
  generalize old ^^^ x = y at ex HY
  have HRL : Hid (R.length = hd + n + 8) := hrl
  have hsub : (R.length : Int) - (n : Int) - 8 = (hd : Int) := by omega
  have hi1 : (hd : Int) + (j : Int) < (R.length : Int) := by omega
  have hd1 : ¬ (hd : Int) < 1 := by omega
  have hbd : (R.length : Int) ≤ 2000000 := by omega
  have HT : Hid (Tab w) := hT
  clear HROT Hhr hrl hln hr
  go_enter Tryd.func4, Tryd.ntmps4
  go_wp2_with fail
  refine HREC.out.mono ?_
  rintro e w1 ⟨v1, rfl, ho1, b1⟩
  have T1 := hT.later b1 hT.pos
  have z1 := b1.size
  obtain ⟨g, c1, u1, rfl, hg, lt1, hk1, R1⟩ := own_block ho1 (by intro h; rw [h] at hidx; simp at hidx)
  have hcell : w1.cell? ⟨g, hd + j, none⟩ = some (.int .u8 (old.toNat : Int)) := by
    obtain ⟨_, _, _, _, h5⟩ := R1 w1 hk1
    obtain ⟨b', off', hao, hc⟩ := h5 (by omega)
    cases hao
    have := hc (hd + j) hidx
    rw [hold, Nat.zero_add] at this
    exact this
  have hfz : w1.frozen? ⟨g, hd + j, none⟩ = false := rCells_free hk1 _
  have hO2 := own_store ho1 (hd + j) y
  have B2 : Below w.heap.size w (w1.setCell ⟨g, hd + j, none⟩ (.int .u8 (y.toNat : Int))) := b1.setCell (p := ⟨g, hd + j, none⟩) hg _
  have T2 := hT.later B2 hT.pos
  have z2 := B2.size
  have hR2 : Rd (w1.setCell ⟨g, hd + j, none⟩ (.int .u8 (y.toNat : Int))) (some ⟨g, 0, none⟩) R.length c1 (R.set (hd + j) y) := by
    obtain ⟨a', c', hv, h2, _⟩ := hO2.rd
    simp at hv
    obtain ⟨rfl, rfl⟩ := hv
    simpa using h2
  have HU : Hid (Calls Tryd.prog 9 #[.slice (some ⟨g, 0, none⟩) R.length c1] (w1.setCell ⟨g, hd + j, none⟩ (.int .u8 (y.toNat : Int))) fun e w' => ∃ a c, e = .returned (.tuple #[.slice a 0 c, .int .i64 0, .int .i64 22]) ∧ Below w.heap.size w w') := by
    refine (unrecord_any _ _ _ _ _ T2 hR2).mono ?_
    rintro e w3 ⟨v, rfl, ho, b3⟩
    rw [HY.out] at ho ⊢
    obtain ⟨a, c, rfl, _, _⟩ := ho.rd
    exact ⟨a, c, rfl, B2.trans (b3.mono z2)⟩
  clear R1 hO2 hR2 ho1 hT T1 T2 hk1 hold B2 z2 b1
  go_wp2_with (first
    | (go_at_call 7; refine (num_any _ _).mono ?_; rintro e w' ⟨rfl, rfl⟩)
    | (go_at_call 9; refine HU.out.mono ?_; rintro e w3 ⟨a3, c3, rfl, b3⟩))
  refine (knows_any _ (HT.out.later b3 HT.out.pos)).mono ?_
  rintro e w4 ⟨rfl, b4⟩
  have z3 := b3.size
  go_wp2
  go_ret
  exact ⟨rfl, b3.trans (b4.mono z3)⟩

theorem rot_walk (ao : Option Addr) (n cap : Nat) (bs : List UInt8) (k x : Int) (w : World) (hT : Tab w) (hr : Rd w ao n cap bs) (hx0 : 0 ≤ x) (hx1 : x ≤ 255) :
    Calls Tryd.prog 4 #[.slice ao n cap, .int .i64 k, .int .u8 x] w fun e w' => e = .returned (.bool true) ∧ Below w.heap.size w w' := by
  by_cases hb : n ≤ 1048576
  · obtain ⟨y, hy⟩ : ∃ y : UInt8, (y.toNat : Int) = x := ⟨UInt8.ofNat x.toNat, by rw [UInt8.toNat_ofNat']; omega⟩
    by_cases hz : x = 0
    · subst hz; exact rot_zero ao n cap bs k w hT hr hb
    · rw [← hy]; exact rot_one ao n cap bs k y w hT hr hb (by omega)
  · exact rot_big ao n cap bs k x w hT hr (by omega)

set_option maxRecDepth 100000 in
theorem rot_lifted (os : Os) (started : os.Started) (H : Type) (enc : TypeId × Value → H) :
    ReturnsInHanded {} Tryd.checked os 4 .any (fun w args => (Rows.codecRotSpec.pre enc Tryd.prog Tryd.f4 [] false w args ∧ laidMetH Tryd.prog laid1 w) ∧ sizedMet enc Tryd.prog Tryd.f4 (OpenSpec.ofChange Rows.codecRotSpec) false w args)
      (Rows.codecRotSpec.post enc Tryd.prog Tryd.f4 false true false false) := by
  refine returnsInHanded_of_change_and (C := Tryd.checked) (X := fun w _ => laidMetH Tryd.prog laid1 w) (fun _ _ _ hh h => h.of_heap hh) own started (by kernel_rfl) Tryd.func4
    (ChangeSpec.witness_shaped (enc := enc) (C := Tryd.checked) (os := os) (X := fun w _ => laidMetH Tryd.prog laid1 w) false (World.doorLaid Tryd.prog 14 os) #[.slice none 0 0, .int .i64 0, .int .u8 0] 8 rfl (World.shaped_of_RefB (by kernel_rfl) (by kernel_rfl)) (by kernel_rfl) (by kernel_rfl) (by kernel_rfl) (door_met os _)) ?_
  intro W base args ds gs before hval0 hW _ hsz0 hL _
  have hval : ∀ (j : Nat) t v, Tryd.f4.params[j]? = some t → args[j]? = some v → Value.okWide Tryd.prog W .any base t v := hval0
  have hsz : (DataW.weightsEach Tryd.prog (Tryd.f4.params.toList ++ Rows.codecRotSpec.plain.varTypes Tryd.prog) (ds ++ gs)).all (· ≤ reachBytes) = true := hsz0
  have hW' := hW
  obtain ⟨p, q, hA0, hV, rfl, hfz, hnd⟩ := hW
  have hA : DataW.TrodAll enc Tryd.prog W 0 (fun _ => true) true Tryd.f4.params.toList args.toList ds p := hA0
  rw [Tryd.params4] at hA hval hsz
  obtain ⟨v0, v1, v2, d0, d1, d2, p0, p1, p2, rfl, rfl, rfl, h0, h1, h2⟩ := trodAll_three hA
  obtain ⟨rfl, rfl⟩ := trodVars_none hV
  obtain ⟨x0, n0, c0, rfl⟩ := okWide_slice Tryd.underlying22 (hval 0 22 v0 rfl rfl)
  have k0 := h0
  have lt0 : ∀ x ∈ p0, x.block < W.heap.size := by obtain ⟨m, hm⟩ := k0; exact DataW.trod_lt m _ _ _ hm
  obtain ⟨f0, hf0⟩ := h0
  obtain ⟨g0, r0, e0⟩ := rd_open (a := x0) (len := n0) (cap := c0) hf0 (by simp [Value.cells])
  have z0 : c0 * Tryd.prog.bytesOf 5 ≤ 140737488351232 := by
    rcases e0 with h | ⟨es, sp, hd, hl⟩
    · rw [h]; simp
    · have hd0 : d0 = .slice es sp := hd
      rw [← hl]; exact sized_slice hsz (j := 0) (t := 22) (e := 5) rfl (by simp [hd0]) Tryd.underlying22
  obtain ⟨a1, rfl, rfl, rfl, w1⟩ := open_int Tryd.underlying3 (hval 1 3 v1 rfl rfl) h1
  have b1 := bounds_i64 w1
  obtain ⟨a2, rfl, rfl, rfl, w2⟩ := open_int Tryd.underlying5 (hval 2 5 v2 rfl rfl) h2
  have b2 := bounds_u8 w2
  clear hA0 hval0 hsz0
  refine (rot_walk x0 n0 c0 g0 a1 a2 W (tab_of_laid hL) r0 b2.1 b2.2).mono fun e W' ⟨he, bel⟩ => ?_
  subst he
  exact ⟨_, rfl, _, _, _, [], _, [], hW', trodAll_mk1 (shut_bool Tryd.underlying4 _), trodAll_mk3 (Below.trod laidOut (by kernel_rfl) (of_decide_eq_true (by kernel_rfl)) k0 bel lt0) (shut_int Tryd.underlying3 w1) (shut_int Tryd.underlying5 w2), rfl, bel.frame _, fun h => by cases h⟩

theorem rot_said : Rows.CodecRotSaid :=
  OpenClaim.holds_of_wide 4 Tryd.f4 rfl rfl rfl rfl rfl rfl rfl ⟨rfl, rfl, rfl, rfl, rfl⟩ rfl rfl rfl rfl rfl (by kernel_rfl) Tryd.func4 (by kernel_rfl)
    (of_decide_eq_true (by kernel_rfl)) (by unfold Func.isWrapper; first | (rw [if_pos (by decide +kernel)]; kernel_rfl) | (rw [if_neg (by decide +kernel)]; exact ⟨rfl, rfl⟩))
    (fun os started H enc _ => rot_lifted os started H enc)

theorem codecRot_holds : Rows.CodecRotCardSaid :=
  Claim7.holds_tied_plain_at .later [] [.data] true _ false
    rot_said (fun _ h => by cases h) (by kernel_rfl) (fun _ h => by cases h) codecRot_row_tie rfl ⟨rfl, rfl⟩ (by kernel_rfl) rfl
    (fun f fn hf hfn => by
      obtain rfl : f = 4 := Option.some.inj ((show Tryd.prog.funcNamed Tryd.f4.name = some 4 by kernel_rfl).symm.trans hf) |>.symm
      obtain rfl : fn = Tryd.f4 := (Option.some.inj (Tryd.func4.symm.trans hfn)).symm
      exact ⟨by kernel_rfl, fun j t ht => by
        rw [Tryd.params4] at ht
        have hm : t ∈ [22, 3, 5] := by simpa using Array.mem_of_getElem? ht
        have hall : ([22, 3, 5].all fun u => !Tryd.prog.wantsStandIn u) = true := by kernel_rfl
        exact (show Tryd.prog.wantsStandIn t = false by simpa using List.all_eq_true.1 hall t hm)⟩)
    (by kernel_rfl)
#print axioms codecRot_holds
end Go.Proofs.YtdjilmcpkeckoabDoor
