/-
  The claim: CodecRecords answers true for every list of bytes: Unrecord tells of any bytes what the document's answer tells, gives new memory, and leaves the bytes that were handed in as they were (its tied card: the program's table of sums lies as the program's text lays it).
-/
import Derived.Test.YtdjilmcpkeckoaaDoorFrm
import Derived.Test.YtdjilmcpkeckoaaDoorRef5
import Derived.Test.YtdjilmcpkeckoaaDoorLent
import Derived.Test.YtdjilmcpkeckoaaDoorCards
import Derived.Test.YtdjilmcpkeckoaaDoorTie
import Derived.SizedLaws
namespace Go.Proofs.YtdjilmcpkeckoaaDoor
open Go.ChangeShapes Go.WideShapes Go.ChangeAt Go.WideMaps Go.WideElems Go.RowKit

/-- What a block holds is not asked: a row of bytes of the call's own, whatever they are. -/
def Row (w : World) (g n : Nat) : Prop := ∃ cur : Array Value, w.heap[g]? = some (.cells cur 5 (0, 0)) ∧ ∀ i, i < n → ∃ y : UInt8, cur[i]? = some (.int .u8 (y.toNat : Int))

theorem Row.cell {w : World} {g n : Nat} (h : Row w g n) (i : Nat) (hi : i < n) : ∃ y : UInt8, w.cell? ⟨g, i, none⟩ = some (.int .u8 (y.toNat : Int)) := by
  obtain ⟨cur, hg, hc⟩ := h
  obtain ⟨y, hy⟩ := hc i hi
  exact ⟨y, by rw [cell_of_row w g i cur 5 (0, 0) hg]; exact hy⟩
theorem Row.free {w : World} {g n : Nat} (h : Row w g n) (i : Nat) : w.frozen? ⟨g, i, none⟩ = false := by
  obtain ⟨cur, hg, _⟩ := h
  exact rCells_free hg i
theorem Row.store {w : World} {g n : Nat} (h : Row w g n) (i : Nat) (y : UInt8) : Row (w.setCell ⟨g, i, none⟩ (.int .u8 (y.toNat : Int))) g n := by
  obtain ⟨cur, hg, hc⟩ := h
  refine ⟨_, row_setCell hg, fun j hj => ?_⟩
  obtain ⟨z, hz⟩ := hc j hj
  by_cases e : j = i
  · subst e
    refine ⟨y, ?_⟩
    have : j < cur.size := (Array.getElem?_eq_some_iff.1 hz).1
    simp [this]
  · refine ⟨z, ?_⟩
    rw [Array.getElem?_setIfInBounds_ne (by omega)]
    exact hz
theorem row_of_own {w : World} {base g cap n : Nat} {bs : List UInt8} (h : Own w base (.slice (some ⟨g, 0, none⟩) n cap) bs) : Row w g n ∧ base ≤ g := by
  obtain ⟨h1, h2⟩ := h
  rcases h2 with ⟨hv, _⟩ | ⟨g', cap', cur, hv, hb, hg, hnc, hcm, hcs, htake⟩
  · cases hv
  · cases hv
    refine ⟨⟨cur, hg, fun i hi => ⟨bs[i], ?_⟩⟩, hb⟩
    have e := bv_at bs i hi
    rw [← htake, List.getElem?_take] at e
    split at e
    · simpa using e
    · cases e
theorem plus_one (y : UInt8) : IntKind.u8.wrap ((y.toNat : Int) + 1) = ((y + 1).toNat : Int) := by
  rw [IntKind.wrap_u8, UInt8.toNat_add]
  have : (1 : UInt8).toNat = 1 := rfl
  rw [this]
  omega

theorem unrec_all (ao : Option Addr) (n cap : Nat) (bs : List UInt8) (w : World) (hT : Tab w) (h : Rd w ao n cap bs) :
    Calls Tryd.prog 32 #[.slice ao n cap] w fun e w' => ∃ a c, e = .returned (.tuple #[.slice a (takeR bs).1.length c, .int .i64 ((takeR bs).2.1 : Int), .int .i64 ((takeR bs).2.2 : Int)]) ∧ Own w' w.heap.size (.slice a (takeR bs).1.length c) (takeR bs).1 ∧ Below w.heap.size w w' := by
  refine (unrecord_any ao n cap bs w hT h).mono ?_
  rintro e w1 ⟨v, rfl, ho, hb⟩
  obtain ⟨a, c, rfl, _, _⟩ := ho.rd
  exact ⟨a, c, rfl, ho, hb⟩
theorem runrec_all (ao : Option Addr) (n cap : Nat) (bs : List UInt8) (w : World) (h : Rd w ao n cap bs) :
    Calls Tryd.prog 33 #[.slice ao n cap] w fun e w' => ∃ a c, e = .returned (.tuple #[.slice a (takeR bs).1.length c, .int .i64 ((takeR bs).2.1 : Int), .int .i64 ((takeR bs).2.2 : Int)]) ∧ Own w' w.heap.size (.slice a (takeR bs).1.length c) (takeR bs).1 ∧ Below w.heap.size w w' := by
  refine (runrecord_any ao n cap bs w h).mono ?_
  rintro e w1 ⟨v, rfl, ho, hb⟩
  obtain ⟨a, c, rfl, _, _⟩ := ho.rd
  exact ⟨a, c, rfl, ho, hb⟩

set_option maxHeartbeats 2000000 in
theorem records_walk (ao : Option Addr) (n cap : Nat) (bs : List UInt8) (w : World) (hT : Tab w) (hr : Rd w ao n cap bs) (hc : cap ≤ 140737488351232) :
    Calls Tryd.prog 5 #[.slice ao n cap] w fun e w' => e = .returned (.bool true) ∧ Below w.heap.size w w' := by
  have hnc := hr.2.1
  have HR : Hid (Rd w ao n cap bs) := hr
  have HT : Hid (Tab w) := hT
  go_enter Tryd.func5, Tryd.ntmps5
  go_wp2_with fail
  refine (lent_any ao n cap bs _ hr (by omega)).mono ?_
  rintro e w1 ⟨g, c, rfl, hg, m1, b1⟩
  have z1 := b1.size
  have T1 := hT.later b1 hT.pos
  have r1 := hr.later b1
  have HM : Hid (Marked w1 g c bs) := m1
  have M1 : Rd w1 (some ⟨g, 0, none⟩) n c bs := by have := m1.rd; rw [r1.1] at this; exact this
  have HU1 := unrec_all _ _ _ bs w1 T1 M1
  have HU2 := fun W (h : Rd W ao n cap bs) => runrec_all ao n cap bs W h
  generalize takeR bs = t at HU1 HU2
  obtain ⟨inn, sz, er⟩ := t
  simp only at HU1 HU2
  clear hr hT M1 m1 T1
  go_wp2_with fail
  refine HU1.mono ?_
  rintro e w2 ⟨a2, c2, rfl, o2, b2⟩
  have z2 := b2.size
  have r2 := r1.later b2
  clear HU1 r1
  go_wp2_with fail
  refine (HU2 _ r2).mono ?_
  rintro e w3 ⟨a3, c3, rfl, o3, b3⟩
  have z3 := b3.size
  have o23 := o2.later b3
  have b13 : Below w1.heap.size w1 w3 := b2.trans (b3.mono z2)
  clear HU2 r2 o2 b2 b3
  obtain ⟨x2, d2, hv2, hx2, hg2⟩ := o23.rd
  cases hv2
  obtain ⟨x3, d3, hv3, hx3, _⟩ := o3.rd
  cases hv3
  have q2 := run_string_of (P := Tryd.prog) 22 9 5 Tryd.underlying22 Tryd.underlying5 Tryd.underlying9 hx2
  have q3 := run_string_of (P := Tryd.prog) 22 9 5 Tryd.underlying22 Tryd.underlying5 Tryd.underlying9 hx3
  have hxl : inn.length ≤ 9223372036854775807 := by have := hx2.2.1; have h3 := hx2.2.2.1; unfold maxLen at h3; omega
  have HROW : Hid (0 < inn.length → ∃ g2, a2 = some ⟨g2, 0, none⟩ ∧ Row w3 g2 inn.length ∧ w1.heap.size ≤ g2) := by
    intro hp
    rcases hg2 with h | ⟨g2, h, _, _, _⟩
    · rw [h] at hx2
      have := (hx2.2.2.2.1 rfl).1
      omega
    · subst h
      have := row_of_own o23
      exact ⟨g2, rfl, this.1, this.2⟩
  clear hx2 hx3 o3 hg2 o23
  go_wp2_with (go_at_call 16; refine (num_any _ _).mono ?_; rintro e w' ⟨rfl, rfl⟩)
  rcases Nat.eq_zero_or_pos inn.length with hz | hp
  · have hz' : (inn.length : Int) = 0 := by omega
    have HZ : Hid (inn.length = 0) := hz
    clear hz
    refine wp_loop_rounds 1 ?_
    rw [rounds_succ]
    have Bw : Below w.heap.size w w3 := b1.trans (b13.mono z1)
    go_wp2_with (first
      | (go_at_call 19; refine (stays_any g c n ao cap bs _ ?_ ?_).mono ?_; exact HM.out.later b13; exact HR.out.later Bw; rintro e w8 ⟨rfl, nq, rfl⟩)
      | (go_at_call 20; refine (knows_any _ ?_).mono ?_; exact (HT.out.later Bw HT.out.pos).drewN nq; rintro e w9 ⟨rfl, b9⟩))
    go_ret
    exact ⟨rfl, (below_drewN Bw nq).trans (b9.mono Bw.size)⟩
  · obtain ⟨g2, ha2, hrow, hg2⟩ := HROW.out hp
    rw [ha2]
    clear HROW q2 q3 ha2
    go_loopw [11] (fun i wr => ∃ k : Nat, k ≤ inn.length ∧ i = .int .i64 (k : Int) ∧ Row wr g2 inn.length ∧ Below w1.heap.size w1 wr) (fun i _ => inn.length - (intOf i).toNat)
    case atStart => exact ⟨0, Nat.zero_le _, rfl, hrow, b13⟩
    case round =>
      obtain ⟨k, hk, rfl, hrw, hbl⟩ := hrel
      by_cases hlt : k < inn.length
      · obtain ⟨y, hy⟩ := hrw.cell k hlt
        have hf := hrw.free k
        have hst := hrw.store k (y + 1)
        have hB := hbl.setCell (p := ⟨g2, k, none⟩) hg2 (.int .u8 ((y + 1).toNat : Int))
        have hp1 := plus_one y
        generalize y + 1 = y1 at hst hB hp1
        have hki : (k : Int) < (inn.length : Int) := by omega
        clear hrow hrw
        go_wp2
        go_roundw
        case rel => exact ⟨k + 1, by omega, by go_num, hst, hB⟩
        case measure => simp [intOf]; omega
      · have hki : ¬ (k : Int) < (inn.length : Int) := by omega
        have Bw : Below w.heap.size w wr := b1.trans (hbl.mono z1)
        clear hrow hrw
        go_wp2_with (first
          | (go_at_call 19; refine (stays_any g c n ao cap bs _ ?_ ?_).mono ?_; exact HM.out.later hbl; exact HR.out.later Bw; rintro e w8 ⟨rfl, nq, rfl⟩)
          | (go_at_call 20; refine (knows_any _ ?_).mono ?_; exact (HT.out.later Bw HT.out.pos).drewN nq; rintro e w9 ⟨rfl, b9⟩))
        go_ret
        exact ⟨rfl, (below_drewN Bw nq).trans (b9.mono Bw.size)⟩

set_option maxRecDepth 100000 in
theorem records_lifted (os : Os) (started : os.Started) (H : Type) (enc : TypeId × Value → H) :
    ReturnsInHanded {} Tryd.checked os 5 .any (fun w args => (Rows.codecRecordsSpec.pre enc Tryd.prog Tryd.f5 [] false w args ∧ laidMetH Tryd.prog laid1 w) ∧ sizedMet enc Tryd.prog Tryd.f5 (OpenSpec.ofChange Rows.codecRecordsSpec) false w args)
      (Rows.codecRecordsSpec.post enc Tryd.prog Tryd.f5 false true false false) := by
  refine returnsInHanded_of_change_and (C := Tryd.checked) (X := fun w _ => laidMetH Tryd.prog laid1 w) (fun _ _ _ hh h => h.of_heap hh) own started (by kernel_rfl) Tryd.func5
    (ChangeSpec.witness_shaped (enc := enc) (C := Tryd.checked) (os := os) (X := fun w _ => laidMetH Tryd.prog laid1 w) false (World.doorLaid Tryd.prog 14 os) #[.slice none 0 0] 8 rfl (World.shaped_of_RefB (by kernel_rfl) (by kernel_rfl)) (by kernel_rfl) (by kernel_rfl) (by kernel_rfl) (door_met os _)) ?_
  intro W base args ds gs before hval0 hW _ hsz0 hL _
  have hval : ∀ (j : Nat) t v, Tryd.f5.params[j]? = some t → args[j]? = some v → Value.okWide Tryd.prog W .any base t v := hval0
  have hsz : (DataW.weightsEach Tryd.prog (Tryd.f5.params.toList ++ Rows.codecRecordsSpec.plain.varTypes Tryd.prog) (ds ++ gs)).all (· ≤ reachBytes) = true := hsz0
  have hW' := hW
  obtain ⟨p, q, hA0, hV, rfl, hfz, hnd⟩ := hW
  have hA : DataW.TrodAll enc Tryd.prog W 0 (fun _ => true) true Tryd.f5.params.toList args.toList ds p := hA0
  rw [Tryd.params5] at hA hval hsz
  obtain ⟨v0, d0, rfl, rfl, h0⟩ := trodAll_one hA
  obtain ⟨rfl, rfl⟩ := trodVars_none hV
  obtain ⟨x0, n0, c0, rfl⟩ := okWide_slice Tryd.underlying22 (hval 0 22 v0 rfl rfl)
  have k0 := h0
  have lt0 : ∀ x ∈ p, x.block < W.heap.size := by obtain ⟨m, hm⟩ := k0; exact DataW.trod_lt m _ _ _ hm
  obtain ⟨f0, hf0⟩ := h0
  obtain ⟨g0, r0, e0⟩ := rd_open (a := x0) (len := n0) (cap := c0) hf0 (by simp [Value.cells])
  have z0 : c0 * Tryd.prog.bytesOf 5 ≤ 140737488351232 := by
    rcases e0 with h | ⟨es, sp, hd, hl⟩
    · rw [h]; simp
    · have hd0 : d0 = .slice es sp := hd
      rw [← hl]; exact sized_slice hsz (j := 0) (t := 22) (e := 5) rfl (by simp [hd0]) Tryd.underlying22
  clear hA0 hval0 hsz0
  refine (records_walk x0 n0 c0 g0 W (tab_of_laid hL) r0 (by rw [bytes1] at z0; omega)).mono fun e W' ⟨he, bel⟩ => ?_
  subst he
  exact ⟨_, rfl, _, _, _, [], _, [], hW', trodAll_mk1 (shut_bool Tryd.underlying4 _), trodAll_mk1 (Below.trod laidOut (by kernel_rfl) (of_decide_eq_true (by kernel_rfl)) k0 bel lt0), rfl, bel.frame _, fun h => by cases h⟩

theorem records_said : Rows.CodecRecordsSaid :=
  OpenClaim.holds_of_wide 5 Tryd.f5 rfl rfl rfl rfl rfl rfl rfl ⟨rfl, rfl, rfl, rfl, rfl⟩ rfl rfl rfl rfl rfl (by kernel_rfl) Tryd.func5 (by kernel_rfl)
    (of_decide_eq_true (by kernel_rfl)) (by unfold Func.isWrapper; first | (rw [if_pos (by decide +kernel)]; kernel_rfl) | (rw [if_neg (by decide +kernel)]; exact ⟨rfl, rfl⟩))
    (fun os started H enc _ => records_lifted os started H enc)

theorem codecRecords_holds : Rows.CodecRecordsCardSaid :=
  Claim7.holds_tied_plain_at .later [] [.data] true _ false
    records_said (fun _ h => by cases h) (by kernel_rfl) (fun _ h => by cases h) codecRecords_row_tie rfl ⟨rfl, rfl⟩ (by kernel_rfl) rfl
    (fun f fn hf hfn => by
      obtain rfl : f = 5 := Option.some.inj ((show Tryd.prog.funcNamed Tryd.f5.name = some 5 by kernel_rfl).symm.trans hf) |>.symm
      obtain rfl : fn = Tryd.f5 := (Option.some.inj (Tryd.func5.symm.trans hfn)).symm
      exact ⟨by kernel_rfl, fun j t ht => by
        rw [Tryd.params5] at ht
        have hm : t ∈ [22] := by simpa using Array.mem_of_getElem? ht
        have hall : ([22].all fun u => !Tryd.prog.wantsStandIn u) = true := by kernel_rfl
        exact (show Tryd.prog.wantsStandIn t = false by simpa using List.all_eq_true.1 hall t hm)⟩)
    (by kernel_rfl)
#print axioms codecRecords_holds
end Go.Proofs.YtdjilmcpkeckoaaDoor
