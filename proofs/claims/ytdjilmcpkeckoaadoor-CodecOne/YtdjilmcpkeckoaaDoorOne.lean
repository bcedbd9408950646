/-
  The claim: CodecOne answers true for every pair of numbers: two numbers have the same bytes just if they are the same, and the bytes are one to ten (its tied card: the program's table of sums lies as the program's text lays it).
-/
import Derived.Test.YtdjilmcpkeckoaaDoorFrm
import Derived.Test.YtdjilmcpkeckoaaDoorCards
import Derived.Test.YtdjilmcpkeckoaaDoorTie
namespace Go.Proofs.YtdjilmcpkeckoaaDoor
open Go.ChangeShapes Go.WideShapes Go.ChangeAt Go.WideMaps Go.WideElems Go.RowKit

theorem numBytes_inj (a b : Int) (ha0 : -9223372036854775808 ≤ a) (ha1 : a ≤ 9223372036854775807) (hb0 : -9223372036854775808 ≤ b) (hb1 : b ≤ 9223372036854775807) (h : numBytes a = numBytes b) : a = b := by
  have e1 := takeN_nb (foldN a) (foldN_lt a ha0 ha1) []
  have e2 := takeN_nb (foldN b) (foldN_lt b hb0 hb1) []
  have h' : nb 9 (foldN a) = nb 9 (foldN b) := h
  rw [h', e2] at e1
  have := congrArg Prod.fst e1
  rw [← unfold_fold a, ← unfold_fold b]
  exact congrArg unfoldN this.symm

theorem str_inj {a b : List UInt8} (h : (⟨a.toArray⟩ : ByteArray) = ⟨b.toArray⟩) : a = b := by
  have := congrArg (fun x : ByteArray => x.data.toList) h
  simpa using this

set_option maxHeartbeats 1000000 in
theorem one_walk (a b : Int) (w : World) (hT : Tab w) (ha0 : -9223372036854775808 ≤ a) (ha1 : a ≤ 9223372036854775807) (hb0 : -9223372036854775808 ≤ b) (hb1 : b ≤ 9223372036854775807) :
    Calls Tryd.prog 8 #[.int .i64 a, .int .i64 b] w fun e w' => e = .returned (.bool true) ∧ Below w.heap.size w w' := by
  go_enter Tryd.func8, Tryd.ntmps8
  go_wp2_with fail
  refine (number_any a _ ha0 ha1).mono ?_
  rintro e w1 ⟨v1, rfl, ho1, b1⟩
  have z1 := b1.size
  have hl1 := numBytes_len a
  go_wp2_with fail
  refine (number_any b _ hb0 hb1).mono ?_
  rintro e w2 ⟨v2, rfl, ho2, b2⟩
  have ho1' := ho1.later b2
  obtain ⟨a1, c1, rfl, hr1, _⟩ := ho1'.rd
  obtain ⟨a2, c2, rfl, hr2, _⟩ := ho2.rd
  have z2 := b2.size
  have B2 : Below w.heap.size w w2 := b1.trans (b2.mono z1)
  have T2 := hT.later B2 hT.pos
  have q1 := run_string_of (P := Tryd.prog) 22 9 5 Tryd.underlying22 Tryd.underlying5 Tryd.underlying9 hr1
  have q2 := run_string_of (P := Tryd.prog) 22 9 5 Tryd.underlying22 Tryd.underlying5 Tryd.underlying9 hr2
  clear ho1 ho1' ho2 hr1 hr2 b1 b2 hT
  have hxy : (numBytes a == numBytes b) = (a == b) := by
    by_cases hab : a = b
    · subst hab; simp
    · have : numBytes a ≠ numBytes b := fun h => hab (numBytes_inj a b ha0 ha1 hb0 hb1 h)
      rw [beq_eq_false_iff_ne.2 this, beq_eq_false_iff_ne.2 hab]
  generalize numBytes a = x at *
  generalize numBytes b = y at *
  have l1 : (1 : Int) ≤ (x.length : Int) := by omega
  have l2 : (x.length : Int) ≤ 10 := by omega
  clear hl1 ha0 ha1 hb0 hb1
  go_wp2_with (go_at_call 20; refine (knows_any w2 T2).mono ?_; rintro e w3 ⟨rfl, b3⟩)
  go_ret
  exact ⟨rfl, B2.trans (b3.mono (by omega))⟩

set_option maxRecDepth 100000 in
theorem one_lifted (os : Os) (started : os.Started) (H : Type) (enc : TypeId × Value → H) :
    ReturnsInHanded {} Tryd.checked os 8 .any (fun w args => (Rows.codecOneSpec.pre enc Tryd.prog Tryd.f8 [] false w args ∧ laidMetH Tryd.prog laid1 w) ∧ sizedMet enc Tryd.prog Tryd.f8 (OpenSpec.ofChange Rows.codecOneSpec) false w args)
      (Rows.codecOneSpec.post enc Tryd.prog Tryd.f8 false true false false) := by
  refine returnsInHanded_of_change_and (C := Tryd.checked) (X := fun w _ => laidMetH Tryd.prog laid1 w) (fun _ _ _ hh h => h.of_heap hh) own started (by kernel_rfl) Tryd.func8
    (ChangeSpec.witness_shaped (enc := enc) (C := Tryd.checked) (os := os) (X := fun w _ => laidMetH Tryd.prog laid1 w) false (World.doorLaid Tryd.prog 14 os) #[.int .i64 0, .int .i64 0] 8 rfl (World.shaped_of_RefB (by kernel_rfl) (by kernel_rfl)) (by kernel_rfl) (by kernel_rfl) (by kernel_rfl) (door_met os _)) ?_
  intro W base args ds gs before hval0 hW _ _ hL _
  have hval : ∀ (j : Nat) t v, Tryd.f8.params[j]? = some t → args[j]? = some v → Value.okWide Tryd.prog W .any base t v := hval0
  have hW' := hW
  obtain ⟨p, q, hA0, hV, rfl, hfz, hnd⟩ := hW
  have hA : DataW.TrodAll enc Tryd.prog W 0 (fun _ => true) true Tryd.f8.params.toList args.toList ds p := hA0
  rw [Tryd.params8] at hA hval
  obtain ⟨v0, v1, d0, d1, p0, p1, rfl, rfl, rfl, h0, h1⟩ := trodAll_two hA
  obtain ⟨rfl, rfl⟩ := trodVars_none hV
  obtain ⟨a, rfl, rfl, rfl, wa⟩ := open_int Tryd.underlying3 (hval 0 3 v0 rfl rfl) h0
  obtain ⟨b, rfl, rfl, rfl, wb⟩ := open_int Tryd.underlying3 (hval 1 3 v1 rfl rfl) h1
  have ba := bounds_i64 wa
  have bb := bounds_i64 wb
  clear hA0 hval0
  refine (one_walk a b W (tab_of_laid hL) ba.1 ba.2 bb.1 bb.2).mono fun e W' ⟨he, bel⟩ => ?_
  subst he
  exact ⟨_, rfl, _, _, _, [], _, [], hW', trodAll_mk1 (shut_bool Tryd.underlying4 _), trodAll_mk2 (shut_int Tryd.underlying3 wa) (shut_int Tryd.underlying3 wb), rfl, bel.frame _, fun h => by cases h⟩

theorem one_said : Rows.CodecOneSaid :=
  OpenClaim.holds_of_wide 8 Tryd.f8 rfl rfl rfl rfl rfl rfl rfl ⟨rfl, rfl, rfl, rfl, rfl⟩ rfl rfl rfl rfl rfl (by kernel_rfl) Tryd.func8 (by kernel_rfl)
    (of_decide_eq_true (by kernel_rfl)) (by unfold Func.isWrapper; first | (rw [if_pos (by decide +kernel)]; kernel_rfl) | (rw [if_neg (by decide +kernel)]; exact ⟨rfl, rfl⟩))
    (fun os started H enc _ => one_lifted os started H enc)

theorem codecOne_holds : Rows.CodecOneCardSaid :=
  Claim7.holds_tied_plain_at .later [] [.data] true _ false
    one_said (fun _ h => by cases h) (by kernel_rfl) (fun _ h => by cases h) codecOne_row_tie rfl ⟨rfl, rfl⟩ (by kernel_rfl) rfl
    (fun f fn hf hfn => by
      obtain rfl : f = 8 := Option.some.inj ((show Tryd.prog.funcNamed Tryd.f8.name = some 8 by kernel_rfl).symm.trans hf) |>.symm
      obtain rfl : fn = Tryd.f8 := (Option.some.inj (Tryd.func8.symm.trans hfn)).symm
      exact ⟨by kernel_rfl, fun j t ht => by
        rw [Tryd.params8] at ht
        have hm : t ∈ [3, 3] := by simpa using Array.mem_of_getElem? ht
        have hall : ([3, 3].all fun u => !Tryd.prog.wantsStandIn u) = true := by kernel_rfl
        exact (show Tryd.prog.wantsStandIn t = false by simpa using List.all_eq_true.1 hall t hm)⟩)
    (by kernel_rfl)
#print axioms codecOne_holds
end Go.Proofs.YtdjilmcpkeckoaaDoor
