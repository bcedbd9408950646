/-
  The claim: CodecBack answers true for every list of numbers and every list of texts: they are read as they were written, one behind the other (its tied card: the program's table of sums lies as the program's text lays it).
-/
import Derived.Test.YtdjilmcpkeckoaaDoorBack11
import Derived.Test.YtdjilmcpkeckoaaDoorBack12
import Derived.Test.YtdjilmcpkeckoaaDoorBack21
import Derived.Test.YtdjilmcpkeckoaaDoorBack22
import Derived.Test.YtdjilmcpkeckoaaDoorCards
import Derived.Test.YtdjilmcpkeckoaaDoorTie
import Derived.SizedLaws
namespace Go.Proofs.YtdjilmcpkeckoaaDoor
open Go.ChangeShapes Go.WideShapes Go.ChangeAt Go.WideMaps Go.WideElems Go.RowKit

theorem back_walk (ao : Option Addr) (n cap : Nat) (am : Option Addr) (m capm : Nat) (zs : List Int) (ss : List ByteArray) (w : World) (hT : Tab w)
    (h0 : CellsZ w ao zs ∧ zs.length = n ∧ n ≤ cap ∧ cap ≤ maxLen ∧ ∀ z ∈ zs, -9223372036854775808 ≤ z ∧ z ≤ 9223372036854775807)
    (h1 : CellsS w am ss ∧ ss.length = m ∧ m ≤ capm ∧ capm ≤ maxLen ∧ ∀ s ∈ ss, s.size ≤ maxLen) :
    Calls Tryd.prog 7 #[.slice ao n cap, .slice am m capm] w fun e w' => e = .returned (.bool true) ∧ Below w.heap.size w w' := by
  obtain ⟨hz, hl, _, _, hzb⟩ := h0
  obtain ⟨hs, hl2, _, _, hsb0⟩ := h1
  have hsb : ∀ s ∈ ss, s.size ≤ 9223372036854775807 := fun s h => by have := hsb0 s h; unfold maxLen at this; omega
  have hzb2 : ∀ z ∈ zs.take 1000, -9223372036854775808 ≤ z ∧ z ≤ 9223372036854775807 := fun z h => hzb z (List.mem_of_mem_take h)
  have hsb2 : ∀ s ∈ ss.take 100, s.size ≤ 9223372036854775807 := fun s h => hsb s (List.mem_of_mem_take h)
  by_cases hn : n ≤ 1000
  · by_cases hm : m ≤ 100
    · exact back_11 ao n cap am m capm zs ss w hT hz hs hzb hsb hl hn hl2 hm
    · exact back_12 ao n cap am m capm zs (ss.take 100) w hT hz (hs.cut 100) hzb hsb2 hl hn (by rw [List.length_take]; omega) (by omega)
  · by_cases hm : m ≤ 100
    · exact back_21 ao n cap am m capm (zs.take 1000) ss w hT (hz.cut 1000) hs hzb2 hsb (by rw [List.length_take]; omega) (by omega) hl2 hm
    · exact back_22 ao n cap am m capm (zs.take 1000) (ss.take 100) w hT (hz.cut 1000) (hs.cut 100) hzb2 hsb2 (by rw [List.length_take]; omega) (by omega) (by rw [List.length_take]; omega) (by omega)

set_option maxRecDepth 100000 in
theorem back_lifted (os : Os) (started : os.Started) (H : Type) (enc : TypeId × Value → H) :
    ReturnsInHanded {} Tryd.checked os 7 .any (fun w args => (Rows.codecBackSpec.pre enc Tryd.prog Tryd.f7 [] false w args ∧ laidMetH Tryd.prog laid1 w) ∧ sizedMet enc Tryd.prog Tryd.f7 (OpenSpec.ofChange Rows.codecBackSpec) false w args)
      (Rows.codecBackSpec.post enc Tryd.prog Tryd.f7 false true false false) := by
  refine returnsInHanded_of_change_and (C := Tryd.checked) (X := fun w _ => laidMetH Tryd.prog laid1 w) (fun _ _ _ hh h => h.of_heap hh) own started (by kernel_rfl) Tryd.func7
    (ChangeSpec.witness_shaped (enc := enc) (C := Tryd.checked) (os := os) (X := fun w _ => laidMetH Tryd.prog laid1 w) false (World.doorLaid Tryd.prog 14 os) #[.slice none 0 0, .slice none 0 0] 8 rfl (World.shaped_of_RefB (by kernel_rfl) (by kernel_rfl)) (by kernel_rfl) (by kernel_rfl) (by kernel_rfl) (door_met os _)) ?_
  intro W base args ds gs before hval0 hW _ hsz0 hL _
  have hval : ∀ (j : Nat) t v, Tryd.f7.params[j]? = some t → args[j]? = some v → Value.okWide Tryd.prog W .any base t v := hval0
  have hsz : (DataW.weightsEach Tryd.prog (Tryd.f7.params.toList ++ Rows.codecBackSpec.plain.varTypes Tryd.prog) (ds ++ gs)).all (· ≤ reachBytes) = true := hsz0
  have hW' := hW
  obtain ⟨p, q, hA0, hV, rfl, hfz, hnd⟩ := hW
  have hA : DataW.TrodAll enc Tryd.prog W 0 (fun _ => true) true Tryd.f7.params.toList args.toList ds p := hA0
  rw [Tryd.params7] at hA hval hsz
  obtain ⟨v0, v1, d0, d1, p0, p1, rfl, rfl, rfl, h0, h1⟩ := trodAll_two hA
  obtain ⟨rfl, rfl⟩ := trodVars_none hV
  obtain ⟨x0, n0, c0, rfl⟩ := okWide_slice Tryd.underlying38 (hval 0 38 v0 rfl rfl)
  have k0 := h0
  have lt0 : ∀ x ∈ p0, x.block < W.heap.size := by obtain ⟨m, hm⟩ := k0; exact DataW.trod_lt m _ _ _ hm
  obtain ⟨f0, hf0⟩ := h0
  obtain ⟨g0, r0, _⟩ := ints_open (a := x0) (len := n0) (cap := c0) hf0 (by simp [Value.cells])
  obtain ⟨x1, n1, c1, rfl⟩ := okWide_slice Tryd.underlying58 (hval 1 58 v1 rfl rfl)
  have k1 := h1
  have lt1 : ∀ x ∈ p1, x.block < W.heap.size := by obtain ⟨m, hm⟩ := k1; exact DataW.trod_lt m _ _ _ hm
  obtain ⟨f1, hf1⟩ := h1
  obtain ⟨g1, r1, _⟩ := strs_open (a := x1) (len := n1) (cap := c1) hf1 (by simp [Value.cells])
  clear hA0 hval0 hsz0
  refine (back_walk x0 n0 c0 x1 n1 c1 g0 g1 W (tab_of_laid hL) r0 r1).mono fun e W' ⟨he, bel⟩ => ?_
  subst he
  exact ⟨_, rfl, _, _, _, [], _, [], hW', trodAll_mk1 (shut_bool Tryd.underlying4 _), trodAll_mk2 (Below.trod laidOut (by kernel_rfl) (of_decide_eq_true (by kernel_rfl)) k0 bel lt0) (Below.trod laidOut (by kernel_rfl) (of_decide_eq_true (by kernel_rfl)) k1 bel lt1), rfl, bel.frame _, fun h => by cases h⟩

theorem back_said : Rows.CodecBackSaid :=
  OpenClaim.holds_of_wide 7 Tryd.f7 rfl rfl rfl rfl rfl rfl rfl ⟨rfl, rfl, rfl, rfl, rfl⟩ rfl rfl rfl rfl rfl (by kernel_rfl) Tryd.func7 (by kernel_rfl)
    (of_decide_eq_true (by kernel_rfl)) (by unfold Func.isWrapper; first | (rw [if_pos (by decide +kernel)]; kernel_rfl) | (rw [if_neg (by decide +kernel)]; exact ⟨rfl, rfl⟩))
    (fun os started H enc _ => back_lifted os started H enc)

theorem codecBack_holds : Rows.CodecBackCardSaid :=
  Claim7.holds_tied_plain_at .later [] [.data] true _ false
    back_said (fun _ h => by cases h) (by kernel_rfl) (fun _ h => by cases h) codecBack_row_tie rfl ⟨rfl, rfl⟩ (by kernel_rfl) rfl
    (fun f fn hf hfn => by
      obtain rfl : f = 7 := Option.some.inj ((show Tryd.prog.funcNamed Tryd.f7.name = some 7 by kernel_rfl).symm.trans hf) |>.symm
      obtain rfl : fn = Tryd.f7 := (Option.some.inj (Tryd.func7.symm.trans hfn)).symm
      exact ⟨by kernel_rfl, fun j t ht => by
        rw [Tryd.params7] at ht
        have hm : t ∈ [38, 58] := by simpa using Array.mem_of_getElem? ht
        have hall : ([38, 58].all fun u => !Tryd.prog.wantsStandIn u) = true := by kernel_rfl
        exact (show Tryd.prog.wantsStandIn t = false by simpa using List.all_eq_true.1 hall t hm)⟩)
    (by kernel_rfl)
#print axioms codecBack_holds
end Go.Proofs.YtdjilmcpkeckoaaDoor
