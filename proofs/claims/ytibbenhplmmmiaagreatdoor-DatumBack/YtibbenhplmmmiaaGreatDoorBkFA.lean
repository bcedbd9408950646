/-
  DatumBack: the row's frame.
-/
import Derived.Test.YtibbenhplmmmiaaGreatDoorMGVOrd1
import Derived.Test.YtibbenhplmmmiaaGreatDoorBkL
import Derived.Test.YtibbenhplmmmiaaGreatDoorMWBkFB
import Derived.ChangeMaps5
import Derived.SizedLaws
import Derived.Carry
namespace Go.Proofs.YtibbenhplmmmiaaGreatDoor
open Go.ChangeShapes Go.WideShapes Go.ChangeAt Go.WideMaps Go.WideElems Go.RowKit Go.Shelf Go.Lib
open Go.ChangeMaps (open_string shut_string)

set_option maxRecDepth 100000 in
theorem dbk_lifted (os : Os) (started : os.Started) (H : Type) (enc : TypeId × Value → H) :
    ReturnsInHanded {} Tryz.checked os 4 .any (fun w args => (Rows.datumBackSpec.pre enc Tryz.prog Tryz.f4 [] false w args ∧ laidMetH Tryz.prog Rows.datumBackRow.laid w) ∧ sizedMet enc Tryz.prog Tryz.f4 (OpenSpec.ofChange Rows.datumBackSpec) false w args)
      (Rows.datumBackSpec.post enc Tryz.prog Tryz.f4 false true false false) := by
  refine returnsInHanded_of_change_and (C := Tryz.checked) (X := fun w _ => laidMetH Tryz.prog Rows.datumBackRow.laid w) (fun _ _ _ hh h => h.of_heap hh) own started (by kernel_rfl) Tryz.func4
    (ChangeSpec.witness_shaped (enc := enc) (C := Tryz.checked) (os := os) (X := fun w _ => laidMetH Tryz.prog Rows.datumBackRow.laid w) false (World.laidAll Tryz.prog os Rows.datumBackRow.laid) #[.slice none 0 0] 8 (World.laidAll_os _ _ _)
      (World.shaped_of_ZipB (by kernel_rfl) (by kernel_rfl)) (by kernel_rfl) (by kernel_rfl) (by kernel_rfl)
      (by rw [MakeChecks.laidMetH_plain _ _ _ (by kernel_rfl)]; exact laidMet_laidAll _ (by kernel_rfl) (by kernel_rfl))) ?_
  intro W base args ds gs before hval0 hW _ hsz0 hL _
  have hval : ∀ (j : Nat) t v, Tryz.f4.params[j]? = some t → args[j]? = some v → Value.okWide Tryz.prog W .any base t v := hval0
  have hsz : (DataW.weightsEach Tryz.prog (Tryz.f4.params.toList ++ Rows.datumBackSpec.plain.varTypes Tryz.prog) (ds ++ gs)).all (· ≤ reachBytes) = true := hsz0
  have hW' := hW
  obtain ⟨p, q, hA0, hV, rfl, hfz, hnd⟩ := hW
  have hA : DataW.TrodAll enc Tryz.prog W 0 (fun _ => true) true Tryz.f4.params.toList args.toList ds p := hA0
  rw [Tryz.params4] at hA hval hsz
  obtain ⟨v0, d0, rfl, rfl, h0⟩ := trodAll_one hA
  obtain ⟨rfl, rfl⟩ := trodVars_none hV
  obtain ⟨x0, n0, c0, rfl⟩ := okWide_slice Tryz.underlying34 (hval 0 34 v0 rfl rfl)
  have k0 := h0
  have lt0 : ∀ x ∈ p, x.block < W.heap.size := by obtain ⟨m, hm⟩ := k0; exact DataW.trod_lt m _ _ _ hm
  obtain ⟨f0, hf0⟩ := h0
  obtain ⟨g0, r0, e0⟩ := vals_open (a := x0) (len := n0) (cap := c0) hf0 (by simp [Value.cells])
  have z0 : c0 * Tryz.prog.bytesOf 23 ≤ 140737488351232 := by
    rcases e0 with h | ⟨es, sp, hd, hl⟩
    · rw [h]; simp
    · have hd0 : d0 = .slice es sp := hd
      rw [← hl]; exact sized_slice hsz (j := 0) (t := 34) (e := 23) rfl (by simp [hd0]) Tryz.underlying34
  obtain ⟨r0v, r0z, rfl, r0c, r0i⟩ := r0
  rw [bytes40] at z0
  clear hA0 hval0 hsz0
  rw [MakeChecks.laidMetH_plain _ _ _ (by kernel_rfl)] at hL
  have hT : Tabs W := tabs_of (Lib.laidMet.reads hL (.tail _ (.tail _ (.tail _ (.tail _ (.tail _ (.tail _ (.head _)))))))) (Lib.laidMet.reads hL (.tail _ (.tail _ (.tail _ (.head _)))))
  have hP : Pt.Ptab W := Pt.ptab_of (Lib.laidMet.reads hL (.tail _ (.tail _ (.head _))))
  have hE : Pt.Ers W := ⟨Pt.esy_of hL.tail.tail.tail.tail.tail, Pt.era_of hL.tail.tail.tail.tail⟩
  refine (Bk.back_all x0 c0 g0 W r0v r0z (by omega) r0i hT hP hE).mono fun e W' ⟨he, bel⟩ => ?_
  subst he
  exact ⟨_, rfl, _, _, _, [], _, [], hW', trodAll_mk1 (shut_bool Tryz.underlying4 _), trodAll_mk1 (Below.trod laidOut (by kernel_rfl) (of_decide_eq_true (by kernel_rfl)) k0 bel lt0), rfl, bel.frame _, fun h => by cases h⟩
end Go.Proofs.YtibbenhplmmmiaaGreatDoor
