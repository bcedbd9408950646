/-
  EvalNamed's walk, whole.
  EvalNamed: the row's frame.
-/
import Derived.Test.YtgapmofhnjfdiaaGreatDoorMXXNmX
import Derived.Test.YtgapmofhnjfdiaaGreatDoorXNmA
import Derived.Test.YtgapmofhnjfdiaaGreatDoorXNmB
import Derived.Test.YtgapmofhnjfdiaaGreatDoorMUXStep
import Derived.ChangeMaps5
import Derived.SizedLaws
import Derived.Carry
namespace Go.Proofs.YtgapmofhnjfdiaaGreatDoor
open Go.RowKit Go.Shelf

theorem named_all (lo ta na ro oo : Option Addr) (lc tc nc rc oc : Nat) (l : List Nd) (ts ns : List (List UInt8)) (row other : List Va) (w : World) (hv : Nw w lo l) (hln : l.length * 88 ≤ 140737488351232) (hs : shN l) (hi6 : ∀ x ∈ l, vin x.v) (ht : Sl w ta ts) (hn : Sl w na ns) (ht0 : ta = none → ts = []) (hn0 : na = none → ns = []) (hlt : ts.length * 16 ≤ 140737488351232) (hlnn : ns.length * 16 ≤ 140737488351232) (hr : Vs w ro row) (hr0 : ro = none → row = []) (hlr : row.length * 40 ≤ 140737488351232) (hir : ∀ v ∈ row, vin v) (hoo : Vs w oo other) (hlo : other.length * 40 ≤ 140737488351232) (hio : ∀ v ∈ other, vin v) (hT : Tabs w) (hPw : Pw w) :
    Calls Tryz.prog 7 #[.slice lo l.length lc, scv ta na ts.length ns.length tc nc, .slice ro row.length rc, .slice oo other.length oc] w fun e w' => e = .returned (.bool true) ∧ Below w.heap.size w w' := by
  have KN : Tells 20 #[] w (.bool true) := fun W h => knows7_any W (hT.later h) (hPw.below h)
  by_cases h600 : l.length ≤ 600
  case neg => exact nend1 lo ta na ro oo lc tc nc rc oc l.length ts.length ns.length row.length other.length w KN (by omega)
  by_cases hrn : row.length = ns.length
  case neg => exact nend2 lo ta na ro oo lc tc nc rc oc l.length ts.length ns.length row.length other.length w KN h600 hrn
  by_cases htn : ts.length = ns.length
  case neg =>
    rw [hrn]
    exact nend3 lo ta na ro oo lc tc nc rc oc l.length ts.length ns.length other.length w KN h600 htn
  have RW1 : Tells 33 #[.slice ro ns.length rc] w (.bool (ckE row == 0)) := fun W h => by
    have := rrow_any ro rc row W (hr.later h) (by omega)
    rw [hrn] at this
    exact this
  have RW2 : Tells 33 #[.slice oo other.length oc] w (.bool (ckE other == 0)) := fun W h => rrow_any oo oc other W (hoo.later h) (by omega)
  by_cases h1 : ckE row = 0
  case neg =>
    rw [show (ckE row == 0) = false by rw [beq_eq_false_iff_ne]; exact h1] at RW1
    rw [hrn, htn]
    exact nend4 lo ta na ro oo lc tc nc rc oc l.length ns.length other.length w KN h600 RW1
  by_cases h2 : ckE other = 0
  case neg =>
    rw [h1] at RW1
    rw [show (ckE other == 0) = false by rw [beq_eq_false_iff_ne]; exact h2] at RW2
    rw [hrn, htn]
    exact nend5 lo ta na ro oo lc tc nc rc oc l.length ns.length other.length w KN h600 RW1 RW2
  by_cases hmo : other.length < row.length
  · exact named_lt lo ta na ro oo lc tc nc rc oc l ts ns row other w hv hln hs hi6 ht hn ht0 hn0 hlt hlnn hr hr0 hlr hir hoo hlo hio hT hPw h600 hrn htn h1 h2 hmo
  · exact named_ge lo ta na ro oo lc tc nc rc oc l ts ns row other w hv hln hs hi6 ht hn ht0 hn0 hlt hlnn hr hr0 hlr hir hoo hlo hio hT hPw h600 hrn htn h1 h2 (by omega)
end Go.Proofs.YtgapmofhnjfdiaaGreatDoor

namespace Go.Proofs.YtgapmofhnjfdiaaGreatDoor
open Go.ChangeShapes Go.WideShapes Go.ChangeAt Go.WideMaps Go.WideElems Go.RowKit Go.Shelf Go.Lib
open Go.ChangeMaps (open_string shut_string)

set_option maxRecDepth 100000 in
theorem nmd_lifted (os : Os) (started : os.Started) (H : Type) (enc : TypeId × Value → H) :
    ReturnsInHanded {} Tryz.checked os 7 .any (fun w args => (Rows.evalNamedSpec.pre enc Tryz.prog Tryz.f7 [] false w args ∧ laidMetH Tryz.prog Rows.evalNamedRow.laid w) ∧ sizedMet enc Tryz.prog Tryz.f7 (OpenSpec.ofChange Rows.evalNamedSpec) false w args)
      (Rows.evalNamedSpec.post enc Tryz.prog Tryz.f7 false true false false) := by
  refine returnsInHanded_of_change_and (C := Tryz.checked) (X := fun w _ => laidMetH Tryz.prog Rows.evalNamedRow.laid w) (fun _ _ _ hh h => h.of_heap hh) own started (by kernel_rfl) Tryz.func7
    (ChangeSpec.witness_shaped (enc := enc) (C := Tryz.checked) (os := os) (X := fun w _ => laidMetH Tryz.prog Rows.evalNamedRow.laid w) false (World.laidAll Tryz.prog os Rows.evalNamedRow.laid) #[.slice none 0 0, .agg #[.slice none 0 0, .slice none 0 0], .slice none 0 0, .slice none 0 0] 8 (World.laidAll_os _ _ _)
      (World.shaped_of_ZipB (by kernel_rfl) (by kernel_rfl)) (by kernel_rfl) (by kernel_rfl) (by kernel_rfl)
      (by rw [MakeChecks.laidMetH_plain _ _ _ (by kernel_rfl)]; exact laidMet_laidAll _ (by kernel_rfl) (by kernel_rfl))) ?_
  intro W base args ds gs before hval0 hW _ hsz0 hL _
  have hval : ∀ (j : Nat) t v, Tryz.f7.params[j]? = some t → args[j]? = some v → Value.okWide Tryz.prog W .any base t v := hval0
  have hsz : (DataW.weightsEach Tryz.prog (Tryz.f7.params.toList ++ Rows.evalNamedSpec.plain.varTypes Tryz.prog) (ds ++ gs)).all (· ≤ reachBytes) = true := hsz0
  have hW' := hW
  obtain ⟨p, q, hA0, hV, rfl, hfz, hnd⟩ := hW
  have hA : DataW.TrodAll enc Tryz.prog W 0 (fun _ => true) true Tryz.f7.params.toList args.toList ds p := hA0
  rw [Tryz.params7] at hA hval hsz
  obtain ⟨v0, v1, v2, v3, d0, d1, d2, d3, p0, p1, p2, p3, rfl, rfl, rfl, h0, h1, h2, h3⟩ := trodAll_four hA
  obtain ⟨rfl, rfl⟩ := trodVars_none hV
  obtain ⟨x0, n0, c0, rfl⟩ := okWide_slice Tryz.underlying22 (hval 0 22 v0 rfl rfl)
  have k0 := h0
  have lt0 : ∀ x ∈ p0, x.block < W.heap.size := by obtain ⟨m, hm⟩ := k0; exact DataW.trod_lt m _ _ _ hm
  obtain ⟨f0, hf0⟩ := h0
  obtain ⟨g0, r0, e0⟩ := nods_open (a := x0) (len := n0) (cap := c0) hf0 (by simp [Value.cells])
  have z0 : c0 * Tryz.prog.bytesOf 70 ≤ 140737488351232 := by
    rcases e0 with h | ⟨es, sp, hd, hl⟩
    · rw [h]; simp
    · have hd0 : d0 = .slice es sp := hd
      rw [← hl]; exact sized_slice hsz (j := 0) (t := 22) (e := 70) rfl (by simp [hd0]) Tryz.underlying22
  obtain ⟨r0v, rfl, r0c, r0i, r0w⟩ := r0
  have r0s := sh_of hsz (j := 0) rfl rfl r0w
  rw [bytes88] at z0
  obtain ⟨cs1, rfl, _⟩ := okWide_struct Tryz.underlying53 (hval 1 53 v1 rfl rfl)
  have k1 := h1
  have lt1 : ∀ x ∈ p1, x.block < W.heap.size := by obtain ⟨m, hm⟩ := k1; exact DataW.trod_lt m _ _ _ hm
  obtain ⟨f1, hf1⟩ := h1
  obtain ⟨ta1, tn1, tc1, na1, nn1, nc1, ex1, sc1⟩ := scope_open hf1
  obtain rfl : cs1 = #[.slice ta1 tn1 tc1, .slice na1 nn1 nc1] := by obtain ⟨l⟩ := cs1; exact congrArg List.toArray ex1
  obtain ⟨ts1, ns1, st1, rfl, sn1, rfl, so1, sp1, sl1, sm1, wt1, wn1⟩ := sc1
  have zt1 : tc1 * 16 ≤ 140737488351232 ∧ nc1 * 16 ≤ 140737488351232 := scope_sized hsz (j := 1) rfl rfl wt1 wn1
  obtain ⟨x2, n2, c2, rfl⟩ := okWide_slice Tryz.underlying45 (hval 2 45 v2 rfl rfl)
  have k2 := h2
  have lt2 : ∀ x ∈ p2, x.block < W.heap.size := by obtain ⟨m, hm⟩ := k2; exact DataW.trod_lt m _ _ _ hm
  obtain ⟨f2, hf2⟩ := h2
  obtain ⟨g2, r2, e2⟩ := vals_open (a := x2) (len := n2) (cap := c2) hf2 (by simp [Value.cells])
  have z2 : c2 * Tryz.prog.bytesOf 30 ≤ 140737488351232 := by
    rcases e2 with h | ⟨es, sp, hd, hl⟩
    · rw [h]; simp
    · have hd0 : d2 = .slice es sp := hd
      rw [← hl]; exact sized_slice hsz (j := 2) (t := 45) (e := 30) rfl (by simp [hd0]) Tryz.underlying45
  obtain ⟨r2v, r2z, rfl, r2c, r2i⟩ := r2
  rw [bytes40] at z2
  obtain ⟨x3, n3, c3, rfl⟩ := okWide_slice Tryz.underlying45 (hval 3 45 v3 rfl rfl)
  have k3 := h3
  have lt3 : ∀ x ∈ p3, x.block < W.heap.size := by obtain ⟨m, hm⟩ := k3; exact DataW.trod_lt m _ _ _ hm
  obtain ⟨f3, hf3⟩ := h3
  obtain ⟨g3, r3, e3⟩ := vals_open (a := x3) (len := n3) (cap := c3) hf3 (by simp [Value.cells])
  have z3 : c3 * Tryz.prog.bytesOf 30 ≤ 140737488351232 := by
    rcases e3 with h | ⟨es, sp, hd, hl⟩
    · rw [h]; simp
    · have hd0 : d3 = .slice es sp := hd
      rw [← hl]; exact sized_slice hsz (j := 3) (t := 45) (e := 30) rfl (by simp [hd0]) Tryz.underlying45
  obtain ⟨r3v, r3z, rfl, r3c, r3i⟩ := r3
  rw [bytes40] at z3
  clear hA0 hval0 hsz0
  rw [MakeChecks.laidMetH_plain _ _ _ (by kernel_rfl)] at hL
  have hT : Tabs W := tabs_of (Lib.laidMet.reads hL (.tail _ (.tail _ (.head _)))) (Lib.laidMet.reads hL (.head _))
  have hPw : Pw W := pw_of (Lib.laidMet.reads hL (.tail _ (.head _)))
  refine (named_all x0 ta1 na1 x2 x3 c0 tc1 nc1 c2 c3 g0 ts1 ns1 g2 g3 W r0v (by omega) r0s r0i st1 sn1 so1 sp1 (by omega) (by omega) r2v r2z (by omega) r2i r3v (by omega) r3i hT hPw).mono fun e W' ⟨he, bel⟩ => ?_
  subst he
  exact ⟨_, rfl, _, _, _, [], _, [], hW', trodAll_mk1 (shut_bool Tryz.underlying4 _), trodAll_mk4 (Below.trod laidOut (by kernel_rfl) (of_decide_eq_true (by kernel_rfl)) k0 bel lt0) (Below.trod laidOut (by kernel_rfl) (of_decide_eq_true (by kernel_rfl)) k1 bel lt1) (Below.trod laidOut (by kernel_rfl) (of_decide_eq_true (by kernel_rfl)) k2 bel lt2) (Below.trod laidOut (by kernel_rfl) (of_decide_eq_true (by kernel_rfl)) k3 bel lt3), rfl, bel.frame _, fun h => by cases h⟩
end Go.Proofs.YtgapmofhnjfdiaaGreatDoor
