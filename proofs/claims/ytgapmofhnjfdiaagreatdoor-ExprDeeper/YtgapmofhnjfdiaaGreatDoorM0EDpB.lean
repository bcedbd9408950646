/-
  The tables that lie: strconv's powers, the signs of expr; names that came in are not too long.
  ExprDeeper: the row's frame.
  ExprDeeper: what the row's form asks of the program's own text.
-/
import Derived.Test.YtgapmofhnjfdiaaGreatDoorMDLSplit
import Derived.Test.YtgapmofhnjfdiaaGreatDoorEDeep
import Derived.ChangeMaps5
import Derived.SizedLaws
import Derived.Carry
import Derived.Test.YtgapmofhnjfdiaaGreatDoorMvVFrm3
namespace Go.Proofs.YtgapmofhnjfdiaaGreatDoor
open Go.ChangeShapes Go.WideShapes Go.ChangeAt Go.WideMaps Go.WideElems Go.RowKit Go.Shelf Go.Lib

theorem ptab6_of {W : World} (h : VarReads Tryz.prog W "internal/strconv.uint64pow10" Rows.laid_internal_strconv_uint64pow10) : Ptab W := by
  obtain ⟨g', t', cs, fuel, p, hg', ht', hvar, hd⟩ := h
  have hg : Tryz.prog.globalNamed "internal/strconv.uint64pow10" = some 8 := by kernel_rfl
  have hty : (Tryz.prog.globals[8]?).map (·.type) = some 276 := by kernel_rfl
  obtain rfl := Option.some.inj (hg.symm.trans hg')
  obtain rfl := Option.some.inj (hty.symm.trans ht')
  have hd' : DataW.trod (fun _ => ()) Tryz.prog W 0 (fun _ => true) false fuel 276 cs.toList = some (Lib.tabData .u64 Lib.pow10Tab, p) := by
    rw [hd, show Rows.laid_internal_strconv_uint64pow10 = Lib.tabData (H := Unit) .u64 Lib.pow10Tab by kernel_rfl]
  unfold Ptab Lib.TabIs
  rw [hvar, ← cells_of_tab Tryz.underlying276 Tryz.underlying152 (by kernel_rfl) (by kernel_rfl) hd']

/-- An array of texts that reads as these holds them, cell for cell. -/
theorem cells_of_texts {H : Type} {enc : TypeId × Value → H} {P : Program} {w : World} {base : Nat} {sp : Nat → Bool} {held : Bool} {fuel : Nat} {t e : TypeId} {n : Nat} {cs : List Value} {ss : List (List UInt8)} {p : List MemPlace}
    (ht : P.underlying t = some (.array n e)) (he : P.underlying e = some .string) (hce : P.cellsOf e = 1) (hct : P.cellsOf t = n)
    (h : DataW.trod enc P w base sp held fuel t cs = some (.agg (ss.map fun s => .lit (.string s)), p)) : cs = ss.map fun s => Value.string ⟨s.toArray⟩ := by
  cases fuel with
  | zero => simp [DataW.trod] at h
  | succ fuel =>
    simp only [DataW.trod, ht, hce, hct, Nat.mul_one] at h
    split at h
    · rename_i hl
      obtain ⟨xs, hm, hx⟩ := Option.map_eq_some_iff.1 h
      have hxs : xs.map (·.1) = ss.map fun s => (DataW.lit (.string s) : DataW H) := by
        have := congrArg Prod.fst hx
        simpa using this
      have hxl : xs.length = n := by simpa using Lib.mapM_length hm
      have hzl : ss.length = n := by
        have := congrArg List.length hxs
        simp at this
        omega
      apply List.ext_getElem?
      intro i
      by_cases hi : i < n
      · obtain ⟨b, hb, hf⟩ := mapM_at hm i i (by simp [hi])
        obtain ⟨z, hc, rfl, _⟩ := DataW.trod_string he hf
        have h1 : cs[i]? = some (.string z) := by
          have := congrArg (·[0]?) hc
          simpa [List.getElem?_take, List.getElem?_drop] using this
        have h2 : (xs.map (·.1))[i]? = some (DataW.lit (.string z.data.toList) : DataW H) := by simp [hb]
        rw [hxs] at h2
        simp only [List.getElem?_map, Option.map_eq_some_iff, DataW.lit.injEq, Lit.string.injEq] at h2
        obtain ⟨z', hz', rfl⟩ := h2
        simp [h1, hz']
      · rw [List.getElem?_eq_none (by omega), List.getElem?_eq_none (by simp; omega)]
    · cases h

theorem sg_of {W : World} (h : VarReads Tryz.prog W "longstop/expr.signs" Rows.laid_longstop_expr_signs) : Sg W := by
  obtain ⟨g', t', cs, fuel, p, hg', ht', hvar, hd⟩ := h
  have hg : Tryz.prog.globalNamed "longstop/expr.signs" = some 0 := by kernel_rfl
  have hty : (Tryz.prog.globals[0]?).map (·.type) = some 130 := by kernel_rfl
  obtain rfl := Option.some.inj (hg.symm.trans hg')
  obtain rfl := Option.some.inj (hty.symm.trans ht')
  have hd' : DataW.trod (fun _ => ()) Tryz.prog W 0 (fun _ => true) false fuel 130 cs.toList = some (.agg (((List.range 19).map sgn).map fun s => .lit (.string s)), p) := by
    rw [hd, show (Rows.laid_longstop_expr_signs : DataW Unit) = .agg (((List.range 19).map sgn).map fun s => .lit (.string s)) by kernel_rfl]
  have hcs := cells_of_texts Tryz.underlying130 Tryz.underlying9 (by kernel_rfl) (by kernel_rfl) hd'
  intro i hi
  have hc := World.var?_cell hg hvar i
  rw [hc]
  have e : cs = (((List.range 19).map sgn).map fun s => Value.string ⟨s.toArray⟩).toArray := by
    rw [← Array.toArray_toList (xs := cs), hcs]
  rw [e]
  simp [hi]

/-- Names of nodes that came in are no longer than what can be reached. -/
theorem sh_of {H : Type} {ts : List TypeId} {ds : List (DataW H)} {j : Nat} {d : DataW H} {l : List Nd} (h : (DataW.weightsEach Tryz.prog ts ds).all (· ≤ reachBytes) = true) (ht : ts[j]? = some 22) (hd : ds[j]? = some d)
    (hl : ∀ v ∈ l, v.t.length ∈ d.weights Tryz.prog 22 ∧ v.n.length ∈ d.weights Tryz.prog 22) : shN l := by
  intro x hx
  have h1 := List.all_eq_true.1 h _ (DataW.weights_mem_each ht hd _ (hl x hx).1)
  have h2 := List.all_eq_true.1 h _ (DataW.weights_mem_each ht hd _ (hl x hx).2)
  simp only [decide_eq_true_eq] at h1 h2
  exact ⟨h1, h2⟩

theorem deep_all (ao : Option Addr) (cap : Nat) (xs : List Nd) (w : World) (hv : Nw w ao xs) (hn : xs.length * 88 ≤ 140737488351232) (hs : shN xs) (hin : ∀ x ∈ xs, vin x.v) (hT : Tabs w) (hP : Ptab w) (hS : Sg w) :
    Calls Tryz.prog 3 #[.slice ao xs.length cap] w fun e w' => e = .returned (.bool true) ∧ Below w.heap.size w w' := by
  by_cases hd : 0 < depN mayN xs
  · exact deep_pos ao cap xs w hv hn hs (fun x hx => (hin x hx).1) hT hP hS hd
  · exact deep_zero ao cap xs w hv hn hs hT hP hS (by omega)
end Go.Proofs.YtgapmofhnjfdiaaGreatDoor

namespace Go.Proofs.YtgapmofhnjfdiaaGreatDoor
open Go.ChangeShapes Go.WideShapes Go.ChangeAt Go.WideMaps Go.WideElems Go.RowKit Go.Shelf Go.Lib
open Go.ChangeMaps (open_string shut_string)

set_option maxRecDepth 100000 in
theorem dpr_lifted (os : Os) (started : os.Started) (H : Type) (enc : TypeId × Value → H) :
    ReturnsInHanded {} Tryz.checked os 3 .any (fun w args => (Rows.exprDeeperSpec.pre enc Tryz.prog Tryz.f3 [] false w args ∧ laidMetH Tryz.prog Rows.exprDeeperRow.laid w) ∧ sizedMet enc Tryz.prog Tryz.f3 (OpenSpec.ofChange Rows.exprDeeperSpec) false w args)
      (Rows.exprDeeperSpec.post enc Tryz.prog Tryz.f3 false true false false) := by
  refine returnsInHanded_of_change_and (C := Tryz.checked) (X := fun w _ => laidMetH Tryz.prog Rows.exprDeeperRow.laid w) (fun _ _ _ hh h => h.of_heap hh) own started (by kernel_rfl) Tryz.func3
    (ChangeSpec.witness_shaped (enc := enc) (C := Tryz.checked) (os := os) (X := fun w _ => laidMetH Tryz.prog Rows.exprDeeperRow.laid w) false (World.laidAll Tryz.prog os Rows.exprDeeperRow.laid) #[.slice none 0 0] 8 (World.laidAll_os _ _ _)
      (World.shaped_of_ZipB (by kernel_rfl) (by kernel_rfl)) (by kernel_rfl) (by kernel_rfl) (by kernel_rfl)
      (by rw [MakeChecks.laidMetH_plain _ _ _ (by kernel_rfl)]; exact laidMet_laidAll _ (by kernel_rfl) (by kernel_rfl))) ?_
  intro W base args ds gs before hval0 hW _ hsz0 hL _
  have hval : ∀ (j : Nat) t v, Tryz.f3.params[j]? = some t → args[j]? = some v → Value.okWide Tryz.prog W .any base t v := hval0
  have hsz : (DataW.weightsEach Tryz.prog (Tryz.f3.params.toList ++ Rows.exprDeeperSpec.plain.varTypes Tryz.prog) (ds ++ gs)).all (· ≤ reachBytes) = true := hsz0
  have hW' := hW
  obtain ⟨p, q, hA0, hV, rfl, hfz, hnd⟩ := hW
  have hA : DataW.TrodAll enc Tryz.prog W 0 (fun _ => true) true Tryz.f3.params.toList args.toList ds p := hA0
  rw [Tryz.params3] at hA hval hsz
  obtain ⟨v0, d0, rfl, rfl, h0⟩ := trodAll_one hA
  obtain ⟨rfl, rfl⟩ := trodVars_none hV
  obtain ⟨x0, n0, c0, rfl⟩ := okWide_slice Tryz.underlying22 (hval 0 22 v0 rfl rfl)
  have k0 := h0
  have lt0 : ∀ x ∈ p, x.block < W.heap.size := by obtain ⟨m, hm⟩ := k0; exact DataW.trod_lt m _ _ _ hm
  obtain ⟨f0, hf0⟩ := h0
  obtain ⟨g0, r0, e0⟩ := nods_open (a := x0) (len := n0) (cap := c0) hf0 (by simp [Value.cells])
  have z0 : c0 * Tryz.prog.bytesOf 70 ≤ 140737488351232 := by
    rcases e0 with h | ⟨es, sp, hd, hl⟩
    · rw [h]; simp
    · have hd0 : d0 = .slice es sp := hd
      rw [← hl]; exact sized_slice hsz (j := 0) (t := 22) (e := 70) rfl (by simp [hd0]) Tryz.underlying22
  obtain ⟨r0v, rfl, r0c, r0i, r0w⟩ := r0
  have r0s := sh_of hsz (j := 0) rfl rfl r0w
  rw [bytes88] at z0
  clear hA0 hval0 hsz0
  rw [MakeChecks.laidMetH_plain _ _ _ (by kernel_rfl)] at hL
  have hT : Tabs W := tabs_of (Lib.laidMet.reads hL (.tail _ (.tail _ (.tail _ (.tail _ (.tail _ (.tail _ (.tail _ (.head _))))))))) (Lib.laidMet.reads hL (.tail _ (.tail _ (.tail _ (.head _)))))
  have hP : Ptab W := ptab6_of (Lib.laidMet.reads hL (.tail _ (.tail _ (.head _))))
  have hS : Sg W := sg_of (Lib.laidMet.reads hL (.tail _ (.tail _ (.tail _ (.tail _ (.tail _ (.tail _ (.head _))))))))
  refine (deep_all x0 c0 g0 W r0v (by omega) r0s r0i hT hP hS).mono fun e W' ⟨he, bel⟩ => ?_
  subst he
  exact ⟨_, rfl, _, _, _, [], _, [], hW', trodAll_mk1 (shut_bool Tryz.underlying4 _), trodAll_mk1 (Below.trod laidOut (by kernel_rfl) (of_decide_eq_true (by kernel_rfl)) k0 bel lt0), rfl, bel.frame _, fun h => by cases h⟩
end Go.Proofs.YtgapmofhnjfdiaaGreatDoor

namespace Go.Proofs.YtgapmofhnjfdiaaGreatDoor
open Go.ChangeShapes Go.WideShapes Go.ChangeAt Go.WideMaps Go.WideElems Go.RowKit Go.Shelf Go.Lib

theorem dpr_b : joinedFacts Tryz.pinned.checked.prog 3 Tryz.f3 Rows.exprDeeperSpec Rows.exprDeeperRow = true := by kernel_rfl
end Go.Proofs.YtgapmofhnjfdiaaGreatDoor
