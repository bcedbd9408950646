/-
  The contract of maps.Copy at contents.
-/
import Derived.Test.YtecgjfghofpjcaaDkQ
import Derived.Lib.SlMapMerge
import Derived.Maps.Ext
import Derived.Maps.RangeWalk
import Derived.Laws.IdiomRangeMap
namespace Go.Proofs.Ytecgjfghofpjcaa
open Go.RowKit Go.Maps

/-- What fresh has, else what old has. -/
def over (fresh old : Pf) : Pf := fun x => match fresh x with | some r => some r | none => old x

theorem cont_size : (Try.prog.info? 80).map (·.size) = some 512 := by kernel_rfl

theorem run_loadC (W : World) (b : Nat) (r : List UInt8) (hr : r.length = 512) (h : W.rangeAt b 0 (bv r)) : (Instr.loadAt 80 (.pointer (some ⟨b, 0, none⟩))).run Try.prog W = .ok (.agg (bv r).toArray) W :=
  run_loadAt_mid W b 0 _ (bv r) _ h Try.underlying80 rfl (by rw [bv_length, hr]; exact cont_size)

theorem run_storeC (W : World) (b : Nat) (r : List UInt8) (hr : r.length = 512) (h : W.there b 0 512) : (Instr.storeAt 80 (.pointer (some ⟨b, 0, none⟩)) (.agg (bv r).toArray)).run Try.prog W = .ok () (W.setCells b 0 (bv r)) := by
  have hs : (bv r).toArray.size = 512 := by simp [bv_length, hr]
  exact run_storeAt_mid W b 0 _ (bv r).toArray (by rw [hs]; exact h) (by rw [hs]; exact cont_size) (all_oneCell_toArray (bv_cell r))

theorem there_new (W : World) (cs : Array Value) (t : TypeId) (hc : cs.size = 512) : (W.alloc (.cells cs t)).there W.heap.size 0 512 := fun j hj => by
  have h := heap_alloc_new W (.cells cs t)
  refine ⟨?_, bl_open h (0 + j)⟩
  rw [bl_cell h (0 + j) cs[j] (by rw [Nat.zero_add]; exact Array.getElem?_eq_getElem (by omega))]
  rfl

theorem grown_setCells (W : World) (b o : Nat) (vs : List Value) : W.grownBy (W.setCells b o vs) (some b) := by
  induction vs generalizing W o with
  | nil => exact ⟨rfl, rfl, rfl, Nat.le_refl _, fun _ _ _ => rfl⟩
  | cons v vs ih =>
    have h1 : W.grownBy (W.setCell ⟨b, o, none⟩ v) (some b) := ⟨rfl, rfl, rfl, by simp [World.setCell], fun k _ hk => Below.heap_setCell _ _ _ k (fun e => hk (by rw [e]))⟩
    have h2 := ih (W.setCell ⟨b, o, none⟩ v) (o + 1)
    exact ⟨h2.os.trans h1.os, h2.tape.trans h1.tape, h2.output.trans h1.output, Nat.le_trans h1.size h2.size, fun k hk hb => (h2.block k (Nat.lt_of_lt_of_le hk h1.size) hb).trans (h1.block k hk hb)⟩

set_option maxRecDepth 20000 in
set_option maxHeartbeats 2000000 in
theorem copy_any (mo mf no nf : Nat) (old fresh : Pf) (w : World) (ho : MO w mo no old) (hf : MO w mf nf fresh) (hne : mo ≠ mf) (hroom : no + nf ≤ 9223372036854775807) :
    Calls Try.prog 60 #[.map (some mo), .map (some mf)] w fun e w' => (∃ v, e = .returned v) ∧ MO w' mo (no + nf) (over fresh old) ∧ Chg (fun k => k = mo) w w' := by
  obtain ⟨ok1, Dd, hd, id1, hd3⟩ := ho
  obtain ⟨ok2, Ds, hs, id2, hs3⟩ := hf
  have hsz := hs.size_le
  have K := Maps.int_keyed Try.underlying3
  have hbd := hd.lt
  have hbs := hs.lt
  have ud := Try.underlying69
  have HD3 : Hid (∀ x, wf64 x → Maps.has Dd (.int .i64 x) = (old x).isSome ∧ Dd.atKey (.int .i64 x) (.lit (.string z512)) = .lit (.string ((old x).getD z512))) := hd3
  have HS3 : Hid (∀ x, wf64 x → Maps.has Ds (.int .i64 x) = (fresh x).isSome ∧ Ds.atKey (.int .i64 x) (.lit (.string z512)) = .lit (.string ((fresh x).getD z512))) := hs3
  have OK1 : Hid (PfOk old ∧ PfOk fresh) := ⟨ok1, ok2⟩
  clear hd3 hs3 ok1 ok2
  go_enter Try.func60, Try.ntmps60
  go_wp2_with (first
    | (at_range; refine wpList_range_own _ rfl _ 69 rfl 3 80 K ud Rc mf nf _ rfl hs ?_; intro w0 hrg0 hg0 hs0)
    | go_in)
  go_frame
  go_loopw [8] (fun _ wr => ∃ (left : Lit → Bool) (cnt : Nat) (Dout : DataW Unit), wr.ranges Try.prog 3 Rc mf w.heap.size nf Ds left cnt ∧ cnt ≤ Maps.size Ds ∧
      wr.ownsMap Try.prog 3 Rc mo (no + (Maps.size Ds - cnt)) Dout ∧ Merged Dout Dd Ds left ∧ w.grownBy wr (some mo))
    (fun _ wr => wr.rangeLeft mf w.heap.size)
  case atStart =>
    exact ⟨_, _, Dd, hrg0, Nat.le_refl _, (hd.kept hg0 (by simp)).mono (by omega), merged_start Dd Ds, hg0.but _⟩
  case round =>
    obtain ⟨left, cnt, Dout, hrg, hcs, hout, hM, hgw⟩ := hrel
    go_wp2_with (first
      | (at_next; refine wpList_next_ranges _ rfl _ rfl 3 K Rc id id (fun key _ _ => ⟨key, rfl⟩) (fun v _ _ => ⟨v, rfl⟩) mf w.heap.size nf _ _ _ rfl hrg ?_ ?_)
      | go_in)
    · -- nothing is left
      intro hc0 hl0
      go_wp2
      go_end0
      have hO3 : ∀ y, wf64 y → has Dout (.int .i64 y) = (over fresh old y).isSome ∧ Dout.atKey (.int .i64 y) (.lit (.string z512)) = .lit (.string ((over fresh old y).getD z512)) := fun y hy => by
        obtain ⟨a1, a2⟩ := HD3.out y hy
        obtain ⟨b1, b2⟩ := HS3.out y hy
        rw [hM.1, hM.2, hl0, a1, a2, b1, b2]
        unfold over
        cases fresh y <;> cases old y <;> simp
      refine ⟨⟨_, rfl⟩, ⟨fun y bs e => ?_, Dout, hout.mono (by omega), hout.isMap, hO3⟩, chg_of_grown hgw |>.mono (fun k _ e => Option.some.inj e)⟩
      unfold over at e
      cases hfy : fresh y with
      | some r => rw [hfy] at e; exact OK1.out.2 y bs (by rw [hfy]; exact e)
      | none => rw [hfy] at e; exact OK1.out.1 y bs e
    · -- an entry has come
      intro x c kl yd yp w1 cnt1 hkey hlx hv hat hrg1 hlt hg1 hs1 hen
      obtain ⟨r, hr, rfl, e⟩ := rc_inv hv
      obtain ⟨xi, rfl, e2, hwf⟩ := Maps.keyOf_i64 Try.underlying3 hkey
      have hb5 : (bv r).length = 512 := by rw [bv_length, hr]
      have hz5 : Try.zeroCells80.size = 512 := by kernel_rfl
      have hth := there_new w1 Try.zeroCells80 80 hz5
      obtain ⟨W1, hW1⟩ : ∃ W1, W1 = w1.alloc (.cells Try.zeroCells80 80) := ⟨_, rfl⟩
      obtain ⟨W2, hW2⟩ : ∃ W2, W2 = W1.setCells w1.heap.size 0 (bv r) := ⟨_, rfl⟩
      rw [← hW1] at hth
      have hst := run_storeCells_cells (P := Try.prog) w1.heap.size 0 (bv r) 0 W1 (fun j hj => by simpa using (hth j (by omega)).1) (fun j hj => by simpa using (hth j (by omega)).2) (fun v hv => bv_cell r v hv)
      have hra : W2.rangeAt w1.heap.size 0 (bv r) := by rw [hW2]; exact World.rangeAt_setCells_same W1 w1.heap.size 0 (bv r) (by rw [hb5]; exact hth)
      have HRA : Hid (W2.rangeAt w1.heap.size 0 (bv r)) := hra
      have g1 : w1.grownBy W1 none := by rw [hW1]; exact World.grownBy_alloc w1 _ none
      have g2 : W1.grownBy W2 (some w1.heap.size) := by rw [hW2]; exact grown_setCells W1 w1.heap.size 0 (bv r)
      have b2 : Below w1.heap.size w1 W2 := ⟨g2.os.trans g1.os, g2.tape.trans g1.tape, g2.output.trans g1.output, Nat.le_trans g1.size g2.size, fun k hk => (g2.block k (Nat.lt_of_lt_of_le hk g1.size) (fun e => by cases e; omega)).trans (g1.block k hk (by simp))⟩
      simp only [Nat.add_zero, ← hW2] at hst
      clear hra hth hz5 g1 g2
      rw [hW1] at hst
      clear hW2 hW1
      rw [hs1] at hst HRA
      have hb5' : ¬ ¬ (bv r).length = 512 := fun h => h hb5
      have q1 := hrg1.kept (row := none) ⟨b2.os, b2.tape, b2.output, b2.size, fun k hk _ => b2.block k hk⟩ (by simp) (by simp)
      have hout2 := (hout.kept hg1 (fun e => by have := Option.some.inj e; omega)).kept (row := none) ⟨b2.os, b2.tape, b2.output, b2.size, fun k hk _ => b2.block k hk⟩ (by simp)
      have HB2 : Hid (Below w1.heap.size w1 W2) := b2
      clear b2 hb5'
      go_wp2
      refine wp_load_mid 80 _ rfl _ 0 rfl (bv r) _ HRA.out Try.underlying80 rfl (by rw [hb5]; exact cont_size) ?_
      have hnn : no + (Maps.size Ds - cnt) < maxLen := by unfold maxLen; omega
      go_wp2_with (first
        | (at_mapUpdate; refine wpList_mapUpdate_own _ rfl _ _ _ 69 rfl 3 80 K ud Rc mo _ _ rfl hout2 hnn _ _ _ rfl rfl hkey yd yp hv ?_; intro w3 hout3 hg3; go_frame)
        | go_in)
      have q2 := q1.kept hg3 (fun e => hne (Option.some.inj e).symm) (fun e => by have := Option.some.inj e; omega)
      go_roundw
      case rel =>
        have hgm : w.grownBy W2 (some mo) := (hgw.andThen hg1 (fun j hj => .inl (by cases hj; exact Nat.le_refl _))).andThen (World.grownBy.mk (row := none) HB2.out.os HB2.out.tape HB2.out.output HB2.out.size (fun k hk _ => HB2.out.block k hk)) (fun j hj => by cases hj)
        exact ⟨_, cnt1, _, q2, by omega, hout3.mono (by omega), merged_step hM hout.isMap (K.key hkey) hat, hgm.andThen hg3 (fun j hj => .inr hj)⟩
      case measure => rw [q2.left_eq, hrg.left_eq]; exact hlt
end Go.Proofs.Ytecgjfghofpjcaa
