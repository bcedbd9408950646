/-
  What expressions come to, as plain data.
  The contracts of eval.Find and eval.columnValue.
  The contracts of eval.columnValue, eval.operands, eval.apart and eval.stepped.
  The contract of eval.stepped.
  The contract of eval.stepped, whole.
  A stack of values of one's own.
  An append out of a whole slice at a step of a region that draws, and where the new slice lies.
  The document's depth of nodes, and whether they are an expression.
  The document's Columns of nodes, and its Depth.
-/
import Derived.Test.YtclhmmgdhagloaaGreatDoorMVQCallB
import Derived.Test.YtclhmmgdhagloaaGreatDoorMWQFun4
import Derived.Test.YtclhmmgdhagloaaGreatDoorMFEFit
import Derived.Test.YtclhmmgdhagloaaGreatDoorMEEDep
import Derived.Test.YtclhmmgdhagloaaGreatDoorMUQWide
import Derived.Deep.AppendLies
import Derived.Test.YtclhmmgdhagloaaGreatDoorMaLJumps
import Derived.Test.YtclhmmgdhagloaaGreatDoorMPELkB
import Derived.Test.YtclhmmgdhagloaaGreatDoorMKECol
import Derived.Test.YtclhmmgdhagloaaGreatDoorMNXROp
import Derived.BigRegion
namespace Go.Proofs.YtclhmmgdhagloaaGreatDoor

end Go.Proofs.YtclhmmgdhagloaaGreatDoor

namespace Go.Proofs.YtclhmmgdhagloaaGreatDoor
open Go.RowKit Go.Shelf
attribute [local go_sem] cell?_more frozen?_more setCell_more more_lt more_more more_drew more_drewN setCell_drewN alloc_drewN

/-- A row of texts lies behind an address. -/
def Sl (w : World) (ao : Option Addr) (l : List (List UInt8)) : Prop :=
  0 < l.length → ∃ b off, ao = some ⟨b, off, none⟩ ∧ ∀ i (h : i < l.length), w.cell? ⟨b, off + i, none⟩ = some (.string ⟨l[i].toArray⟩)
theorem Sl.later {w w' : World} {ao : Option Addr} {l : List (List UInt8)} (h : Sl w ao l) (hb : Below w.heap.size w w') : Sl w' ao l := by
  intro hp
  obtain ⟨b, off, e, hc⟩ := h hp
  exact ⟨b, off, e, fun i hi => (hb.cell (p := ⟨b, off + i, none⟩) (World.block_lt_of_cell? w _ (hc i hi))).trans (hc i hi)⟩
end Go.Proofs.YtclhmmgdhagloaaGreatDoor

namespace Go.Proofs.YtclhmmgdhagloaaGreatDoor
open Go.RowKit Go.Shelf
attribute [local go_sem] cell?_more frozen?_more setCell_more more_lt more_more more_drew more_drewN setCell_drewN alloc_drewN

end Go.Proofs.YtclhmmgdhagloaaGreatDoor

namespace Go.Proofs.YtclhmmgdhagloaaGreatDoor
open Go.RowKit Go.Shelf
attribute [local go_sem] cell?_more frozen?_more setCell_more more_lt more_more more_drew more_drewN setCell_drewN alloc_drewN cell?_drawTo frozen?_drawTo heap_drawTo setCell_drawTo alloc_drawTo drewN_drawTo drew_drawTo drawTo_drewN drawTo_drew drawTo_drawTo more_drawTo

end Go.Proofs.YtclhmmgdhagloaaGreatDoor

namespace Go.Proofs.YtclhmmgdhagloaaGreatDoor
open Go.RowKit Go.Shelf

end Go.Proofs.YtclhmmgdhagloaaGreatDoor

namespace Go.Proofs.YtclhmmgdhagloaaGreatDoor
open Go.RowKit Go.Shelf

abbrev vcs (v : Va) : Array Value := #[.int .i64 v.k, .int .i64 v.n, .int .i64 v.m, .string ⟨v.b.toArray⟩]
def vcells (l : List Va) : List Value := l.flatMap fun v => (vcs v).toList
theorem vcells_len (l : List Va) : (vcells l).length = l.length * 4 := by
  induction l with
  | nil => rfl
  | cons a l ih =>
    have e : vcells (a :: l) = (vcs a).toList ++ vcells l := by simp [vcells]
    rw [e, List.length_append, ih, List.length_cons]
    simp
    omega
theorem vcells_app (l r : List Va) : vcells (l ++ r) = vcells l ++ vcells r := by simp [vcells]
theorem vcells_at (x : List Va) : ∀ (i j : Nat) (hi : i < x.length), j < 4 → (vcells x)[i * 4 + j]? = (vcs x[i])[j]? := by
  induction x with
  | nil => intro i j hi; simp at hi
  | cons t x ih =>
    intro i j hi hj
    have e : vcells (t :: x) = (vcs t).toList ++ vcells x := by simp [vcells]
    rw [e]
    cases i with
    | zero =>
      rw [List.getElem?_append_left (by simpa using hj)]
      simp
    | succ i =>
      rw [List.getElem?_append_right (by simp; omega)]
      simp at hi
      have := ih i j hi hj
      simp only [List.getElem_cons_succ]
      rw [← this]
      congr 1
      simp; omega
theorem vcells_take (l : List Va) (f : Nat) (h : f ≤ l.length) : (vcells l).take (f * 4) = vcells (l.take f) := by
  have e : vcells l = vcells (l.take f) ++ vcells (l.drop f) := by rw [← vcells_app, List.take_append_drop]
  rw [e, List.take_append_of_le_length (by rw [vcells_len, List.length_take]; omega), List.take_of_length_le (by rw [vcells_len, List.length_take]; omega)]
/-- A stack of values of one's own. -/
abbrev Vk (w : World) (base : Nat) (v : Value) (st : List Va) : Prop := w.ownsRow base 42 4 v st.length (vcells st)
theorem Vk.shape {w : World} {base : Nat} {v : Value} {st : List Va} (h : Vk w base v st) :
    ∃ ao cap, v = .slice ao st.length cap ∧ st.length ≤ cap ∧ (ao = none → st = [] ∧ cap = 0) ∧ (∀ f, f ≤ st.length → Vk w base (.slice ao f cap) (st.take f)) ∧ (∀ a, ao = some a → ∃ g, a = ⟨g, 0, none⟩ ∧ base ≤ g ∧ g < w.heap.size ∧ ∀ i (h : i < st.length), At4 w g (i * 4) st[i]) := by
  obtain ⟨h1, h2⟩ := h
  rcases h2 with ⟨rfl, hn⟩ | ⟨g, cap, cur, rfl, hb, hg, hnc, hcm, hcs, htake⟩
  · have : st = [] := List.length_eq_zero_iff.1 hn
    subst this
    exact ⟨none, 0, rfl, Nat.le_refl _, fun _ => ⟨rfl, rfl⟩, fun f hf => by simp at hf; subst hf; exact World.ownsRow_nil _ _ _ _, fun a ha => by cases ha⟩
  · refine ⟨some ⟨g, 0, none⟩, cap, rfl, hnc, (fun h => by cases h), fun f hf => ?_, fun a ha => ?_⟩
    · have e : (st.take f).length = f := by rw [List.length_take]; omega
      show w.ownsRow base _ 4 _ (st.take f).length _
      rw [e]
      refine ⟨by rw [vcells_len, e], .inr ⟨g, cap, cur, rfl, hb, hg, by omega, hcm, hcs, ?_⟩⟩
      have : cur.toList.take (f * 4) = (cur.toList.take (st.length * 4)).take (f * 4) := by rw [List.take_take, Nat.min_eq_left (by omega)]
      rw [this, htake, vcells_take st f hf]
    · cases ha
      have hlt : g < w.heap.size := by
        rcases Nat.lt_or_ge g w.heap.size with h | h
        · exact h
        · rw [Array.getElem?_eq_none h] at hg; cases hg
      refine ⟨g, rfl, hb, hlt, fun i hi => ?_⟩
      have hc : ∀ j, j < 4 → w.cell? ⟨g, i * 4 + j, none⟩ = (vcs st[i])[j]? := by
        intro j hj
        rw [← vcells_at st i j hi hj, cell_of_row w g (i * 4 + j) cur _ (0, 0) hg, ← htake]
        rw [List.getElem?_take, if_pos (by omega)]
        simp
      exact ⟨hc 0 (by decide), hc 1 (by decide), hc 2 (by decide), hc 3 (by decide)⟩
theorem Vk.push {w : World} {base n : Nat} {d : Va} {v : Value} {st : List Va} (hl : st.length = n) (h : w.ownsRow base 42 4 v (n + 1) (vcells st ++ (vcs d).toList)) : Vk w base v (st ++ [d]) := by
  subst hl
  show w.ownsRow _ _ _ _ (st ++ [d]).length (vcells (st ++ [d]))
  have e1 : (st ++ [d]).length = st.length + 1 := by simp
  have e2 : vcells (st ++ [d]) = vcells st ++ (vcs d).toList := by rw [vcells_app]; simp [vcells]
  rw [e1, e2]
  exact h
theorem Vk.later {w w' : World} {base : Nat} {v : Value} {st : List Va} (h : Vk w base v st) (hb : Below w.heap.size w w') : Vk w' base v st :=
  World.ownsRow.kept (row := none) h ⟨hb.os, hb.tape, hb.output, hb.size, fun k hk _ => hb.block k hk⟩ (by
    cases hv : v.ownBlock with
    | none => exact .inl rfl
    | some k => exact .inr (by simp))
theorem At4.grown {w w' : World} {p o : Nat} {v : Va} {row : Option Nat} (h : At4 w p o v) (hg : w.grownBy w' row) (hne : some p ≠ row) : At4 w' p o v := by
  have hl := h.lt
  obtain ⟨h0, h1, h2, h3⟩ := h
  exact ⟨(hg.cell_far ⟨p, o, none⟩ hl hne).trans h0, (hg.cell_far ⟨p, o + 1, none⟩ hl hne).trans h1, (hg.cell_far ⟨p, o + 2, none⟩ hl hne).trans h2, (hg.cell_far ⟨p, o + 3, none⟩ hl hne).trans h3⟩
end Go.Proofs.YtclhmmgdhagloaaGreatDoor

namespace Go.Proofs.YtclhmmgdhagloaaGreatDoor
open Go.RowKit Go.Shelf

section
variable {P : Program} {w : World}

end

end Go.Proofs.YtclhmmgdhagloaaGreatDoor

namespace Go.Proofs.YtclhmmgdhagloaaGreatDoor
open Go.RowKit Go.Shelf
attribute [local go_sem] cell?_more frozen?_more setCell_more more_lt more_more more_drew more_drewN setCell_drewN alloc_drewN

def mxL (l : List Nat) : Nat := l.foldr max 0
theorem maxD_aux (ds : List Nat) : ∀ m, 1 ≤ m → ds.foldl (fun m d => max m (d + 1)) m = max m (mxL ds + 1) := by
  induction ds with
  | nil => intro m hm; show m = max m 1; omega
  | cons d ds ih =>
    intro m hm
    show ds.foldl (fun m d => max m (d + 1)) (max m (d + 1)) = max m (max d (mxL ds) + 1)
    rw [ih _ (by omega)]
    omega
theorem maxD_mx (ds : List Nat) : maxD ds = mxL ds + 1 := by
  unfold maxD
  rw [maxD_aux ds 1 (Nat.le_refl _)]
  omega
theorem mxL_le {ds : List Nat} {k : Nat} (h : ∀ d ∈ ds, d ≤ k) : mxL ds ≤ k := by
  induction ds with
  | nil => exact Nat.zero_le _
  | cons d ds ih =>
    show max d (mxL ds) ≤ k
    have := h d (by simp)
    have := ih fun x hx => h x (by simp [hx])
    omega
def dpV : Option (List Nat) → Nat
  | some [d] => d
  | _ => 0
theorem src_of_ks {w : World} {base : Nat} {ao : Option Addr} {f cap : Nat} {st : List Nat} (h : Ks w base (.slice ao f cap) (st.take f)) (hf : f ≤ st.length) : Src Tryz.prog 1 68 (.slice ao f cap) f (iv (st.take f)) w := by
  have hl : (st.take f).length = f := by rw [List.length_take]; omega
  obtain ⟨a, c, e, h1, h2, _, h4⟩ := h.shape
  rw [hl] at e
  simp only [Value.slice.injEq] at e
  obtain ⟨rfl, _, rfl⟩ := e
  cases ao with
  | none =>
    have h0 := (h2 rfl).1
    have hf0 : f = 0 := by rw [h0] at hl; simpa using hl.symm
    subst hf0
    exact Src.ofNil w Tryz.underlying68 cap
  | some a =>
    obtain ⟨g, rfl, _, _, h5⟩ := h4 a rfl
    refine Src.ofSlice w Tryz.underlying68 ⟨g, 0, none⟩ f cap (iv (st.take f)) (by rw [iv_len, hl, Nat.mul_one]) (fun j u hu => ?_) (fun u hu => ?_)
    · have hj : j < (iv (st.take f)).length := (List.getElem?_eq_some_iff.1 hu).1
      rw [iv_len] at hj
      rw [Addr.add_lit, Nat.zero_add, h5 j hj, ← hu]
      simp only [iv, List.getElem?_map, List.getElem?_eq_getElem hj, Option.map_some]
    · simp only [iv, List.mem_map] at hu
      obtain ⟨d, _, rfl⟩ := hu
      rfl

theorem ks_base {w : World} {b1 b2 : Nat} {v : Value} {ds : List Nat} (h : Ks w b1 v ds) (hb : b2 ≤ b1) : Ks w b2 v ds := by
  obtain ⟨h1, h2⟩ := h
  refine ⟨h1, ?_⟩
  rcases h2 with h | ⟨g, cap, cur, e, hg, rest⟩
  · exact .inl h
  · exact .inr ⟨g, cap, cur, e, Nat.le_trans hb hg, rest⟩

set_option maxRecDepth 20000 in
set_option maxHeartbeats 4000000 in
theorem rdepth_any (lo : Option Addr) (lc : Nat) (l : List Nd) (w : World) (hv : Nw w lo l) (hlen : l.length ≤ 256) (OP : ∀ x ∈ l, ∀ W, Below w.heap.size w W → Calls Tryz.prog 40 #[ndv x] W fun e w' => e = .returned (.int .i64 (if mayN x = true then opsN x else -1)) ∧ Below W.heap.size W w') :
    Calls Tryz.prog 34 #[.slice lo l.length lc] w fun e w' => e = .returned (.int .i64 (dpV (runD mayN l []) : Int)) ∧ Below w.heap.size w w' := by
  obtain ⟨i0, hi, hz0, hz1, hz2⟩ := info_parts infoInt
  obtain ⟨R, hR⟩ : ∃ R, R = runD mayN l [] := ⟨_, rfl⟩
  rw [← hR]
  have HR : Hid (runD mayN (l.drop 0) [] = R) := hR.symm
  have HOP : Hid (∀ x ∈ l, ∀ W, Below w.heap.size w W → Calls Tryz.prog 40 #[ndv x] W fun e w' => e = .returned (.int .i64 (if mayN x = true then opsN x else -1)) ∧ Below W.heap.size W w') := OP
  clear hR OP
  obtain ⟨n, hnn⟩ : ∃ n, l.length = n := ⟨_, rfl⟩
  rw [hnn] at hlen ⊢
  have HN : Hid (l.length = n) := hnn
  clear hnn
  go_enter Tryz.func34, Tryz.ntmps34
  go_wp2
  go_loopw [3, 4] (fun r3 r4 wr => ∃ (k : Nat) (st : List Nat), r4 = .int .i64 (k : Int) ∧ k ≤ n ∧ st.length ≤ k ∧ (∀ d ∈ st, d ≤ k) ∧ Ks wr w.heap.size r3 st ∧ Below w.heap.size w wr ∧ Hid (runD mayN (l.drop k) st = R)) (fun _ r _ => n - (intOf r).toNat)
  case atStart => exact ⟨0, [], rfl, Nat.zero_le _, Nat.zero_le _, (fun d h => by simp at h), World.ownsRow_nil _ _ _ _, Below.refl _ _, HR⟩
  case round =>
    rename World => wo
    obtain ⟨k, st, rfl, hk, hsl, hsd, ho, hb, hH⟩ := hrel
    have sB := hb.size
    obtain ⟨so, sc, rfl, hsc, hsn, hcut, hcell⟩ := ho.shape
    by_cases hlt : k < n
    · have hlt' : (k : Int) < (n : Int) := by omega
      have k0 : (0 : Int) ≤ (k : Int) := by omega
      have hkl : k < l.length := by rw [HN.out]; exact hlt
      obtain ⟨b, off, rfl, hcl⟩ := hv (by omega)
      obtain ⟨c0, c1, c2, c3, c4, c5, c6, c7⟩ := ((hcl k hkl).later hb)
      have hg' := ((hcl k hkl).later hb).lt
      have hdr : l.drop k = l[k] :: l.drop (k + 1) := List.drop_eq_getElem_cons hkl
      have OPk := HOP.out l[k] (List.getElem_mem _) wo hb
      obtain ⟨x, he⟩ : ∃ x : Nd, x = l[k] := ⟨_, rfl⟩
      rw [← he] at c0 c1 c2 c3 c4 c5 c6 c7 hdr OPk
      have hst := hH.out
      rw [hdr] at hst
      unfold runD stepD at hst
      by_cases hm : mayN x = true
      case neg =>
        rw [if_neg hm] at OPk
        rw [if_neg (fun h => hm h.1)] at hst
        have HF : Hid (R = none) := hst.symm
        obtain ⟨xo, xt, xn, xv, xa⟩ := x
        clear hm hst hH HR hdr he hcl hcell hcut ho hsn
        go_wp2_with fail
        refine OPk.mono ?_
        rintro e w1 ⟨rfl, b1⟩
        have B1 := below_trans hb b1
        go_wp2
        go_ret
        exact ⟨by rw [HF.out]; rfl, B1⟩
      rw [if_pos hm] at OPk
      have hox := mayN_ops x hm
      obtain ⟨q, hq⟩ : ∃ q : Nat, opsN x = (q : Int) := ⟨(opsN x).toNat, by omega⟩
      rw [hq] at OPk hox
      have hq0 : ¬ (q : Int) < 0 := by omega
      by_cases hqs : q ≤ st.length
      case neg =>
        have hqs' : (st.length : Int) < (q : Int) := by omega
        rw [if_neg (fun h => by have := h.2; rw [hq] at this; omega)] at hst
        have HF : Hid (R = none) := hst.symm
        obtain ⟨xo, xt, xn, xv, xa⟩ := x
        clear hm hst hH HR hdr he hcl hcell hcut ho hsn hq
        go_wp2_with fail
        refine OPk.mono ?_
        rintro e w1 ⟨rfl, b1⟩
        have B1 := below_trans hb b1
        go_wp2
        go_ret
        exact ⟨by rw [HF.out]; rfl, B1⟩
      rw [if_pos ⟨hm, by rw [hq]; omega⟩, hq, Int.toNat_natCast, maxD_mx] at hst
      simp only at hst
      obtain ⟨f, hf⟩ : ∃ f : Nat, f = st.length - q := ⟨_, rfl⟩
      rw [← hf] at hst
      have HST : Hid (runD mayN (l.drop (k + 1)) (st.take f ++ [mxL (st.drop f) + 1]) = R) := hst
      have HO : Hid (Ks wo w.heap.size (.slice so f sc) (st.take f)) := hcut f (by omega)
      have hfr : (st.length : Int) - (q : Int) = (f : Int) := by omega
      have hfl : f ≤ st.length := by omega
      have hfs : f ≤ sc := by omega
      have hqs' : ¬ (st.length : Int) < (q : Int) := by omega
      have hst256 : st.length ≤ 255 := by omega
      have HSD : Hid (∀ d ∈ st, d ≤ k) := hsd
      have CEL : Hid (∀ i (h : i < st.length), ∃ g, so = some ⟨g, 0, none⟩ ∧ g < wo.heap.size ∧ wo.cell? ⟨g, i, none⟩ = some (.int .i64 (st[i] : Int))) := fun i h => by
        cases so with
        | none => have := (hsn rfl).1; subst this; simp at h
        | some a => obtain ⟨g, rfl, _, h3, h4⟩ := hcell a rfl; exact ⟨g, rfl, h3, h4 i h⟩
      have hso : so = none ∨ ∃ g, so = some ⟨g, 0, none⟩ := by
        cases so with
        | none => exact .inl rfl
        | some a => obtain ⟨g, rfl, _⟩ := hcell a rfl; exact .inr ⟨g, rfl⟩
      rcases hso with rfl | ⟨g0, rfl⟩
      case inl =>
        obtain ⟨rfl, rfl⟩ := hsn rfl
        have hf0 : f = 0 := by simpa using hfl
        have hq00 : q = 0 := by simpa using hqs
        subst hf0
        subst hq00
        have HST0 : Hid (runD mayN (l.drop (k + 1)) [1] = R) := by show _ = _; have := HST.out; simpa [mxL] using this
        obtain ⟨xo, xt, xn, xv, xa⟩ := x
        clear hm hst hH HR hdr he hcl hcell hcut ho hsn hq hsd hf hfr hfl hfs hqs' hqs CEL HO HST HSD hst256 hsl hsc
        go_wp2_with fail
        refine OPk.mono ?_
        rintro e w1 ⟨rfl, b1⟩
        have B1 := below_trans hb b1
        have s1 := b1.size
        clear c0 c1 c2 c3 c4 c5 c6 c7 OPk
        go_wp2
        go_loopw [6, 7] (fun r6 r7 wr => r6 = .int .i64 0 ∧ r7 = .int .i64 0 ∧ wr = w1) (fun _ _ _ => 0)
        case atStart => exact ⟨rfl, rfl, rfl⟩
        case round =>
          obtain ⟨rfl, rfl, rfl⟩ := hrel
          have A2 : Below wr.heap.size wr (wr.alloc (.cells #[] 3)) := (Below.refl _ _).alloc (Nat.le_refl _) _
          have SRC : Src Tryz.prog 1 68 (.slice none 0 0) 0 [] (wr.alloc (.cells #[] 3)) := Src.ofNil _ Tryz.underlying68 0
          have hmade : (wr.alloc (.cells #[] 3)).ownsRow wr.heap.size 3 1 (.slice (some ⟨wr.heap.size, 0, none⟩) 0 0) 0 [] := World.ownsRow_made wr #[] 0 (Nat.le_refl _) (by decide) (by simp)
          go_wp2_with (at_builtin; refine wpList_append_from rfl _ _ 68 68 rfl wr.heap.size 3 i0 (.int .i64 0) 1 8 Tryz.underlying68 hi hz0 hz1 hz2 rfl _ 0 [] rfl hmade _ 0 [] rfl SRC (by unfold maxLen; omega) (by omega) (by simp) ?_)
          intro v3 w3 o3 g3
          have b13 : Below wr.heap.size wr w3 := A2.grown g3 (by simp) (fun k hk => by cases hk; exact Nat.le_refl _)
          have s3 := b13.size
          clear hmade SRC A2 g3
          go_wp2_with (at_builtin; refine wpList_append_own _ rfl _ _ 68 rfl wr.heap.size 3 i0 (.int .i64 0) 1 8 Tryz.underlying68 hi hz0 hz1 hz2 rfl (by decide) _ _ _ rfl (World.ownsRow.alloc o3 _) ⟨w3.heap.size, 0, none⟩ 1 1 [.int .i64 1] rfl rfl (cell_one_new _ _ _) (one_cell _ _) (by unfold maxLen; omega) (by omega) (by simp; omega) ?_)
          intro v4 w4 o4 g4 _
          have hrow := World.ownsRow.lt o3
          have b14 : Below wr.heap.size wr w4 := (b13.alloc s3 _).grown g4 (by simp; omega) (fun k hk => (hrow k hk).1)
          have o5 : Ks w4 w.heap.size v4 [1] := ks_base (show Ks w4 wr.heap.size v4 [1] from o4) (below_trans hb b1).size
          have B4 := below_trans (below_trans hb b1) b14
          clear o4 o3 g4 hrow
          go_wp2
          exact ⟨⟨k + 1, [1], by rw [cst1], by omega, by simp, (fun d hd => by simp at hd; omega), o5, B4, HST0⟩, by simp [intOf]; omega⟩
      obtain ⟨xo, xt, xn, xv, xa⟩ := x
      have HFR : Hid ((st.length : Int) - (q : Int) = (f : Int)) := hfr
      clear hm hst hH HR hdr he hcl hcell hcut ho hsn hq hsd hf
      go_wp2_with fail
      refine OPk.mono ?_
      rintro e w1 ⟨rfl, b1⟩
      have B1 := below_trans hb b1
      have s1 := b1.size
      clear c0 c1 c2 c3 c4 c5 c6 c7 OPk
      go_wp2
      go_loopw [6, 7] (fun r6 r7 wr => ∃ j : Nat, r7 = .int .i64 (j : Int) ∧ j ≤ q ∧ r6 = .int .i64 (mxL (st.drop (st.length - j)) : Int) ∧ wr = w1) (fun _ r _ => q - (intOf r).toNat)
      case atStart => exact ⟨0, rfl, Nat.zero_le _, by rw [Nat.sub_zero, List.drop_eq_nil_of_le (Nat.le_refl _)]; rfl, rfl⟩
      case round =>
        obtain ⟨j, rfl, hj, rfl, rfl⟩ := hrel
        by_cases hjq : j < q
        · have hjq' : (j : Int) < (q : Int) := by omega
          obtain ⟨L1, hL1⟩ : ∃ L1 : Nat, st.length = L1 + 1 := ⟨st.length - 1, by omega⟩
          obtain ⟨ix, hix⟩ : ∃ ix : Nat, ix = L1 - j := ⟨_, rfl⟩
          have hil : ix < st.length := by omega
          obtain ⟨g, hge, hgl, hgc⟩ := CEL.out ix hil
          obtain rfl : g0 = g := by simpa using hge
          have gc := (b1.cell (p := ⟨g0, ix, none⟩) hgl).trans hgc
          have gl : g0 < wr.heap.size := by omega
          have hdr : st.drop (st.length - (j + 1)) = st[ix] :: st.drop (st.length - j) := by
            have e1 : st.length - (j + 1) = ix := by omega
            have e2 : st.length - j = ix + 1 := by omega
            rw [e1, e2]
            exact List.drop_eq_getElem_cons hil
          have HMX : Hid (mxL (st.drop (st.length - (j + 1))) = max st[ix] (mxL (st.drop (st.length - j)))) := by show _ = _; rw [hdr]; rfl
          have e1 : (st.length : Int) - 1 = (L1 : Int) := by omega
          have e2 : (L1 : Int) - (j : Int) = (ix : Int) := by omega
          have i0' : (0 : Int) ≤ (ix : Int) := by omega
          have hil' : (ix : Int) < (st.length : Int) := by omega
          have hy : st[ix] ≤ 256 := by have := HSD.out st[ix] (List.getElem_mem _); omega
          generalize st[ix] = y at *
          generalize hz : mxL (st.drop (st.length - j)) = z at *
          clear hdr hgc hz hix hL1
          go_wp2
          exact ⟨⟨j + 1, by rw [cst1], by omega, by rw [HMX.out]; congr 1; omega, (by first | trivial | rfl)⟩, by simp [intOf]; omega⟩
        · have hjq' : ¬ (j : Int) < (q : Int) := by omega
          have hjf : st.length - j = f := by omega
          rw [hjf]
          have hz256 : mxL (st.drop f) ≤ k := mxL_le fun d hd => HSD.out d (List.mem_of_mem_drop hd)
          have b01 := b1
          have HO1 : Hid (Ks wr w.heap.size (.slice (some ⟨g0, 0, none⟩) f sc) (st.take f)) := Ks.later HO.out b1
          have A2 : Below wr.heap.size wr (wr.alloc (.cells #[] 3)) := (Below.refl _ _).alloc (Nat.le_refl _) _
          have SRC := src_of_ks (Ks.later HO1.out A2) hfl
          have hmade : (wr.alloc (.cells #[] 3)).ownsRow wr.heap.size 3 1 (.slice (some ⟨wr.heap.size, 0, none⟩) 0 0) 0 [] := World.ownsRow_made wr #[] 0 (Nat.le_refl _) (by decide) (by simp)
          have hlk : (st.take f).length = f := by rw [List.length_take]; omega
          have HLK : Hid ((st.take f).length = f) := hlk
          obtain ⟨z, hz⟩ : ∃ z, mxL (st.drop f) = z := ⟨_, rfl⟩
          rw [hz] at hz256 HST ⊢
          clear hz hlk CEL HO HO1
          go_wp2_with (at_builtin; refine wpList_append_from rfl _ _ 68 68 rfl wr.heap.size 3 i0 (.int .i64 0) 1 8 Tryz.underlying68 hi hz0 hz1 hz2 rfl _ 0 [] rfl hmade _ f (iv (st.take f)) rfl SRC (by unfold maxLen; omega) (by omega) (by simp) ?_)
          intro v3 w3 o3 g3
          have b13 : Below wr.heap.size wr w3 := A2.grown g3 (by simp) (fun k hk => by cases hk; exact Nat.le_refl _)
          have s3 := b13.size
          clear hmade SRC A2 g3
          go_wp2_with (at_builtin; refine wpList_append_own _ rfl _ _ 68 rfl wr.heap.size 3 i0 (.int .i64 0) 1 8 Tryz.underlying68 hi hz0 hz1 hz2 rfl (by decide) _ _ _ rfl (World.ownsRow.alloc o3 _) ⟨w3.heap.size, 0, none⟩ 1 1 [.int .i64 ((z : Int) + 1)] rfl rfl (cell_one_new _ _ _) (one_cell _ _) (by unfold maxLen; omega) (by omega) (by simp; omega) ?_)
          intro v4 w4 o4 g4 _
          have hrow := World.ownsRow.lt o3
          have b14 : Below wr.heap.size wr w4 := (b13.alloc s3 _).grown g4 (by simp; omega) (fun k hk => (hrow k hk).1)
          have hlk2 : (st.take f).length = f := HLK.out
          have o4' : Ks w4 wr.heap.size v4 (st.take f ++ [z + 1]) := by
            show w4.ownsRow _ _ _ _ (st.take f ++ [z + 1]).length (iv (st.take f ++ [z + 1]))
            have e1 : (st.take f ++ [z + 1]).length = f + 1 := by rw [List.length_append, hlk2]; rfl
            have e2 : iv (st.take f ++ [z + 1]) = iv (st.take f) ++ [.int .i64 ((z : Int) + 1)] := by simp [iv]
            rw [e1, e2]
            exact o4
          have o5 : Ks w4 w.heap.size v4 (st.take f ++ [z + 1]) := ks_base o4' (below_trans hb b01).size
          have B4 := below_trans (below_trans hb b01) b14
          clear o4 o4' o3 g4 hrow
          go_wp2
          exact ⟨⟨k + 1, st.take f ++ [z + 1], by rw [cst1], by omega, by rw [List.length_append, hlk2]; simp; omega, (fun d hd => by
            rcases List.mem_append.1 hd with hd | hd
            · exact Nat.le_succ_of_le (HSD.out d (List.mem_of_mem_take hd))
            · simp at hd; omega), o5, B4, HST⟩, by simp [intOf]; omega⟩
    · have hlt' : ¬ (k : Int) < (n : Int) := by omega
      have HF : Hid (R = some st) := by
        have := hH.out
        rw [List.drop_eq_nil_of_le (by rw [HN.out]; omega)] at this
        exact this.symm
      by_cases h1 : st.length = 1
      · obtain ⟨d, rfl⟩ := List.length_eq_one_iff.1 h1
        obtain ⟨g, rfl, hgl, hgc⟩ : ∃ g, so = some ⟨g, 0, none⟩ ∧ g < wo.heap.size ∧ wo.cell? ⟨g, 0, none⟩ = some (.int .i64 (d : Int)) := by
          cases so with
          | none => have := (hsn rfl).1; simp at this
          | some a => obtain ⟨g, rfl, _, h3, h4⟩ := hcell a rfl; exact ⟨g, rfl, h3, by simpa using h4 0 (by simp)⟩
        clear hcell hcut ho hsn hH HR
        go_wp2
        go_ret
        exact ⟨by rw [HF.out]; rfl, hb⟩
      · have h1' : ¬ (st.length : Int) = 1 := by omega
        have HF0 : Hid (dpV R = 0) := by
          show dpV R = 0
          rw [HF.out]
          match st, h1 with
          | [], _ => rfl
          | [_], h => exact absurd rfl h
          | _ :: _ :: _, _ => rfl
        clear hcell hcut ho hsn hH HR h1
        go_wp2
        go_ret
        exact ⟨by rw [HF0.out]; rfl, hb⟩

theorem dep_doc (r : Option (List Nat)) : decide (0 < depO r) = (decide (1 ≤ dpV r) && decide (dpV r ≤ 16)) := by
  match r with
  | none => rfl
  | some [] => rfl
  | some [d] =>
    show decide (0 < if d ≤ 16 then d else 0) = (decide (1 ≤ d) && decide (d ≤ 16))
    by_cases h : d ≤ 16
    · rw [if_pos h, decide_eq_true h, Bool.and_true]
      rfl
    · rw [if_neg h, decide_eq_false h, Bool.and_false]
      rfl
  | some (_ :: _ :: _) => rfl
set_option maxHeartbeats 2000000 in
theorem rright6_any (lo : Option Addr) (lc : Nat) (l : List Nd) (w : World) (hv : Nw w lo l) (hln : l.length ≤ 140737488351232) (OP : ∀ x ∈ l, ∀ W, Below w.heap.size w W → Calls Tryz.prog 40 #[ndv x] W fun e w' => e = .returned (.int .i64 (if mayN x = true then opsN x else -1)) ∧ Below W.heap.size W w') :
    Calls Tryz.prog 10 #[.slice lo l.length lc] w fun e w' => e = .returned (.bool (decide (0 < depN mayN l))) ∧ Below w.heap.size w w' := by
  unfold depN
  by_cases hlen : l.length ≤ 256
  case neg =>
    rw [if_neg hlen]
    have h' : (256 : Int) < (l.length : Int) := by omega
    clear hlen hv OP
    generalize l.length = n at *
    go_enter Tryz.func10, Tryz.ntmps10
    go_wp2
    go_ret
    exact ⟨rfl, Below.refl _ _⟩
  rw [if_pos hlen, dep_doc]
  have D := rdepth_any lo lc l w hv hlen OP
  have h' : ¬ (256 : Int) < (l.length : Int) := by omega
  clear hv OP
  generalize dpV (runD mayN l []) = d at *
  generalize l.length = n at *
  by_cases h1 : 1 ≤ d
  · have h1' : (1 : Int) ≤ (d : Int) := by omega
    rw [decide_eq_true h1, Bool.true_and]
    by_cases h16 : d ≤ 16
    · have h16' : (d : Int) ≤ 16 := by omega
      rw [decide_eq_true h16]
      go_enter Tryz.func10, Tryz.ntmps10
      go_wp2_with (go_at_call 34; refine D.mono ?_; rintro e w1 ⟨rfl, b1⟩)
      go_ret
      exact ⟨by first | rfl | (show Ending.returned (.bool (decide ((d : Int) ≤ 16))) = _; rw [decide_eq_true h16']), b1⟩
    · have h16' : ¬ (d : Int) ≤ 16 := by omega
      rw [decide_eq_false h16]
      go_enter Tryz.func10, Tryz.ntmps10
      go_wp2_with (go_at_call 34; refine D.mono ?_; rintro e w1 ⟨rfl, b1⟩)
      go_ret
      exact ⟨by first | rfl | (show Ending.returned (.bool (decide ((d : Int) ≤ 16))) = _; rw [decide_eq_false (show ¬ (d : Int) ≤ 16 by omega)]), b1⟩
  · have h1' : ¬ (1 : Int) ≤ (d : Int) := by omega
    rw [decide_eq_false h1, Bool.false_and]
    go_enter Tryz.func10, Tryz.ntmps10
    go_wp2_with (go_at_call 34; refine D.mono ?_; rintro e w1 ⟨rfl, b1⟩)
    go_ret
    exact ⟨rfl, b1⟩
end Go.Proofs.YtclhmmgdhagloaaGreatDoor

namespace Go.Proofs.YtclhmmgdhagloaaGreatDoor
open Go.RowKit Go.Shelf
attribute [local go_sem] cell?_more frozen?_more setCell_more more_lt more_more more_drew more_drewN setCell_drewN alloc_drewN

theorem infoNdR : (Tryz.prog.info? 67).map (fun i => (i.zero, i.size, i.bytes)) = some (some (.agg #[.int .i64 0, .string ⟨#[]⟩, .string ⟨#[]⟩, .int .i64 0, .int .i64 0, .int .i64 0, .string ⟨#[]⟩, .int .i64 0]), 8, 88) := by kernel_rfl
/-- The document's nodes that a call has made. -/
abbrev NownsR (w : World) (base : Nat) (v : Value) (x : List Nd) : Prop := w.ownsRow base 67 8 v x.length (ncells x)
theorem NownsR.lies {w : World} {base : Nat} {v : Value} {x : List Nd} (h : NownsR w base v x) :
    ∃ ao cap, v = .slice ao x.length cap ∧ Nw w ao x := by
  obtain ⟨h1, h2⟩ := h
  rcases h2 with ⟨rfl, hn⟩ | ⟨g, cap, cur, rfl, hb, hg, hnc, hcm, hcs, htake⟩
  · exact ⟨none, 0, by rw [hn], fun hp => by omega⟩
  · refine ⟨some ⟨g, 0, none⟩, cap, rfl, fun hp => ⟨g, 0, rfl, fun i hi => ?_⟩⟩
    have hc : ∀ j, j < 8 → w.cell? ⟨g, 0 + i * 8 + j, none⟩ = (ncs x[i])[j]? := by
      intro j hj
      rw [← ncells_at x i j hi hj, cell_of_row w g (0 + i * 8 + j) cur _ (0, 0) hg, ← htake]
      rw [List.getElem?_take, if_pos (by omega), Nat.zero_add]
      simp
    exact ⟨hc 0 (by decide), hc 1 (by decide), hc 2 (by decide), hc 3 (by decide), hc 4 (by decide), hc 5 (by decide), hc 6 (by decide), hc 7 (by decide)⟩
theorem NownsR.push {w : World} {base n : Nat} {v : Value} {acc : List Nd} {x : Nd} (h : w.ownsRow base 67 8 v n (ncells acc ++ (ncs x).toList)) (hn : n = acc.length + 1) : NownsR w base v (acc ++ [x]) := by
  unfold NownsR
  rw [ncells_snoc, List.length_append]
  subst hn
  exact h
def metN (out : List Nd) (x : Nd) : Bool := out.any fun y => y.t == x.t && y.n == x.n
def colsD : List Nd → List Nd → List Nd
  | [], out => out
  | x :: l, out => colsD l (if x.o = 2 ∧ metN out x = false then out ++ [x] else out)
theorem cols_doc (l : List Nd) : ∀ out, (∀ x ∈ l, mayN x = true) → (∀ y ∈ out, y = ⟨2, y.t, y.n, vz0, 0⟩) → colsD l out = colsL l out := by
  induction l with
  | nil => intro out _ _; rfl
  | cons x l ih =>
    intro out hl ho
    unfold colsD colsL
    by_cases h2 : x.o = 2
    · have hx : x = ⟨2, x.t, x.n, vz0, 0⟩ := by
        have hm := hl x (by simp)
        unfold mayN at hm
        rw [Bool.and_eq_true] at hm
        have e := sameN_eq.1 hm.1
        unfold namedN at e
        rw [if_neg (by omega), if_pos h2] at e
        exact e
      have hmem : metN out x = memN out x := by
        unfold metN memN
        rw [Bool.eq_iff_iff]
        simp only [List.any_eq_true, Bool.and_eq_true, beq_iff_eq]
        constructor
        · rintro ⟨y, hy, h3, h4⟩
          refine ⟨y, hy, sameN_eq.2 ?_⟩
          rw [ho y hy, hx, ← h3, ← h4]
        · rintro ⟨y, hy, h3⟩
          have := sameN_eq.1 h3
          exact ⟨y, hy, by rw [this], by rw [this]⟩
      rw [hmem, ← hx]
      refine ih _ (fun y hy => hl y (by simp [hy])) ?_
      split
      · intro y hy
        rcases List.mem_append.1 hy with h | h
        · exact ho y h
        · obtain rfl : y = x := by simpa using h
          exact hx
      · exact ho
    · rw [if_neg (fun h => h2 h.1), if_neg (fun h => h2 h.1)]
      exact ih _ (fun y hy => hl y (by simp [hy])) ho
theorem metN_snoc (out : List Nd) (x : Nd) (j : Nat) (h : j < out.length) : metN (out.take (j + 1)) x = (metN (out.take j) x || (out[j].t == x.t && out[j].n == x.n)) := by
  unfold metN
  rw [List.take_succ_eq_append_getElem h, List.any_append]
  simp

set_option maxRecDepth 20000 in
set_option maxHeartbeats 4000000 in
theorem rcolumns_any (ao : Option Addr) (cap : Nat) (l : List Nd) (w : World) (hv : Nw w ao l) (_hn : l.length ≤ 140737488351232)
    (RI : Calls Tryz.prog 10 #[.slice ao l.length cap] w fun e w' => e = .returned (.bool (decide (0 < depN mayN l))) ∧ Below w.heap.size w w') :
    Calls Tryz.prog 15 #[.slice ao l.length cap] w fun e w' => (∃ v, e = .returned v ∧ NownsR w' w.heap.size v (if 0 < depN mayN l then colsL l [] else [])) ∧ Below w.heap.size w w' := by
  obtain ⟨i0, hi, hz0, hz1, hz2⟩ := info_parts infoNdR
  by_cases hd : 0 < depN mayN l
  case neg =>
    rw [if_neg hd]
    rw [decide_eq_false hd] at RI
    clear hd hv
    generalize l.length = n at *
    go_enter Tryz.func15, Tryz.ntmps15
    go_wp2_with (go_at_call 10; refine RI.mono ?_; rintro e w1 ⟨rfl, b1⟩)
    go_ret
    exact ⟨⟨_, rfl, World.ownsRow_nil _ _ _ _⟩, b1⟩
  rw [if_pos hd]
  rw [decide_eq_true hd] at RI
  rw [← cols_doc l [] (dep_may hd) (fun y hy => by simp at hy)]
  have hlen : l.length ≤ 256 := by
    unfold depN at hd
    split at hd
    · assumption
    · omega
  obtain ⟨R, hR⟩ : ∃ R, R = colsD l [] := ⟨_, rfl⟩
  rw [← hR]
  have HR : Hid (colsD (l.drop 0) [] = R) := hR.symm
  clear hR hd
  obtain ⟨n, hnn⟩ : ∃ n, l.length = n := ⟨_, rfl⟩
  rw [hnn] at hlen RI ⊢
  have HN : Hid (l.length = n) := hnn
  clear hnn
  go_enter Tryz.func15, Tryz.ntmps15
  go_wp2_with (go_at_call 10; refine RI.mono ?_; rintro e w1 ⟨rfl, b1⟩)
  go_loopw [3, 4] (fun r3 r4 wr => ∃ (k : Nat) (out : List Nd), r4 = .int .i64 (k : Int) ∧ k ≤ n ∧ out.length ≤ k ∧ NownsR wr w.heap.size r3 out ∧ Below w.heap.size w wr ∧ Hid (colsD (l.drop k) out = R)) (fun _ r _ => n - (intOf r).toNat)
  case atStart => exact ⟨0, [], rfl, Nat.zero_le _, Nat.zero_le _, World.ownsRow_nil _ _ _ _, b1, HR⟩
  case round =>
    rename World => wo
    obtain ⟨k, out, rfl, hk, hol, ho, hb, hH⟩ := hrel
    have sB := hb.size
    by_cases hlt : k < n
    · have hlt' : (k : Int) < (n : Int) := by omega
      have k0 : (0 : Int) ≤ (k : Int) := by omega
      have hkl : k < l.length := by rw [HN.out]; exact hlt
      obtain ⟨b, off, rfl, hcl⟩ := hv (by omega)
      obtain ⟨c0, c1, c2, c3, c4, c5, c6, c7⟩ := ((hcl k hkl).later hb)
      have hg' := ((hcl k hkl).later hb).lt
      have hdr : l.drop k = l[k] :: l.drop (k + 1) := List.drop_eq_getElem_cons hkl
      obtain ⟨x, he⟩ : ∃ x : Nd, x = l[k] := ⟨_, rfl⟩
      rw [← he] at c0 c1 c2 c3 c4 c5 c6 c7 hdr
      have HST : Hid (colsD (l.drop (k + 1)) (if x.o = 2 ∧ metN out x = false then out ++ [x] else out) = R) := by
        have := hH.out
        rw [hdr] at this
        exact this
      obtain ⟨oa, oc, rfl, hnw⟩ := ho.lies
      have HO : Hid (NownsR wo w.heap.size (.slice oa out.length oc) out) := ho
      have HNW : Hid (Nw wo oa out) := hnw
      obtain ⟨q, hq⟩ : ∃ q, out.length = q := ⟨_, rfl⟩
      have HQ : Hid (out.length = q) := hq
      have hqk : q ≤ 255 := by omega
      obtain ⟨xo, xt, xn, xv, xa⟩ := x
      dsimp only at HST c0 c1 c2 c3 c4 c5 c6 c7
      obtain ⟨XT, hXT⟩ : ∃ XT : ByteArray, XT = ⟨xt.toArray⟩ := ⟨_, rfl⟩
      obtain ⟨XN, hXN⟩ : ∃ XN : ByteArray, XN = ⟨xn.toArray⟩ := ⟨_, rfl⟩
      have HXT : Hid (XT.toList = xt) := by show _ = _; rw [hXT, ByteArray.toList_eq]
      have HXN : Hid (XN.toList = xn) := by show _ = _; rw [hXN, ByteArray.toList_eq]
      have HXT2 : Hid (XT = ⟨xt.toArray⟩) := hXT
      have HXN2 : Hid (XN = ⟨xn.toArray⟩) := hXN
      have CX : Hid (∀ W, Below wo.heap.size wo W → N8 W b (off + k * 8) ⟨xo, xt, xn, xv, xa⟩) := fun W h => (show N8 wo b (off + k * 8) ⟨xo, xt, xn, xv, xa⟩ from ⟨c0, c1, c2, c3, c4, c5, c6, c7⟩).later h
      obtain ⟨z, hz⟩ : ∃ z : Bool, z = (xo != 2) := ⟨_, rfl⟩
      have HZ : Hid (z = (xo != 2)) := hz
      clear hcl he hH HR hdr ho hnw hXT hXN
      rw [hq]
      clear hq
      go_wp2_with fail
      all_goals (try simp only [← hz])
      clear hz c0 c1 c2 c3 c4 c5 c6 c7
      go_loopw [5, 6] (fun r5 r6 wr => ∃ j : Nat, r6 = .int .i64 (j : Int) ∧ j ≤ q ∧ Below wo.heap.size wo wr ∧ ∃ m : Bool, r5 = .bool m ∧ Hid (m = (z || metN (out.take j) ⟨xo, xt, xn, xv, xa⟩))) (fun _ r _ => q - (intOf r).toNat)
      case atStart => exact ⟨0, rfl, Nat.zero_le _, Below.refl _ _, z, rfl, by show _ = _; simp [metN]⟩
      case round =>
        rename World => wi
        obtain ⟨j, rfl, hj, hbi, m, rfl, hm⟩ := hrel
        obtain ⟨c0, c1, c2, c3, c4, c5, c6, c7⟩ := CX.out wi hbi
        have hgi := (CX.out wi hbi).lt
        dsimp only at c0 c1 c2 c3 c4 c5 c6 c7
        rw [← HXT2.out] at c1
        rw [← HXN2.out] at c2
        by_cases hjq : j < q
        · have hjq' : (j : Int) < (q : Int) := by omega
          have j0 : (0 : Int) ≤ (j : Int) := by omega
          have hjl : j < out.length := by rw [HQ.out]; exact hjq
          obtain ⟨g, goff, hge, hgc⟩ := HNW.out (by omega)
          subst hge
          obtain ⟨d0, d1, d2, d3, d4, d5, d6, d7⟩ := (hgc j hjl).later hbi
          have dl := ((hgc j hjl).later hbi).lt
          have hms := metN_snoc out ⟨xo, xt, xn, xv, xa⟩ j hjl
          generalize out[j] = y at *
          obtain ⟨yo, yt, yn, yv, ya⟩ := y
          dsimp only at d0 d1 d2 d3 d4 d5 d6 d7 hms
          obtain ⟨YT, hYT⟩ : ∃ YT : ByteArray, YT = ⟨yt.toArray⟩ := ⟨_, rfl⟩
          obtain ⟨YN, hYN⟩ : ∃ YN : ByteArray, YN = ⟨yn.toArray⟩ := ⟨_, rfl⟩
          have eYT : YT.toList = yt := by rw [hYT, ByteArray.toList_eq]
          have eYN : YN.toList = yn := by rw [hYN, ByteArray.toList_eq]
          rw [← hYT] at d1
          rw [← hYN] at d2
          have HMS : Hid (metN (out.take (j + 1)) ⟨xo, xt, xn, xv, xa⟩ = (metN (out.take j) ⟨xo, xt, xn, xv, xa⟩ || (YT.toList == XT.toList && YN.toList == XN.toList))) := by show _ = _; rw [eYT, eYN, HXT.out, HXN.out]; exact hms
          clear hms hYT hYN eYT eYN hgc
          cases m with
          | true =>
            have HF : Hid (true = (z || metN (out.take (j + 1)) ⟨xo, xt, xn, xv, xa⟩)) := by show true = _; rw [HMS.out, ← Bool.or_assoc, ← hm.out, Bool.true_or]
            clear hm HMS
            go_wp2
            try go_region
            all_goals (try go_wp2)
            all_goals exact ⟨⟨j + 1, by rw [cst1], by omega, (by first | exact hbi | exact hbi.drew), true, rfl, HF⟩, by simp [intOf]; omega⟩
          | false =>
            by_cases e1 : YT.toList = XT.toList
            · have e1' : (YT.toList == XT.toList) = true := by rw [beq_iff_eq]; exact e1
              by_cases e2 : YN.toList = XN.toList
              · have e2' : (YN.toList == XN.toList) = true := by rw [beq_iff_eq]; exact e2
                have HF : Hid (true = (z || metN (out.take (j + 1)) ⟨xo, xt, xn, xv, xa⟩)) := by show true = _; rw [HMS.out, ← Bool.or_assoc, ← hm.out, e1', e2']; rfl
                clear hm HMS e1 e2
                go_wp2
                try go_region
                all_goals (try go_wp2)
                all_goals exact ⟨⟨j + 1, by rw [cst1], by omega, (by first | exact hbi | exact hbi.drew), true, rfl, HF⟩, by simp [intOf]; omega⟩
              · have e2' : (YN.toList == XN.toList) = false := by rw [beq_eq_false_iff_ne]; exact e2
                have HF : Hid (false = (z || metN (out.take (j + 1)) ⟨xo, xt, xn, xv, xa⟩)) := by show false = _; rw [HMS.out, ← Bool.or_assoc, ← hm.out, e1', e2']; rfl
                clear hm HMS e1 e2
                go_wp2
                try go_region
                all_goals (try go_wp2)
                all_goals exact ⟨⟨j + 1, by rw [cst1], by omega, (by first | exact hbi | exact hbi.drew), false, rfl, HF⟩, by simp [intOf]; omega⟩
            · have e1' : (YT.toList == XT.toList) = false := by rw [beq_eq_false_iff_ne]; exact e1
              have HF : Hid (false = (z || metN (out.take (j + 1)) ⟨xo, xt, xn, xv, xa⟩)) := by show false = _; rw [HMS.out, ← Bool.or_assoc, ← hm.out, e1']; rfl
              clear hm HMS e1
              go_wp2
              try go_region
              all_goals (try go_wp2)
              all_goals exact ⟨⟨j + 1, by rw [cst1], by omega, (by first | exact hbi | exact hbi.drew), false, rfl, HF⟩, by simp [intOf]; omega⟩
        · have hjq' : ¬ (j : Int) < (q : Int) := by omega
          have hm2 : m = (xo != 2 || metN out ⟨xo, xt, xn, xv, xa⟩) := by
            have := hm.out
            rw [List.take_of_length_le (by rw [HQ.out]; omega), HZ.out] at this
            exact this
          clear hm
          cases m with
          | true =>
            rw [if_neg (by
              rintro ⟨h1, h2⟩
              rw [h2, h1] at hm2
              simp at hm2)] at HST
            clear hm2
            go_wp2
            exact ⟨⟨k + 1, out, by rw [cst1], by omega, by omega, by have := World.ownsRow.kept (row := none) HO.out ⟨hbi.os, hbi.tape, hbi.output, hbi.size, fun k hk _ => hbi.block k hk⟩ (by cases hv : (Value.slice oa out.length oc).ownBlock with | none => exact .inl rfl | some k => exact .inr (by simp)); rw [HQ.out] at this; unfold NownsR; rw [HQ.out]; exact this, below_trans hb hbi, HST⟩, by simp [intOf]; omega⟩
          | false =>
            have hm3 : xo = 2 ∧ metN out ⟨xo, xt, xn, xv, xa⟩ = false := by
              have := hm2.symm
              rw [Bool.or_eq_false_iff] at this
              exact ⟨by simpa using this.1, this.2⟩
            rw [if_pos hm3] at HST
            clear hm2 hm3
            have ho' : wi.ownsRow w.heap.size 67 8 (.slice oa q oc) q (ncells out) := by have := World.ownsRow.kept (row := none) HO.out ⟨hbi.os, hbi.tape, hbi.output, hbi.size, fun k hk _ => hbi.block k hk⟩ (by cases hv : (Value.slice oa out.length oc).ownBlock with | none => exact .inl rfl | some k => exact .inr (by simp)); rw [HQ.out] at this; exact this
            have sI := (below_trans hb hbi).size
            rw [HXT2.out] at c1
            rw [HXN2.out] at c2
            go_wp2_with (at_builtin; refine wpList_append_own _ rfl _ _ 22 rfl w.heap.size 67 i0 _ 8 88 Tryz.underlying22 hi hz0 hz1 hz2 rfl (by decide) _ _ _ rfl (World.ownsRow.alloc ho' _) ⟨wi.heap.size, 0, none⟩ 1 1 (ncs ⟨xo, xt, xn, xv, xa⟩).toList rfl rfl (World.news_of_block (cs := ncs ⟨xo, xt, xn, xv, xa⟩) (t := 67) (fr := (0, 0)) (heap_alloc_new wi _)) (one_nd ⟨xo, xt, xn, xv, xa⟩) (by unfold maxLen; omega) (by omega) (by simp; omega) ?_)
            intro v4 w4 o4 g4 _
            have B4 : Below w.heap.size w w4 := ((below_trans hb hbi).alloc sI _).grown g4 (by simp; omega) (fun k hk => (World.ownsRow.lt ho' k hk).1)
            have o5 := NownsR.push (x := ⟨xo, xt, xn, xv, xa⟩) o4 (by rw [HQ.out])
            clear o4 g4
            go_wp2
            exact ⟨⟨k + 1, out ++ [⟨xo, xt, xn, xv, xa⟩], by rw [cst1], by omega, by rw [List.length_append]; simp; omega, o5, B4, HST⟩, by simp [intOf]; omega⟩
    · have hlt' : ¬ (k : Int) < (n : Int) := by omega
      have HF : Hid (out = R) := by
        have := hH.out
        rw [List.drop_eq_nil_of_le (by rw [HN.out]; omega)] at this
        exact this
      clear hH HR
      go_wp2
      go_ret
      first | exact ⟨⟨_, rfl, HF.out ▸ ho⟩, hb⟩ | exact ⟨HF.out ▸ ho, hb⟩

theorem dep_val (l : List Nd) (h : 0 < depN mayN l) : l.length ≤ 256 ∧ dpV (runD mayN l []) = depN mayN l := by
  unfold depN at h ⊢
  split at h
  case isFalse => omega
  case isTrue hl =>
    refine ⟨hl, ?_⟩
    rw [if_pos hl]
    unfold depO at h ⊢
    split at h
    · rename_i d hd
      rw [hd]
      show d = if d ≤ 16 then d else 0
      split at h
      · rename_i h16; rw [if_pos h16]
      · omega
    · omega
set_option maxHeartbeats 2000000 in
theorem rdepth6_any (ao : Option Addr) (cap : Nat) (l : List Nd) (w : World) (hv : Nw w ao l)
    (RI : Calls Tryz.prog 10 #[.slice ao l.length cap] w fun e w' => e = .returned (.bool (decide (0 < depN mayN l))) ∧ Below w.heap.size w w')
    (OP : ∀ x ∈ l, ∀ W, Below w.heap.size w W → Calls Tryz.prog 40 #[ndv x] W fun e w' => e = .returned (.int .i64 (if mayN x = true then opsN x else -1)) ∧ Below W.heap.size W w') :
    Calls Tryz.prog 12 #[.slice ao l.length cap] w fun e w' => e = .returned (.int .i64 (depN mayN l : Int)) ∧ Below w.heap.size w w' := by
  by_cases hd : 0 < depN mayN l
  · obtain ⟨hl, he⟩ := dep_val l hd
    have DP : ∀ W, Below w.heap.size w W → _ := fun W h => rdepth_any ao cap l W (hv.later h) hl (fun x hx W' h' => OP x hx W' (below_trans h h'))
    rw [decide_eq_true hd] at RI
    rw [← he]
    clear hv OP hd he hl
    generalize dpV (runD mayN l []) = d at *
    generalize l.length = n at *
    go_enter Tryz.func12, Tryz.ntmps12
    go_wp2_with fail
    refine RI.mono ?_
    rintro e w1 ⟨rfl, b1⟩
    go_wp2_with fail
    refine (DP _ b1).mono ?_
    rintro e w2 ⟨rfl, b2⟩
    go_wp2
    go_ret
    exact ⟨rfl, below_trans b1 b2⟩
  · rw [decide_eq_false hd] at RI
    rw [show depN mayN l = 0 by omega]
    clear hv OP hd
    generalize l.length = n at *
    go_enter Tryz.func12, Tryz.ntmps12
    go_wp2_with fail
    refine RI.mono ?_
    rintro e w1 ⟨rfl, b1⟩
    go_wp2
    go_ret
    exact ⟨rfl, b1⟩
end Go.Proofs.YtclhmmgdhagloaaGreatDoor
