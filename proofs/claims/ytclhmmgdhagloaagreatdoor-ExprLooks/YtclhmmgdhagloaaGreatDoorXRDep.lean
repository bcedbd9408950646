/-
  The document's depth of nodes, and whether they are an expression.
-/
import Derived.Test.YtclhmmgdhagloaaGreatDoorXROpW
import Derived.Test.YtclhmmgdhagloaaGreatDoorEDep
import Derived.Test.YtclhmmgdhagloaaGreatDoorMaLJumps
namespace Go.Proofs.YtclhmmgdhagloaaGreatDoor
open Go.RowKit Go.Shelf
attribute [local go_sem] cell?_more frozen?_more setCell_more more_lt more_more more_drew more_drewN setCell_drewN alloc_drewN

def mxL (l : List Nat) : Nat := l.foldr max 0
theorem maxD_aux (ds : List Nat) : ∀ m, 1 ≤ m → ds.foldl (fun m d => max m (d + 1)) m = max m (mxL ds + 1) := by
  induction ds with
  | nil => intro m hm; show m = max m 1; omega
  | cons d ds ih =>
    intro m hm
    show ds.foldl (fun m d => max m (d + 1)) (max m (d + 1)) = max m (max d (mxL ds) + 1)
    rw [ih _ (by omega)]
    omega
theorem maxD_mx (ds : List Nat) : maxD ds = mxL ds + 1 := by
  unfold maxD
  rw [maxD_aux ds 1 (Nat.le_refl _)]
  omega
theorem mxL_le {ds : List Nat} {k : Nat} (h : ∀ d ∈ ds, d ≤ k) : mxL ds ≤ k := by
  induction ds with
  | nil => exact Nat.zero_le _
  | cons d ds ih =>
    show max d (mxL ds) ≤ k
    have := h d (by simp)
    have := ih fun x hx => h x (by simp [hx])
    omega
def dpV : Option (List Nat) → Nat
  | some [d] => d
  | _ => 0
theorem src_of_ks {w : World} {base : Nat} {ao : Option Addr} {f cap : Nat} {st : List Nat} (h : Ks w base (.slice ao f cap) (st.take f)) (hf : f ≤ st.length) : Src Tryz.prog 1 68 (.slice ao f cap) f (iv (st.take f)) w := by
  have hl : (st.take f).length = f := by rw [List.length_take]; omega
  obtain ⟨a, c, e, h1, h2, _, h4⟩ := h.shape
  rw [hl] at e
  simp only [Value.slice.injEq] at e
  obtain ⟨rfl, _, rfl⟩ := e
  cases ao with
  | none =>
    have h0 := (h2 rfl).1
    have hf0 : f = 0 := by rw [h0] at hl; simpa using hl.symm
    subst hf0
    exact Src.ofNil w Tryz.underlying68 cap
  | some a =>
    obtain ⟨g, rfl, _, _, h5⟩ := h4 a rfl
    refine Src.ofSlice w Tryz.underlying68 ⟨g, 0, none⟩ f cap (iv (st.take f)) (by rw [iv_len, hl, Nat.mul_one]) (fun j u hu => ?_) (fun u hu => ?_)
    · have hj : j < (iv (st.take f)).length := (List.getElem?_eq_some_iff.1 hu).1
      rw [iv_len] at hj
      rw [Addr.add_lit, Nat.zero_add, h5 j hj, ← hu]
      simp only [iv, List.getElem?_map, List.getElem?_eq_getElem hj, Option.map_some]
    · simp only [iv, List.mem_map] at hu
      obtain ⟨d, _, rfl⟩ := hu
      rfl

theorem ks_base {w : World} {b1 b2 : Nat} {v : Value} {ds : List Nat} (h : Ks w b1 v ds) (hb : b2 ≤ b1) : Ks w b2 v ds := by
  obtain ⟨h1, h2⟩ := h
  refine ⟨h1, ?_⟩
  rcases h2 with h | ⟨g, cap, cur, e, hg, rest⟩
  · exact .inl h
  · exact .inr ⟨g, cap, cur, e, Nat.le_trans hb hg, rest⟩

set_option maxRecDepth 20000 in
set_option maxHeartbeats 4000000 in
theorem rdepth_any (lo : Option Addr) (lc : Nat) (l : List Nd) (w : World) (hv : Nw w lo l) (hlen : l.length ≤ 256) (OP : ∀ x ∈ l, ∀ W, Below w.heap.size w W → Calls Tryz.prog 40 #[ndv x] W fun e w' => e = .returned (.int .i64 (if mayN x = true then opsN x else -1)) ∧ Below W.heap.size W w') :
    Calls Tryz.prog 34 #[.slice lo l.length lc] w fun e w' => e = .returned (.int .i64 (dpV (runD mayN l []) : Int)) ∧ Below w.heap.size w w' := by
  obtain ⟨i0, hi, hz0, hz1, hz2⟩ := info_parts infoInt
  obtain ⟨R, hR⟩ : ∃ R, R = runD mayN l [] := ⟨_, rfl⟩
  rw [← hR]
  have HR : Hid (runD mayN (l.drop 0) [] = R) := hR.symm
  have HOP : Hid (∀ x ∈ l, ∀ W, Below w.heap.size w W → Calls Tryz.prog 40 #[ndv x] W fun e w' => e = .returned (.int .i64 (if mayN x = true then opsN x else -1)) ∧ Below W.heap.size W w') := OP
  clear hR OP
  obtain ⟨n, hnn⟩ : ∃ n, l.length = n := ⟨_, rfl⟩
  rw [hnn] at hlen ⊢
  have HN : Hid (l.length = n) := hnn
  clear hnn
  go_enter Tryz.func34, Tryz.ntmps34
  go_wp2
  go_loopw [3, 4] (fun r3 r4 wr => ∃ (k : Nat) (st : List Nat), r4 = .int .i64 (k : Int) ∧ k ≤ n ∧ st.length ≤ k ∧ (∀ d ∈ st, d ≤ k) ∧ Ks wr w.heap.size r3 st ∧ Below w.heap.size w wr ∧ Hid (runD mayN (l.drop k) st = R)) (fun _ r _ => n - (intOf r).toNat)
  case atStart => exact ⟨0, [], rfl, Nat.zero_le _, Nat.zero_le _, (fun d h => by simp at h), World.ownsRow_nil _ _ _ _, Below.refl _ _, HR⟩
  case round =>
    rename World => wo
    obtain ⟨k, st, rfl, hk, hsl, hsd, ho, hb, hH⟩ := hrel
    have sB := hb.size
    obtain ⟨so, sc, rfl, hsc, hsn, hcut, hcell⟩ := ho.shape
    by_cases hlt : k < n
    · have hlt' : (k : Int) < (n : Int) := by omega
      have k0 : (0 : Int) ≤ (k : Int) := by omega
      have hkl : k < l.length := by rw [HN.out]; exact hlt
      obtain ⟨b, off, rfl, hcl⟩ := hv (by omega)
      obtain ⟨c0, c1, c2, c3, c4, c5, c6, c7⟩ := ((hcl k hkl).later hb)
      have hg' := ((hcl k hkl).later hb).lt
      have hdr : l.drop k = l[k] :: l.drop (k + 1) := List.drop_eq_getElem_cons hkl
      have OPk := HOP.out l[k] (List.getElem_mem _) wo hb
      obtain ⟨x, he⟩ : ∃ x : Nd, x = l[k] := ⟨_, rfl⟩
      rw [← he] at c0 c1 c2 c3 c4 c5 c6 c7 hdr OPk
      have hst := hH.out
      rw [hdr] at hst
      unfold runD stepD at hst
      by_cases hm : mayN x = true
      case neg =>
        rw [if_neg hm] at OPk
        rw [if_neg (fun h => hm h.1)] at hst
        have HF : Hid (R = none) := hst.symm
        obtain ⟨xo, xt, xn, xv, xa⟩ := x
        clear hm hst hH HR hdr he hcl hcell hcut ho hsn
        go_wp2_with fail
        refine OPk.mono ?_
        rintro e w1 ⟨rfl, b1⟩
        have B1 := below_trans hb b1
        go_wp2
        go_ret
        exact ⟨by rw [HF.out]; rfl, B1⟩
      rw [if_pos hm] at OPk
      have hox := mayN_ops x hm
      obtain ⟨q, hq⟩ : ∃ q : Nat, opsN x = (q : Int) := ⟨(opsN x).toNat, by omega⟩
      rw [hq] at OPk hox
      have hq0 : ¬ (q : Int) < 0 := by omega
      by_cases hqs : q ≤ st.length
      case neg =>
        have hqs' : (st.length : Int) < (q : Int) := by omega
        rw [if_neg (fun h => by have := h.2; rw [hq] at this; omega)] at hst
        have HF : Hid (R = none) := hst.symm
        obtain ⟨xo, xt, xn, xv, xa⟩ := x
        clear hm hst hH HR hdr he hcl hcell hcut ho hsn hq
        go_wp2_with fail
        refine OPk.mono ?_
        rintro e w1 ⟨rfl, b1⟩
        have B1 := below_trans hb b1
        go_wp2
        go_ret
        exact ⟨by rw [HF.out]; rfl, B1⟩
      rw [if_pos ⟨hm, by rw [hq]; omega⟩, hq, Int.toNat_natCast, maxD_mx] at hst
      simp only at hst
      obtain ⟨f, hf⟩ : ∃ f : Nat, f = st.length - q := ⟨_, rfl⟩
      rw [← hf] at hst
      have HST : Hid (runD mayN (l.drop (k + 1)) (st.take f ++ [mxL (st.drop f) + 1]) = R) := hst
      have HO : Hid (Ks wo w.heap.size (.slice so f sc) (st.take f)) := hcut f (by omega)
      have hfr : (st.length : Int) - (q : Int) = (f : Int) := by omega
      have hfl : f ≤ st.length := by omega
      have hfs : f ≤ sc := by omega
      have hqs' : ¬ (st.length : Int) < (q : Int) := by omega
      have hst256 : st.length ≤ 255 := by omega
      have HSD : Hid (∀ d ∈ st, d ≤ k) := hsd
      have CEL : Hid (∀ i (h : i < st.length), ∃ g, so = some ⟨g, 0, none⟩ ∧ g < wo.heap.size ∧ wo.cell? ⟨g, i, none⟩ = some (.int .i64 (st[i] : Int))) := fun i h => by
        cases so with
        | none => have := (hsn rfl).1; subst this; simp at h
        | some a => obtain ⟨g, rfl, _, h3, h4⟩ := hcell a rfl; exact ⟨g, rfl, h3, h4 i h⟩
      have hso : so = none ∨ ∃ g, so = some ⟨g, 0, none⟩ := by
        cases so with
        | none => exact .inl rfl
        | some a => obtain ⟨g, rfl, _⟩ := hcell a rfl; exact .inr ⟨g, rfl⟩
      rcases hso with rfl | ⟨g0, rfl⟩
      case inl =>
        obtain ⟨rfl, rfl⟩ := hsn rfl
        have hf0 : f = 0 := by simpa using hfl
        have hq00 : q = 0 := by simpa using hqs
        subst hf0
        subst hq00
        have HST0 : Hid (runD mayN (l.drop (k + 1)) [1] = R) := by show _ = _; have := HST.out; simpa [mxL] using this
        obtain ⟨xo, xt, xn, xv, xa⟩ := x
        clear hm hst hH HR hdr he hcl hcell hcut ho hsn hq hsd hf hfr hfl hfs hqs' hqs CEL HO HST HSD hst256 hsl hsc
        go_wp2_with fail
        refine OPk.mono ?_
        rintro e w1 ⟨rfl, b1⟩
        have B1 := below_trans hb b1
        have s1 := b1.size
        clear c0 c1 c2 c3 c4 c5 c6 c7 OPk
        go_wp2
        go_loopw [6, 7] (fun r6 r7 wr => r6 = .int .i64 0 ∧ r7 = .int .i64 0 ∧ wr = w1) (fun _ _ _ => 0)
        case atStart => exact ⟨rfl, rfl, rfl⟩
        case round =>
          obtain ⟨rfl, rfl, rfl⟩ := hrel
          have A2 : Below wr.heap.size wr (wr.alloc (.cells #[] 3)) := (Below.refl _ _).alloc (Nat.le_refl _) _
          have SRC : Src Tryz.prog 1 68 (.slice none 0 0) 0 [] (wr.alloc (.cells #[] 3)) := Src.ofNil _ Tryz.underlying68 0
          have hmade : (wr.alloc (.cells #[] 3)).ownsRow wr.heap.size 3 1 (.slice (some ⟨wr.heap.size, 0, none⟩) 0 0) 0 [] := World.ownsRow_made wr #[] 0 (Nat.le_refl _) (by decide) (by simp)
          go_wp2_with (at_builtin; refine wpList_append_from rfl _ _ 68 68 rfl wr.heap.size 3 i0 (.int .i64 0) 1 8 Tryz.underlying68 hi hz0 hz1 hz2 rfl _ 0 [] rfl hmade _ 0 [] rfl SRC (by unfold maxLen; omega) (by omega) (by simp) ?_)
          intro v3 w3 o3 g3
          have b13 : Below wr.heap.size wr w3 := A2.grown g3 (by simp) (fun k hk => by cases hk; exact Nat.le_refl _)
          have s3 := b13.size
          clear hmade SRC A2 g3
          go_wp2_with (at_builtin; refine wpList_append_own _ rfl _ _ 68 rfl wr.heap.size 3 i0 (.int .i64 0) 1 8 Tryz.underlying68 hi hz0 hz1 hz2 rfl (by decide) _ _ _ rfl (World.ownsRow.alloc o3 _) ⟨w3.heap.size, 0, none⟩ 1 1 [.int .i64 1] rfl rfl (cell_one_new _ _ _) (one_cell _ _) (by unfold maxLen; omega) (by omega) (by simp; omega) ?_)
          intro v4 w4 o4 g4 _
          have hrow := World.ownsRow.lt o3
          have b14 : Below wr.heap.size wr w4 := (b13.alloc s3 _).grown g4 (by simp; omega) (fun k hk => (hrow k hk).1)
          have o5 : Ks w4 w.heap.size v4 [1] := ks_base (show Ks w4 wr.heap.size v4 [1] from o4) (below_trans hb b1).size
          have B4 := below_trans (below_trans hb b1) b14
          clear o4 o3 g4 hrow
          go_wp2
          exact ⟨⟨k + 1, [1], by rw [cst1], by omega, by simp, (fun d hd => by simp at hd; omega), o5, B4, HST0⟩, by simp [intOf]; omega⟩
      obtain ⟨xo, xt, xn, xv, xa⟩ := x
      have HFR : Hid ((st.length : Int) - (q : Int) = (f : Int)) := hfr
      clear hm hst hH HR hdr he hcl hcell hcut ho hsn hq hsd hf
      go_wp2_with fail
      refine OPk.mono ?_
      rintro e w1 ⟨rfl, b1⟩
      have B1 := below_trans hb b1
      have s1 := b1.size
      clear c0 c1 c2 c3 c4 c5 c6 c7 OPk
      go_wp2
      go_loopw [6, 7] (fun r6 r7 wr => ∃ j : Nat, r7 = .int .i64 (j : Int) ∧ j ≤ q ∧ r6 = .int .i64 (mxL (st.drop (st.length - j)) : Int) ∧ wr = w1) (fun _ r _ => q - (intOf r).toNat)
      case atStart => exact ⟨0, rfl, Nat.zero_le _, by rw [Nat.sub_zero, List.drop_eq_nil_of_le (Nat.le_refl _)]; rfl, rfl⟩
      case round =>
        obtain ⟨j, rfl, hj, rfl, rfl⟩ := hrel
        by_cases hjq : j < q
        · have hjq' : (j : Int) < (q : Int) := by omega
          obtain ⟨L1, hL1⟩ : ∃ L1 : Nat, st.length = L1 + 1 := ⟨st.length - 1, by omega⟩
          obtain ⟨ix, hix⟩ : ∃ ix : Nat, ix = L1 - j := ⟨_, rfl⟩
          have hil : ix < st.length := by omega
          obtain ⟨g, hge, hgl, hgc⟩ := CEL.out ix hil
          obtain rfl : g0 = g := by simpa using hge
          have gc := (b1.cell (p := ⟨g0, ix, none⟩) hgl).trans hgc
          have gl : g0 < wr.heap.size := by omega
          have hdr : st.drop (st.length - (j + 1)) = st[ix] :: st.drop (st.length - j) := by
            have e1 : st.length - (j + 1) = ix := by omega
            have e2 : st.length - j = ix + 1 := by omega
            rw [e1, e2]
            exact List.drop_eq_getElem_cons hil
          have HMX : Hid (mxL (st.drop (st.length - (j + 1))) = max st[ix] (mxL (st.drop (st.length - j)))) := by show _ = _; rw [hdr]; rfl
          have e1 : (st.length : Int) - 1 = (L1 : Int) := by omega
          have e2 : (L1 : Int) - (j : Int) = (ix : Int) := by omega
          have i0' : (0 : Int) ≤ (ix : Int) := by omega
          have hil' : (ix : Int) < (st.length : Int) := by omega
          have hy : st[ix] ≤ 256 := by have := HSD.out st[ix] (List.getElem_mem _); omega
          generalize st[ix] = y at *
          generalize hz : mxL (st.drop (st.length - j)) = z at *
          clear hdr hgc hz hix hL1
          go_wp2
          exact ⟨⟨j + 1, by rw [cst1], by omega, by rw [HMX.out]; congr 1; omega, (by first | trivial | rfl)⟩, by simp [intOf]; omega⟩
        · have hjq' : ¬ (j : Int) < (q : Int) := by omega
          have hjf : st.length - j = f := by omega
          rw [hjf]
          have hz256 : mxL (st.drop f) ≤ k := mxL_le fun d hd => HSD.out d (List.mem_of_mem_drop hd)
          have b01 := b1
          have HO1 : Hid (Ks wr w.heap.size (.slice (some ⟨g0, 0, none⟩) f sc) (st.take f)) := Ks.later HO.out b1
          have A2 : Below wr.heap.size wr (wr.alloc (.cells #[] 3)) := (Below.refl _ _).alloc (Nat.le_refl _) _
          have SRC := src_of_ks (Ks.later HO1.out A2) hfl
          have hmade : (wr.alloc (.cells #[] 3)).ownsRow wr.heap.size 3 1 (.slice (some ⟨wr.heap.size, 0, none⟩) 0 0) 0 [] := World.ownsRow_made wr #[] 0 (Nat.le_refl _) (by decide) (by simp)
          have hlk : (st.take f).length = f := by rw [List.length_take]; omega
          have HLK : Hid ((st.take f).length = f) := hlk
          obtain ⟨z, hz⟩ : ∃ z, mxL (st.drop f) = z := ⟨_, rfl⟩
          rw [hz] at hz256 HST ⊢
          clear hz hlk CEL HO HO1
          go_wp2_with (at_builtin; refine wpList_append_from rfl _ _ 68 68 rfl wr.heap.size 3 i0 (.int .i64 0) 1 8 Tryz.underlying68 hi hz0 hz1 hz2 rfl _ 0 [] rfl hmade _ f (iv (st.take f)) rfl SRC (by unfold maxLen; omega) (by omega) (by simp) ?_)
          intro v3 w3 o3 g3
          have b13 : Below wr.heap.size wr w3 := A2.grown g3 (by simp) (fun k hk => by cases hk; exact Nat.le_refl _)
          have s3 := b13.size
          clear hmade SRC A2 g3
          go_wp2_with (at_builtin; refine wpList_append_own _ rfl _ _ 68 rfl wr.heap.size 3 i0 (.int .i64 0) 1 8 Tryz.underlying68 hi hz0 hz1 hz2 rfl (by decide) _ _ _ rfl (World.ownsRow.alloc o3 _) ⟨w3.heap.size, 0, none⟩ 1 1 [.int .i64 ((z : Int) + 1)] rfl rfl (cell_one_new _ _ _) (one_cell _ _) (by unfold maxLen; omega) (by omega) (by simp; omega) ?_)
          intro v4 w4 o4 g4 _
          have hrow := World.ownsRow.lt o3
          have b14 : Below wr.heap.size wr w4 := (b13.alloc s3 _).grown g4 (by simp; omega) (fun k hk => (hrow k hk).1)
          have hlk2 : (st.take f).length = f := HLK.out
          have o4' : Ks w4 wr.heap.size v4 (st.take f ++ [z + 1]) := by
            show w4.ownsRow _ _ _ _ (st.take f ++ [z + 1]).length (iv (st.take f ++ [z + 1]))
            have e1 : (st.take f ++ [z + 1]).length = f + 1 := by rw [List.length_append, hlk2]; rfl
            have e2 : iv (st.take f ++ [z + 1]) = iv (st.take f) ++ [.int .i64 ((z : Int) + 1)] := by simp [iv]
            rw [e1, e2]
            exact o4
          have o5 : Ks w4 w.heap.size v4 (st.take f ++ [z + 1]) := ks_base o4' (below_trans hb b01).size
          have B4 := below_trans (below_trans hb b01) b14
          clear o4 o4' o3 g4 hrow
          go_wp2
          exact ⟨⟨k + 1, st.take f ++ [z + 1], by rw [cst1], by omega, by rw [List.length_append, hlk2]; simp; omega, (fun d hd => by
            rcases List.mem_append.1 hd with hd | hd
            · exact Nat.le_succ_of_le (HSD.out d (List.mem_of_mem_take hd))
            · simp at hd; omega), o5, B4, HST⟩, by simp [intOf]; omega⟩
    · have hlt' : ¬ (k : Int) < (n : Int) := by omega
      have HF : Hid (R = some st) := by
        have := hH.out
        rw [List.drop_eq_nil_of_le (by rw [HN.out]; omega)] at this
        exact this.symm
      by_cases h1 : st.length = 1
      · obtain ⟨d, rfl⟩ := List.length_eq_one_iff.1 h1
        obtain ⟨g, rfl, hgl, hgc⟩ : ∃ g, so = some ⟨g, 0, none⟩ ∧ g < wo.heap.size ∧ wo.cell? ⟨g, 0, none⟩ = some (.int .i64 (d : Int)) := by
          cases so with
          | none => have := (hsn rfl).1; simp at this
          | some a => obtain ⟨g, rfl, _, h3, h4⟩ := hcell a rfl; exact ⟨g, rfl, h3, by simpa using h4 0 (by simp)⟩
        clear hcell hcut ho hsn hH HR
        go_wp2
        go_ret
        exact ⟨by rw [HF.out]; rfl, hb⟩
      · have h1' : ¬ (st.length : Int) = 1 := by omega
        have HF0 : Hid (dpV R = 0) := by
          show dpV R = 0
          rw [HF.out]
          match st, h1 with
          | [], _ => rfl
          | [_], h => exact absurd rfl h
          | _ :: _ :: _, _ => rfl
        clear hcell hcut ho hsn hH HR h1
        go_wp2
        go_ret
        exact ⟨by rw [HF0.out]; rfl, hb⟩

theorem dep_doc (r : Option (List Nat)) : decide (0 < depO r) = (decide (1 ≤ dpV r) && decide (dpV r ≤ 16)) := by
  match r with
  | none => rfl
  | some [] => rfl
  | some [d] =>
    show decide (0 < if d ≤ 16 then d else 0) = (decide (1 ≤ d) && decide (d ≤ 16))
    by_cases h : d ≤ 16
    · rw [if_pos h, decide_eq_true h, Bool.and_true]
      rfl
    · rw [if_neg h, decide_eq_false h, Bool.and_false]
      rfl
  | some (_ :: _ :: _) => rfl
set_option maxHeartbeats 2000000 in
theorem rright6_any (lo : Option Addr) (lc : Nat) (l : List Nd) (w : World) (hv : Nw w lo l) (hln : l.length ≤ 140737488351232) (OP : ∀ x ∈ l, ∀ W, Below w.heap.size w W → Calls Tryz.prog 40 #[ndv x] W fun e w' => e = .returned (.int .i64 (if mayN x = true then opsN x else -1)) ∧ Below W.heap.size W w') :
    Calls Tryz.prog 10 #[.slice lo l.length lc] w fun e w' => e = .returned (.bool (decide (0 < depN mayN l))) ∧ Below w.heap.size w w' := by
  unfold depN
  by_cases hlen : l.length ≤ 256
  case neg =>
    rw [if_neg hlen]
    have h' : (256 : Int) < (l.length : Int) := by omega
    clear hlen hv OP
    generalize l.length = n at *
    go_enter Tryz.func10, Tryz.ntmps10
    go_wp2
    go_ret
    exact ⟨rfl, Below.refl _ _⟩
  rw [if_pos hlen, dep_doc]
  have D := rdepth_any lo lc l w hv hlen OP
  have h' : ¬ (256 : Int) < (l.length : Int) := by omega
  clear hv OP
  generalize dpV (runD mayN l []) = d at *
  generalize l.length = n at *
  by_cases h1 : 1 ≤ d
  · have h1' : (1 : Int) ≤ (d : Int) := by omega
    rw [decide_eq_true h1, Bool.true_and]
    by_cases h16 : d ≤ 16
    · have h16' : (d : Int) ≤ 16 := by omega
      rw [decide_eq_true h16]
      go_enter Tryz.func10, Tryz.ntmps10
      go_wp2_with (go_at_call 34; refine D.mono ?_; rintro e w1 ⟨rfl, b1⟩)
      go_ret
      exact ⟨by first | rfl | (show Ending.returned (.bool (decide ((d : Int) ≤ 16))) = _; rw [decide_eq_true h16']), b1⟩
    · have h16' : ¬ (d : Int) ≤ 16 := by omega
      rw [decide_eq_false h16]
      go_enter Tryz.func10, Tryz.ntmps10
      go_wp2_with (go_at_call 34; refine D.mono ?_; rintro e w1 ⟨rfl, b1⟩)
      go_ret
      exact ⟨by first | rfl | (show Ending.returned (.bool (decide ((d : Int) ≤ 16))) = _; rw [decide_eq_false (show ¬ (d : Int) ≤ 16 by omega)]), b1⟩
  · have h1' : ¬ (1 : Int) ≤ (d : Int) := by omega
    rw [decide_eq_false h1, Bool.false_and]
    go_enter Tryz.func10, Tryz.ntmps10
    go_wp2_with (go_at_call 34; refine D.mono ?_; rintro e w1 ⟨rfl, b1⟩)
    go_ret
    exact ⟨rfl, b1⟩
end Go.Proofs.YtclhmmgdhagloaaGreatDoor
