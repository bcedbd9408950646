/-
  The document's Print of nodes.
-/
import Derived.Test.YtclhmmgdhagloaaGreatDoorXRDep
import Derived.Test.YtclhmmgdhagloaaGreatDoorEPrt6
import Derived.Test.YtclhmmgdhagloaaGreatDoorMSXROp
import Derived.Deep.CutBlock
import Derived.Deep.CutRange
import Derived.BigRegion
namespace Go.Proofs.YtclhmmgdhagloaaGreatDoor
open Go.RowKit Go.Shelf
attribute [local go_sem] cell?_more frozen?_more setCell_more more_lt more_more more_drew more_drewN setCell_drewN alloc_drewN

def sgA : Array Value := #[.string ⟨#[]⟩, .string ⟨#[]⟩, .string ⟨#[]⟩, .string ⟨#[]⟩, .string ⟨#[]⟩, .string ⟨#[]⟩, .string ⟨#[42]⟩, .string ⟨#[47]⟩, .string ⟨#[37]⟩, .string ⟨#[43]⟩, .string ⟨#[45]⟩, .string ⟨#[61]⟩, .string ⟨#[60, 62]⟩, .string ⟨#[60]⟩, .string ⟨#[60, 61]⟩, .string ⟨#[62]⟩, .string ⟨#[62, 61]⟩, .string ⟨#[97, 110, 100]⟩, .string ⟨#[111, 114]⟩]
theorem sgA_at (j : Nat) (h : j < 19) : sgA[j]? = some (.string ⟨(sgn j).toArray⟩) := by
  match j, h with
  | 0, _ => rfl
  | 1, _ => rfl
  | 2, _ => rfl
  | 3, _ => rfl
  | 4, _ => rfl
  | 5, _ => rfl
  | 6, _ => rfl
  | 7, _ => rfl
  | 8, _ => rfl
  | 9, _ => rfl
  | 10, _ => rfl
  | 11, _ => rfl
  | 12, _ => rfl
  | 13, _ => rfl
  | 14, _ => rfl
  | 15, _ => rfl
  | 16, _ => rfl
  | 17, _ => rfl
  | 18, _ => rfl
  | j + 19, h => omega
theorem ts_base {w : World} {b1 b2 : Nat} {v : Value} {ts : List (List UInt8)} (h : Ts w b1 v ts) (hb : b2 ≤ b1) : Ts w b2 v ts := by
  obtain ⟨h1, h2⟩ := h
  refine ⟨h1, ?_⟩
  rcases h2 with h | ⟨g, cap, cur, e, hg, rest⟩
  · exact .inl h
  · exact .inr ⟨g, cap, cur, e, Nat.le_trans hb hg, rest⟩
theorem src_of_ts {w : World} {base : Nat} {ao : Option Addr} {f cap : Nat} {st : List (List UInt8)} (h : Ts w base (.slice ao f cap) (st.take f)) (hf : f ≤ st.length) : Src Tryz.prog 1 45 (.slice ao f cap) f (sv (st.take f)) w := by
  have hl : (st.take f).length = f := by rw [List.length_take]; omega
  obtain ⟨a, c, e, h1, h2, _, h4⟩ := h.shape
  rw [hl] at e
  simp only [Value.slice.injEq] at e
  obtain ⟨rfl, _, rfl⟩ := e
  cases ao with
  | none =>
    have h0 := (h2 rfl).1
    have hf0 : f = 0 := by rw [h0] at hl; simpa using hl.symm
    subst hf0
    exact Src.ofNil w Tryz.underlying45 cap
  | some a =>
    obtain ⟨g, rfl, _, _, h5⟩ := h4 a rfl
    refine Src.ofSlice w Tryz.underlying45 ⟨g, 0, none⟩ f cap (sv (st.take f)) (by rw [sv_len, hl, Nat.mul_one]) (fun j u hu => ?_) (fun u hu => ?_)
    · have hj : j < (sv (st.take f)).length := (List.getElem?_eq_some_iff.1 hu).1
      rw [sv_len] at hj
      rw [Addr.add_lit, Nat.zero_add, h5 j hj, ← hu]
      simp only [sv, List.getElem?_map, List.getElem?_eq_getElem hj, Option.map_some]
    · simp only [sv, List.mem_map] at hu
      obtain ⟨d, _, rfl⟩ := hu
      rfl
theorem jn_nil (s : List UInt8) : Lib.join [] s = [] := by simp [Lib.join, List.intercalate]
theorem jn_one (a s : List UInt8) : Lib.join [a] s = a := by simp [Lib.join, List.intercalate]
theorem jn_cons2 (a b : List UInt8) (r : List (List UInt8)) (s : List UInt8) : Lib.join (a :: b :: r) s = a ++ s ++ Lib.join (b :: r) s := by simp [Lib.join, List.intercalate, List.intersperse]
theorem jn_snoc (a s : List UInt8) : ∀ xs : List (List UInt8), xs ≠ [] → Lib.join (xs ++ [a]) s = Lib.join xs s ++ s ++ a
  | [], h => absurd rfl h
  | [b], _ => by rw [List.singleton_append, jn_cons2, jn_one, jn_one]
  | b :: c :: r, _ => by
    rw [List.cons_append, List.cons_append, jn_cons2, jn_cons2, ← List.cons_append, jn_snoc a s (c :: r) (by simp)]
    simp only [List.append_assoc]
-- the walk
set_option maxRecDepth 20000 in
set_option maxHeartbeats 8000000 in
theorem rprint6_any (pv : Va → List UInt8) (B : Nat) (ao : Option Addr) (cap : Nat) (l : List Nd) (w : World) (hv : Nw w ao l) (hB : B ≤ 10000000000)
    (hl : 0 < depN mayN l → ∀ x ∈ l, x.t.length ≤ B ∧ x.n.length ≤ B ∧ (pv x.v).length ≤ B)
    (P : 0 < depN mayN l → ∀ x ∈ l, x.o = 1 → ∀ W, Below w.heap.size w W → Calls Tryz.prog 41 #[vv x.v] W fun e w' => e = .returned (.string ⟨(pv x.v).toArray⟩) ∧ Below W.heap.size W w')
    (RI : Calls Tryz.prog 10 #[.slice ao l.length cap] w fun e w' => e = .returned (.bool (decide (0 < depN mayN l))) ∧ Below w.heap.size w w')
    (OP : ∀ x ∈ l, ∀ W, Below w.heap.size w W → Calls Tryz.prog 40 #[ndv x] W fun e w' => e = .returned (.int .i64 (if mayN x = true then opsN x else -1)) ∧ Below W.heap.size W w') :
    Calls Tryz.prog 17 #[.slice ao l.length cap] w fun e w' => e = .returned (.string ⟨(prtN pv l).toArray⟩) ∧ Below w.heap.size w w' := by
  obtain ⟨i0, hi, hz0, hz1, hz2⟩ := info_parts infoStr
  unfold prtN
  by_cases hd : 0 < depN mayN l
  case neg =>
    rw [if_neg hd]
    rw [decide_eq_false hd] at RI
    clear hd hv hl P OP
    generalize l.length = n at *
    go_enter Tryz.func17, Tryz.ntmps17
    go_wp2_with (go_at_call 10; refine RI.mono ?_; rintro e w1 ⟨rfl, b1⟩)
    go_ret
    exact ⟨rfl, b1⟩
  rw [if_pos hd]
  rw [decide_eq_true hd] at RI
  have HL : Hid (∀ x ∈ l, x.t.length ≤ B ∧ x.n.length ≤ B ∧ (pv x.v).length ≤ B) := hl hd
  have HP : Hid (∀ x ∈ l, x.o = 1 → ∀ W, Below w.heap.size w W → Calls Tryz.prog 41 #[vv x.v] W fun e w' => e = .returned (.string ⟨(pv x.v).toArray⟩) ∧ Below W.heap.size W w') := P hd
  have HOP : Hid (∀ x ∈ l, ∀ W, Below w.heap.size w W → Calls Tryz.prog 40 #[ndv x] W fun e w' => e = .returned (.int .i64 (if mayN x = true then opsN x else -1)) ∧ Below W.heap.size W w') := OP
  obtain ⟨hlen, d, hrun⟩ := depN_some hd
  obtain ⟨R, hR⟩ : ∃ R, R = runT pv l [] := ⟨_, rfl⟩
  rw [← hR]
  have HR : Hid (runT pv (l.drop 0) [] = R) := hR.symm
  have HD : Hid (runD mayN (l.drop 0) [] = some [d]) := hrun
  clear hR hd hl P hrun OP
  obtain ⟨n, hnn⟩ : ∃ n, l.length = n := ⟨_, rfl⟩
  rw [hnn] at hlen RI ⊢
  have HN : Hid (l.length = n) := hnn
  clear hnn
  have hB20 : 256 * (2 * B + 20) ≤ 10000000000000 := by omega
  go_enter Tryz.func17, Tryz.ntmps17
  go_wp2_with fail
  refine RI.mono ?_
  rintro e w1 ⟨rfl, b1⟩
  have SG0 : Cbox (w1.alloc (.cells #[.string ⟨#[]⟩, .string ⟨#[]⟩, .string ⟨#[]⟩, .string ⟨#[]⟩, .string ⟨#[]⟩, .string ⟨#[]⟩, .string ⟨#[42]⟩, .string ⟨#[47]⟩, .string ⟨#[37]⟩, .string ⟨#[43]⟩, .string ⟨#[45]⟩, .string ⟨#[61]⟩, .string ⟨#[60, 62]⟩, .string ⟨#[60]⟩, .string ⟨#[60, 61]⟩, .string ⟨#[62]⟩, .string ⟨#[62, 61]⟩, .string ⟨#[97, 110, 100]⟩, .string ⟨#[111, 114]⟩] 9)) w1.heap.size sgA 9 := Cbox.new w1 sgA _
  have B10 : Below w.heap.size w (w1.alloc (.cells #[.string ⟨#[]⟩, .string ⟨#[]⟩, .string ⟨#[]⟩, .string ⟨#[]⟩, .string ⟨#[]⟩, .string ⟨#[]⟩, .string ⟨#[42]⟩, .string ⟨#[47]⟩, .string ⟨#[37]⟩, .string ⟨#[43]⟩, .string ⟨#[45]⟩, .string ⟨#[61]⟩, .string ⟨#[60, 62]⟩, .string ⟨#[60]⟩, .string ⟨#[60, 61]⟩, .string ⟨#[62]⟩, .string ⟨#[62, 61]⟩, .string ⟨#[97, 110, 100]⟩, .string ⟨#[111, 114]⟩] 9)) := b1.alloc b1.size _
  go_wp2
  generalize w1.alloc (.cells #[.string ⟨#[]⟩, .string ⟨#[]⟩, .string ⟨#[]⟩, .string ⟨#[]⟩, .string ⟨#[]⟩, .string ⟨#[]⟩, .string ⟨#[42]⟩, .string ⟨#[47]⟩, .string ⟨#[37]⟩, .string ⟨#[43]⟩, .string ⟨#[45]⟩, .string ⟨#[61]⟩, .string ⟨#[60, 62]⟩, .string ⟨#[60]⟩, .string ⟨#[60, 61]⟩, .string ⟨#[62]⟩, .string ⟨#[62, 61]⟩, .string ⟨#[97, 110, 100]⟩, .string ⟨#[111, 114]⟩] 9) = ws at *
  obtain ⟨sg, hsg⟩ : ∃ sg, w1.heap.size = sg := ⟨_, rfl⟩
  try rw [hsg]
  rw [hsg] at SG0
  have SG : Hid (Cbox ws sg sgA 9) := SG0
  clear hsg SG0 b1 RI
  go_loopw [4, 5] (fun r4 r5 wr => ∃ (k : Nat) (st : List (List UInt8)), r5 = .int .i64 (k : Int) ∧ k ≤ n ∧ st.length ≤ k ∧ sumT st ≤ k * (2 * B + 20) ∧ Ts wr ws.heap.size r4 st ∧ Below ws.heap.size ws wr ∧ Hid (runT pv (l.drop k) st = R) ∧ Hid (∃ ds, ds.length = st.length ∧ runD mayN (l.drop k) ds = some [d])) (fun _ r _ => n - (intOf r).toNat)
  case atStart => exact ⟨0, [], rfl, Nat.zero_le _, Nat.zero_le _, Nat.zero_le _, World.ownsRow_nil _ _ _ _, Below.refl _ _, HR, ⟨[], rfl, HD.out⟩⟩
  case round =>
    rename World => wo
    obtain ⟨k, st, rfl, hk, hsl, hsum, ho, hb, hH, hD⟩ := hrel
    have sB := hb.size
    obtain ⟨so, sc, rfl, hsc, hsn, hcut, hcell⟩ := ho.shape
    by_cases hlt : k < n
    · have hlt' : (k : Int) < (n : Int) := by omega
      have k0 : (0 : Int) ≤ (k : Int) := by omega
      have hkl : k < l.length := by rw [HN.out]; exact hlt
      have Bo := below_trans B10 hb
      obtain ⟨b, off, rfl, hcl⟩ := hv (by omega)
      obtain ⟨c0, c1, c2, c3, c4, c5, c6, c7⟩ := ((hcl k hkl).later Bo)
      have hg' := ((hcl k hkl).later Bo).lt
      have hdr : l.drop k = l[k] :: l.drop (k + 1) := List.drop_eq_getElem_cons hkl
      obtain ⟨hx1, hx2, hx3⟩ := HL.out l[k] (List.getElem_mem _)
      have Px := HP.out l[k] (List.getElem_mem _)
      have OPx := HOP.out l[k] (List.getElem_mem _)
      obtain ⟨x, he⟩ : ∃ x : Nd, x = l[k] := ⟨_, rfl⟩
      rw [← he] at c0 c1 c2 c3 c4 c5 c6 c7 hdr hx1 hx2 hx3 Px OPx
      obtain ⟨ds, hdl, hrd⟩ := hD.out
      rw [hdr] at hrd
      obtain ⟨hmx, hopx, ds', hdl', hrd'⟩ := runD_some hrd
      have hox := mayN_ops x hmx
      obtain ⟨q, hq⟩ : ∃ q : Nat, opsN x = (q : Int) := ⟨(opsN x).toNat, by omega⟩
      rw [hmx, if_pos rfl, hq] at OPx
      have hst0 := hH.out
      rw [hdr] at hst0
      unfold runT stepT at hst0
      rw [hq, Int.toNat_natCast] at hst0
      rw [hq, hdl] at hopx
      rw [hq, Int.toNat_natCast, hdl] at hdl'
      have HDD : Hid (∃ ds, ds.length = st.length - q + 1 ∧ runD mayN (l.drop (k + 1)) ds = some [d]) := ⟨ds', hdl', hrd'⟩
      have HQ : Hid (opsN x = (q : Int)) := hq
      have HOR : Hid (¬ x.o = 1 → ¬ x.o = 2 → ¬ x.o = 19 → 3 ≤ x.o ∧ x.o ≤ 18) := fun h1 h2 h3 => by
        unfold mayN fitN at hmx
        rw [if_neg h1, if_neg h2, if_neg h3] at hmx
        simp only [Bool.and_eq_true, decide_eq_true_eq] at hmx
        exact hmx.2
      have hqs : q ≤ st.length := by omega
      obtain ⟨f, hf⟩ : ∃ f : Nat, f = st.length - q := ⟨_, rfl⟩
      rw [← hf] at hst0 HDD
      have hTL := txtN_len pv x (st.drop f) B hmx (by rw [List.length_drop, hq]; omega) hx1 hx2 hx3
      obtain ⟨T, hT⟩ : ∃ T, txtN pv x (st.drop f) = T := ⟨_, rfl⟩
      rw [hT] at hst0 hTL
      have HT : Hid (txtN pv x (st.drop f) = T) := hT
      have HST : Hid (runT pv (l.drop (k + 1)) (st.take f ++ [T]) = R) := hst0
      have HSM : Hid (sumT (st.take f ++ [T]) ≤ (k + 1) * (2 * B + 20)) := by
        show _ ≤ _
        have e1 : sumT st = sumT (st.take f) + sumT (st.drop f) := by rw [← sumT_app, List.take_append_drop]
        have e2 : sumT [T] = T.length := by simp [sumT]
        rw [sumT_app, e2, Nat.succ_mul]
        omega
      have hk256 : k * (2 * B + 20) ≤ 256 * (2 * B + 20) := Nat.mul_le_mul_right _ (by omega)
      have HSU : Hid (sumT st ≤ 10000000000000) := by show _ ≤ _; omega
      have HPX : Hid (x.o = 1 → ∀ W, Below w.heap.size w W → Calls Tryz.prog 41 #[vv x.v] W fun e w' => e = .returned (.string ⟨(pv x.v).toArray⟩) ∧ Below W.heap.size W w') := Px
      have hq4 : q ≤ 4 := by omega
      have hfl : f ≤ st.length := by omega
      have hfr : (st.length : Int) - (q : Int) = (f : Int) := by omega
      have hfl' : (f : Int) ≤ (st.length : Int) := by omega
      have hqe : st.length - f = q := by omega
      have hst255 : st.length ≤ 255 := by omega
      have HO : Hid (Ts wo ws.heap.size (.slice so f sc) (st.take f)) := hcut f hfl
      have CEL0 : Hid (∀ g, so = some ⟨g, 0, none⟩ → ∀ i (h : i < st.length), wo.cell? ⟨g, i, none⟩ = some (.string ⟨st[i].toArray⟩)) := fun g hg i h => by
        obtain ⟨g', e, _, _, h4⟩ := hcell ⟨g, 0, none⟩ hg
        cases e
        exact h4 i h
      have SOM : Hid (¬ sc = f → ∃ g, so = some ⟨g, 0, none⟩) := fun hsf => by
        cases so with
        | none => obtain ⟨h1, h2⟩ := hsn rfl; subst h1; exact absurd (by simp at hfl; omega) hsf
        | some a => obtain ⟨g, rfl, h2⟩ := hcell a rfl; exact ⟨g, rfl⟩
      have hx1' : x.t.length ≤ 10000000000 := by omega
      have hx2' : x.n.length ≤ 10000000000 := by omega
      clear hcl he hH HR hdr hD HD hrd hrd' hdl hdl' hmx hox hopx hq hst0 hTL hT Px hx3 hcell hcut ho hsn hf hx1 hx2 hsum hk256
      have Bn00 : Below wo.heap.size wo (wo.alloc (.cells (ncs x) 67)) := (Below.refl _ _).alloc (Nat.le_refl _) _
      have BXN0 : Cbox (wo.alloc (.cells (ncs x) 67)) wo.heap.size (ncs x) 67 := Cbox.new wo _ _
      obtain ⟨xo, xt, xn, ⟨vk, vn, vm, vb⟩, xa⟩ := x
      dsimp only at hx1' hx2' HOR HPX c0 c1 c2 c3 c4 c5 c6 c7
      have O1 := OPx _ (below_trans Bo Bn00)
      go_wp2_with fail
      refine O1.mono ?_
      rintro e w2 ⟨rfl, b2⟩
      have Bn2 : Below wo.heap.size wo w2 := below_trans Bn00 b2
      have BXN : Hid (Cbox w2 wo.heap.size (ncs ⟨xo, xt, xn, ⟨vk, vn, vm, vb⟩, xa⟩) 67) := BXN0.later b2
      have Bw2 : Hid (Below w.heap.size w w2) := below_trans Bo Bn2
      have SGX : Hid (Cbox w2 sg sgA 9) := (SG.out.later hb).later Bn2
      have CEL : Hid (∀ g, so = some ⟨g, 0, none⟩ → ∀ i (h : i < st.length), w2.cell? ⟨g, i, none⟩ = some (.string ⟨st[i].toArray⟩)) := fun g hg i h => (Bn2.cell (p := ⟨g, i, none⟩) (World.block_lt_of_cell? _ _ (CEL0.out g hg i h))).trans (CEL0.out g hg i h)
      have HO2 : Hid (Ts w2 ws.heap.size (.slice so f sc) (st.take f)) := Ts.later HO.out Bn2
      have B2 : Hid (Below ws.heap.size ws w2) := below_trans hb Bn2
      have hwo2 : wo.heap.size ≤ w2.heap.size := Bn2.size
      clear O1 OPx c0 c1 c2 c3 c4 c5 c6 c7 CEL0 HO BXN0 Bn00 b2 Bn2 hg' Bo
      go_upto_region 10 with fail
      go_cut [8] from 15 to 139 (fun s8 wx => wx = w2 ∧ ∃ a8 c8, s8 = .slice a8 q c8 ∧ Hid (0 < q → ∃ g, a8 = some ⟨g, f, none⟩ ∧ so = some ⟨g, 0, none⟩))
      case first =>
        by_cases hsf : sc = f
        · have hq0 : q = 0 := by omega
          subst hq0
          have hfs : f = st.length := by omega
          subst hfs
          subst hsf
          go_wp2_with fail
          go_meet
          exact ⟨rfl, _, _, rfl, fun h => absurd h (by decide)⟩
        · obtain ⟨g, rfl⟩ := SOM.out hsf
          have hfsc : f ≤ sc := by omega
          have hqi : (st.length : Int) - (f : Int) = (q : Int) := by omega
          go_wp2_with fail
          go_meet
          exact ⟨rfl, _, _, by first | rfl | simp, fun _ => ⟨g, by first | rfl | simp, rfl⟩⟩
      obtain ⟨rfl, a8, c8, rfl, HA8⟩ := hcut
      rename World => w2
      go_upto_block 2 with fail
      go_cut [9] from 15 to 139 (fun s9 wx => s9 = .string ⟨T.toArray⟩ ∧ Below w2.heap.size w2 wx)
      case first =>
        by_cases h1 : xo = 1
        · subst h1
          have PX := HPX.out rfl w2 Bw2.out
          have HTX : Hid (T = pv ⟨vk, vn, vm, vb⟩) := by have := HT.out; unfold txtN at this; dsimp only at this; rw [if_pos rfl] at this; exact this.symm
          have n0 := BXN.out.at 0
          have n1 := BXN.out.at 1
          have n2 := BXN.out.at 2
          have n3 := BXN.out.at 3
          have n4 := BXN.out.at 4
          have n5 := BXN.out.at 5
          have n6 := BXN.out.at 6
          have nl := BXN.out.lt
          go_wp2_with fail
          refine PX.mono ?_
          rintro e w3 ⟨rfl, b3⟩
          go_wp2_with fail
          go_meet
          exact ⟨by rw [HTX.out], b3⟩
        by_cases h2 : xo = 2
        · subst h2
          by_cases ht0 : xt = []
          · subst ht0
            have HTX : Hid (T = xn) := by have := HT.out; simp [txtN, colT] at this; exact this.symm
            have n0 := BXN.out.at 0
            have n1 := BXN.out.at 1
            have n2 := BXN.out.at 2
            have n3 := BXN.out.at 3
            have n4 := BXN.out.at 4
            have n5 := BXN.out.at 5
            have n6 := BXN.out.at 6
            have nl := BXN.out.lt
            go_wp2_with fail
            go_meet
            exact ⟨by rw [HTX.out], Below.refl _ _⟩
          · have HTX : Hid (T = xt ++ [46] ++ xn) := by show T = _; have := HT.out; simp only [txtN, colT, if_neg ht0, reduceIte] at this; simpa using this.symm
            have hem : (ByteArray.mk xt.toArray).toList.isEmpty = false := by
              rw [Lib.toList_data]
              cases xt with
              | nil => exact absurd rfl ht0
              | cons => rfl
            have hx2 : xt.isEmpty = false := by cases xt with | nil => exact absurd rfl ht0 | cons => rfl
            have e1 : (ByteArray.mk xt.toArray) ++ (ByteArray.mk #[46]) = ⟨(xt ++ [46]).toArray⟩ := ba_app xt [46]
            have e2 : (ByteArray.mk (xt ++ [46]).toArray) ++ (ByteArray.mk xn.toArray) = ⟨(xt ++ [46] ++ xn).toArray⟩ := ba_app (xt ++ [46]) xn
            have s1 : (ByteArray.mk xt.toArray).size = xt.length := rfl
            have s2 : (ByteArray.mk (xt ++ [46]).toArray).size = xt.length + 1 := by show (xt ++ [46]).length = _; simp
            have s3 : (ByteArray.mk xn.toArray).size = xn.length := rfl
            have s4 : (ByteArray.mk #[46]).size = 1 := rfl
            clear ht0
            have n0 := BXN.out.at 0
            have n1 := BXN.out.at 1
            have n2 := BXN.out.at 2
            have n3 := BXN.out.at 3
            have n4 := BXN.out.at 4
            have n5 := BXN.out.at 5
            have n6 := BXN.out.at 6
            have nl := BXN.out.lt
            go_wp2_with fail
            go_meet
            exact ⟨by rw [HTX.out]; first | rfl | simp, Below.refl _ _⟩
        by_cases h3 : xo = 3
        · subst h3
          have hq1 : q = 1 := by have := HQ.out; simp [opsN] at this; omega
          have HQ1 : Hid (q = 1) := hq1
          have hq0 : (0 : Int) < (q : Int) := by omega
          have h0l : f < st.length := by omega
          obtain ⟨g, rfl, hso⟩ := HA8.out (by omega)
          have HSO : Hid (so = some ⟨g, 0, none⟩) := hso
          clear hso hq1
          have cA := (CEL.out g HSO.out f h0l)
          have gA := World.block_lt_of_cell? _ _ cA
          have HTX : Hid (T = [40, 45, 32] ++ st[f] ++ [41]) := by
            have h := HT.out
            unfold txtN at h
            dsimp only at h
            rw [if_neg (by decide), if_neg (by decide), if_pos rfl] at h
            have e : (st.drop f).getD 0 [] = st[f] := by rw [List.getD_eq_getElem?_getD, List.getElem?_drop, Nat.add_zero, List.getElem?_eq_getElem h0l]; rfl
            rw [e] at h
            show T = _
            rw [← h]
            simp [parT, Lib.join, List.intercalate, List.intersperse]
          have hAl : st[f].length ≤ 10000000000000 := Nat.le_trans (sumT_mem (List.getElem_mem _)) HSU.out
          generalize st[f] = A at *
          obtain ⟨C1, hC1⟩ : ∃ C1 : List UInt8, C1 = [40, 45, 32] ++ A := ⟨_, rfl⟩
          have e1 : (ByteArray.mk #[40, 45, 32]) ++ (ByteArray.mk A.toArray) = ⟨C1.toArray⟩ := by rw [hC1]; exact ba_app [40, 45, 32] A
          have HTY : Hid (T = C1 ++ [41]) := by show T = _; rw [HTX.out, hC1]
          have e2 : (ByteArray.mk C1.toArray) ++ (ByteArray.mk #[41]) = ⟨T.toArray⟩ := by rw [HTY.out]; exact ba_app C1 [41]
          have s1 : (ByteArray.mk A.toArray).size = A.length := rfl
          have s2 : (ByteArray.mk C1.toArray).size = C1.length := rfl
          have s2' : C1.length = A.length + 3 := by rw [hC1]; simp
          have s3 : (ByteArray.mk #[40, 45, 32]).size = 3 := rfl
          have s4 : (ByteArray.mk #[41]).size = 1 := rfl
          clear hC1
          have n0 := BXN.out.at 0
          have n1 := BXN.out.at 1
          have n2 := BXN.out.at 2
          have n3 := BXN.out.at 3
          have n4 := BXN.out.at 4
          have n5 := BXN.out.at 5
          have n6 := BXN.out.at 6
          have nl := BXN.out.lt
          go_wp2_with fail
          go_meet
          exact ⟨rfl, Below.refl _ _⟩
        by_cases h4 : xo = 4
        · subst h4
          have hq1 : q = 1 := by have := HQ.out; simp [opsN] at this; omega
          have HQ1 : Hid (q = 1) := hq1
          have hq0 : (0 : Int) < (q : Int) := by omega
          have h0l : f < st.length := by omega
          obtain ⟨g, rfl, hso⟩ := HA8.out (by omega)
          have HSO : Hid (so = some ⟨g, 0, none⟩) := hso
          clear hso hq1
          have cA := (CEL.out g HSO.out f h0l)
          have gA := World.block_lt_of_cell? _ _ cA
          have HTX : Hid (T = [40, 110, 111, 116, 32] ++ st[f] ++ [41]) := by
            have h := HT.out
            unfold txtN at h
            dsimp only at h
            rw [if_neg (by decide), if_neg (by decide), if_neg (by decide), if_pos rfl] at h
            have e : (st.drop f).getD 0 [] = st[f] := by rw [List.getD_eq_getElem?_getD, List.getElem?_drop, Nat.add_zero, List.getElem?_eq_getElem h0l]; rfl
            rw [e] at h
            show T = _
            rw [← h]
            simp [parT, Lib.join, List.intercalate, List.intersperse]
          have hAl : st[f].length ≤ 10000000000000 := Nat.le_trans (sumT_mem (List.getElem_mem _)) HSU.out
          generalize st[f] = A at *
          obtain ⟨C1, hC1⟩ : ∃ C1 : List UInt8, C1 = [40, 110, 111, 116, 32] ++ A := ⟨_, rfl⟩
          have e1 : (ByteArray.mk #[40, 110, 111, 116, 32]) ++ (ByteArray.mk A.toArray) = ⟨C1.toArray⟩ := by rw [hC1]; exact ba_app [40, 110, 111, 116, 32] A
          have HTY : Hid (T = C1 ++ [41]) := by show T = _; rw [HTX.out, hC1]
          have e2 : (ByteArray.mk C1.toArray) ++ (ByteArray.mk #[41]) = ⟨T.toArray⟩ := by rw [HTY.out]; exact ba_app C1 [41]
          have s1 : (ByteArray.mk A.toArray).size = A.length := rfl
          have s2 : (ByteArray.mk C1.toArray).size = C1.length := rfl
          have s2' : C1.length = A.length + 5 := by rw [hC1]; simp
          have s3 : (ByteArray.mk #[40, 110, 111, 116, 32]).size = 5 := rfl
          have s4 : (ByteArray.mk #[41]).size = 1 := rfl
          clear hC1
          have n0 := BXN.out.at 0
          have n1 := BXN.out.at 1
          have n2 := BXN.out.at 2
          have n3 := BXN.out.at 3
          have n4 := BXN.out.at 4
          have n5 := BXN.out.at 5
          have n6 := BXN.out.at 6
          have nl := BXN.out.lt
          go_wp2_with fail
          go_meet
          exact ⟨rfl, Below.refl _ _⟩
        by_cases h5 : xo = 5
        · subst h5
          have hq1 : q = 1 := by have := HQ.out; simp [opsN] at this; omega
          have HQ1 : Hid (q = 1) := hq1
          have hq0 : (0 : Int) < (q : Int) := by omega
          have h0l : f < st.length := by omega
          obtain ⟨g, rfl, hso⟩ := HA8.out (by omega)
          have HSO : Hid (so = some ⟨g, 0, none⟩) := hso
          clear hso hq1
          have cA := (CEL.out g HSO.out f h0l)
          have gA := World.block_lt_of_cell? _ _ cA
          have HTX : Hid (T = [40] ++ st[f] ++ [32, 105, 115, 32, 110, 117, 108, 108, 41]) := by
            have h := HT.out
            unfold txtN at h
            dsimp only at h
            rw [if_neg (by decide), if_neg (by decide), if_neg (by decide), if_neg (by decide), if_pos rfl] at h
            have e : (st.drop f).getD 0 [] = st[f] := by rw [List.getD_eq_getElem?_getD, List.getElem?_drop, Nat.add_zero, List.getElem?_eq_getElem h0l]; rfl
            rw [e] at h
            show T = _
            rw [← h]
            simp [parT, Lib.join, List.intercalate, List.intersperse]
          have hAl : st[f].length ≤ 10000000000000 := Nat.le_trans (sumT_mem (List.getElem_mem _)) HSU.out
          generalize st[f] = A at *
          obtain ⟨C1, hC1⟩ : ∃ C1 : List UInt8, C1 = [40] ++ A := ⟨_, rfl⟩
          have e1 : (ByteArray.mk #[40]) ++ (ByteArray.mk A.toArray) = ⟨C1.toArray⟩ := by rw [hC1]; exact ba_app [40] A
          have HTY : Hid (T = C1 ++ [32, 105, 115, 32, 110, 117, 108, 108, 41]) := by show T = _; rw [HTX.out, hC1]
          have e2 : (ByteArray.mk C1.toArray) ++ (ByteArray.mk #[32, 105, 115, 32, 110, 117, 108, 108, 41]) = ⟨T.toArray⟩ := by rw [HTY.out]; exact ba_app C1 [32, 105, 115, 32, 110, 117, 108, 108, 41]
          have s1 : (ByteArray.mk A.toArray).size = A.length := rfl
          have s2 : (ByteArray.mk C1.toArray).size = C1.length := rfl
          have s2' : C1.length = A.length + 1 := by rw [hC1]; simp
          have s3 : (ByteArray.mk #[40]).size = 1 := rfl
          have s4 : (ByteArray.mk #[32, 105, 115, 32, 110, 117, 108, 108, 41]).size = 9 := rfl
          clear hC1
          have n0 := BXN.out.at 0
          have n1 := BXN.out.at 1
          have n2 := BXN.out.at 2
          have n3 := BXN.out.at 3
          have n4 := BXN.out.at 4
          have n5 := BXN.out.at 5
          have n6 := BXN.out.at 6
          have nl := BXN.out.lt
          go_wp2_with fail
          go_meet
          exact ⟨rfl, Below.refl _ _⟩
        by_cases h19 : xo = 19
        · subst h19
          have HTX : Hid (T = xn ++ [40] ++ Lib.join ((st.drop f).take q) [44, 32] ++ [41]) := by
            have h := HT.out
            unfold txtN at h
            dsimp only at h
            rw [if_neg (by decide), if_neg (by decide), if_neg (by decide), if_neg (by decide), if_neg (by decide), if_pos rfl] at h
            show T = _
            rw [List.take_of_length_le (by rw [List.length_drop]; omega), ← h]
          have e1 : (ByteArray.mk xn.toArray) ++ (ByteArray.mk #[40]) = ⟨(xn ++ [40]).toArray⟩ := ba_app xn [40]
          have s1 : (ByteArray.mk xn.toArray).size = xn.length := rfl
          have s2 : (ByteArray.mk #[40]).size = 1 := rfl
          have n0 := BXN.out.at 0
          have n1 := BXN.out.at 1
          have n2 := BXN.out.at 2
          have n3 := BXN.out.at 3
          have n4 := BXN.out.at 4
          have n5 := BXN.out.at 5
          have n6 := BXN.out.at 6
          have nl := BXN.out.lt
          go_wp2_with fail
          clear n0 n1 n2 n3 n4 n5 n6
          go_loopw [9, 10] (fun r9 r10 wr => ∃ j : Nat, r10 = .int .i64 (j : Int) ∧ j ≤ q ∧ wr = w2 ∧ ∃ S : List UInt8, r9 = .string ⟨S.toArray⟩ ∧ S.length ≤ 10000000000000 + j * 10000000000002 ∧ Hid (S = xn ++ [40] ++ Lib.join ((st.drop f).take j) [44, 32])) (fun _ r _ => q - (intOf r).toNat)
          case atStart => exact ⟨0, rfl, Nat.zero_le _, rfl, xn ++ [40], by first | rfl | simp, by simp; omega, by show _ = _; rw [List.take_zero, jn_nil, List.append_nil]⟩
          case round =>
            rename World => w9
            obtain ⟨j, rfl, hj, rfl, S, rfl, hSl, hS⟩ := hrel
            by_cases hjq : j < q
            · have hjq' : (j : Int) < (q : Int) := by omega
              have j0 : (0 : Int) ≤ (j : Int) := by omega
              have hfl2 : f + j < st.length := by omega
              obtain ⟨g, rfl, hso⟩ := HA8.out (by omega)
              have HSO : Hid (so = some ⟨g, 0, none⟩) := hso
              clear hso
              have cA := CEL.out g HSO.out (f + j) hfl2
              have gA := World.block_lt_of_cell? _ _ cA
              have hAl : st[f + j].length ≤ 10000000000000 := Nat.le_trans (sumT_mem (List.getElem_mem _)) HSU.out
              have htk : (st.drop f).take (j + 1) = (st.drop f).take j ++ [st[f + j]] := by
                rw [List.take_succ_eq_append_getElem (by rw [List.length_drop]; omega), List.getElem_drop]
              have hlj : ((st.drop f).take j).length = j := by rw [List.length_take, List.length_drop]; omega
              generalize st[f + j] = A at *
              by_cases h0 : j = 0
              · subst h0
                simp only [Nat.add_zero] at cA
                have hq00 : (0 : Int) < (q : Int) := by omega
                have HF : Hid (S ++ A = xn ++ [40] ++ Lib.join ((st.drop f).take (0 + 1)) [44, 32]) := by show _ = _; rw [htk, List.take_zero, List.nil_append, jn_one, hS.out, List.take_zero, jn_nil, List.append_nil]
                have e2 : (ByteArray.mk S.toArray) ++ (ByteArray.mk A.toArray) = ⟨(S ++ A).toArray⟩ := ba_app S A
                have s3 : (ByteArray.mk S.toArray).size = S.length := rfl
                have s4 : (ByteArray.mk A.toArray).size = A.length := rfl
                clear hS htk hlj e1
                go_wp2
                exact ⟨⟨0 + 1, by simp, by omega, (by first | trivial | rfl), S ++ A, by first | rfl | simp, by simp; omega, HF⟩, by simp [intOf]; omega⟩
              · have hj0 : (0 : Int) < (j : Int) := by omega
                have HF : Hid (S ++ [44, 32] ++ A = xn ++ [40] ++ Lib.join ((st.drop f).take (j + 1)) [44, 32]) := by show _ = _; rw [htk, jn_snoc _ _ _ (fun h => by rw [h] at hlj; simp at hlj; omega), hS.out]; simp only [List.append_assoc]
                have e2 : (ByteArray.mk S.toArray) ++ (ByteArray.mk #[44, 32]) = ⟨(S ++ [44, 32]).toArray⟩ := ba_app S [44, 32]
                have e3 : (ByteArray.mk (S ++ [44, 32]).toArray) ++ (ByteArray.mk A.toArray) = ⟨(S ++ [44, 32] ++ A).toArray⟩ := ba_app (S ++ [44, 32]) A
                have s3 : (ByteArray.mk S.toArray).size = S.length := rfl
                have s4 : (ByteArray.mk A.toArray).size = A.length := rfl
                have s5 : (ByteArray.mk #[44, 32]).size = 2 := rfl
                have s6 : (ByteArray.mk (S ++ [44, 32]).toArray).size = S.length + 2 := by show (S ++ [44, 32]).length = _; simp
                clear hS htk hlj e1 h0
                go_wp2
                exact ⟨⟨j + 1, by rw [cst1], by omega, (by first | trivial | rfl), S ++ [44, 32] ++ A, by first | rfl | simp, by simp; omega, HF⟩, by simp [intOf]; omega⟩
            · have hjq' : ¬ (j : Int) < (q : Int) := by omega
              obtain rfl : j = q := by omega
              have e2 : (ByteArray.mk S.toArray) ++ (ByteArray.mk #[41]) = ⟨(S ++ [41]).toArray⟩ := ba_app S [41]
              have s3 : (ByteArray.mk S.toArray).size = S.length := rfl
              have s5 : (ByteArray.mk #[41]).size = 1 := rfl
              have HTY : Hid (T = S ++ [41]) := by show T = _; rw [HTX.out, hS.out]
              clear hS HTX e1
              go_wp2_with fail
              go_meet
              exact ⟨by rw [HTY.out], Below.refl _ _⟩
        -- an op of two
        have hor := HOR.out h1 h2 h19
        have hq2 : q = 2 := by have := HQ.out; unfold opsN at this; dsimp only at this; rw [if_neg h19, if_pos (by omega)] at this; omega
        have HQ2 : Hid (q = 2) := hq2
        have hq0 : (0 : Int) < (q : Int) := by omega
        have hq1 : (1 : Int) < (q : Int) := by omega
        obtain ⟨op, rfl⟩ : ∃ op : Nat, xo = (op : Int) := ⟨xo.toNat, by omega⟩
        have h0l : f < st.length := by omega
        have h1l : f + 1 < st.length := by omega
        obtain ⟨g, rfl, hso⟩ := HA8.out (by omega)
        have HSO : Hid (so = some ⟨g, 0, none⟩) := hso
        clear hso hq2
        have cA := CEL.out g HSO.out f h0l
        have cB := CEL.out g HSO.out (f + 1) h1l
        have gA := World.block_lt_of_cell? _ _ cA
        have cS : w2.cell? ⟨sg, op, none⟩ = some (.string ⟨(sgn op).toArray⟩) := by rw [← sgA_at op (by omega)]; exact SGX.out.at op
        have gS := World.block_lt_of_cell? _ _ cS
        have hsl : (sgn op).length ≤ 3 := by
          have : ∀ j, j < 19 → (sgn j).length ≤ 3 := by decide
          exact this _ (by omega)
        have HTX : Hid (T = [40] ++ st[f] ++ [32] ++ sgn op ++ [32] ++ st[f + 1] ++ [41]) := by
          have h := HT.out
          unfold txtN at h
          dsimp only at h
          rw [if_neg h1, if_neg h2, if_neg h3, if_neg h4, if_neg h5, if_neg h19] at h
          have e : (st.drop f).getD 0 [] = st[f] := by rw [List.getD_eq_getElem?_getD, List.getElem?_drop, Nat.add_zero, List.getElem?_eq_getElem h0l]; rfl
          have e' : (st.drop f).getD 1 [] = st[f + 1] := by rw [List.getD_eq_getElem?_getD, List.getElem?_drop, List.getElem?_eq_getElem h1l]; rfl
          rw [e, e', Int.toNat_natCast] at h
          show T = _
          rw [← h]
          simp [parT, Lib.join, List.intercalate, List.intersperse]
        have hAl : st[f].length ≤ 10000000000000 := Nat.le_trans (sumT_mem (List.getElem_mem _)) HSU.out
        have hBl : st[f + 1].length ≤ 10000000000000 := Nat.le_trans (sumT_mem (List.getElem_mem _)) HSU.out
        generalize st[f] = A at *
        generalize st[f + 1] = D at *
        generalize sgn op = G at *
        obtain ⟨C1, hC1⟩ : ∃ C1 : List UInt8, C1 = [40] ++ A := ⟨_, rfl⟩
        have eC1 : (ByteArray.mk #[40]) ++ (ByteArray.mk A.toArray) = ⟨C1.toArray⟩ := by rw [hC1]; exact ba_app [40] A
        have sC1 : (ByteArray.mk C1.toArray).size = C1.length := rfl
        have lC1 : C1.length = 1 + A.length := by rw [hC1]; simp; try omega
        obtain ⟨C2, hC2⟩ : ∃ C2 : List UInt8, C2 = C1 ++ [32] := ⟨_, rfl⟩
        have eC2 : (ByteArray.mk C1.toArray) ++ (ByteArray.mk #[32]) = ⟨C2.toArray⟩ := by rw [hC2]; exact ba_app C1 [32]
        have sC2 : (ByteArray.mk C2.toArray).size = C2.length := rfl
        have lC2 : C2.length = C1.length + 1 := by rw [hC2]; simp; try omega
        obtain ⟨C3, hC3⟩ : ∃ C3 : List UInt8, C3 = C2 ++ G := ⟨_, rfl⟩
        have eC3 : (ByteArray.mk C2.toArray) ++ (ByteArray.mk G.toArray) = ⟨C3.toArray⟩ := by rw [hC3]; exact ba_app C2 G
        have sC3 : (ByteArray.mk C3.toArray).size = C3.length := rfl
        have lC3 : C3.length = C2.length + G.length := by rw [hC3]; simp; try omega
        obtain ⟨C4, hC4⟩ : ∃ C4 : List UInt8, C4 = C3 ++ [32] := ⟨_, rfl⟩
        have eC4 : (ByteArray.mk C3.toArray) ++ (ByteArray.mk #[32]) = ⟨C4.toArray⟩ := by rw [hC4]; exact ba_app C3 [32]
        have sC4 : (ByteArray.mk C4.toArray).size = C4.length := rfl
        have lC4 : C4.length = C3.length + 1 := by rw [hC4]; simp; try omega
        obtain ⟨C5, hC5⟩ : ∃ C5 : List UInt8, C5 = C4 ++ D := ⟨_, rfl⟩
        have eC5 : (ByteArray.mk C4.toArray) ++ (ByteArray.mk D.toArray) = ⟨C5.toArray⟩ := by rw [hC5]; exact ba_app C4 D
        have sC5 : (ByteArray.mk C5.toArray).size = C5.length := rfl
        have lC5 : C5.length = C4.length + D.length := by rw [hC5]; simp; try omega
        have HTY : Hid (T = C5 ++ [41]) := by show T = _; rw [HTX.out, hC5, hC4, hC3, hC2, hC1]
        have eT : (ByteArray.mk C5.toArray) ++ (ByteArray.mk #[41]) = ⟨T.toArray⟩ := by rw [HTY.out]; exact ba_app C5 [41]
        clear hC1 hC2 hC3 hC4 hC5
        have t1 : (ByteArray.mk #[40]).size = 1 := rfl
        have t2 : (ByteArray.mk #[32]).size = 1 := rfl
        have t3 : (ByteArray.mk #[41]).size = 1 := rfl
        have t4 : (ByteArray.mk A.toArray).size = A.length := rfl
        have t5 : (ByteArray.mk D.toArray).size = D.length := rfl
        have t6 : (ByteArray.mk G.toArray).size = G.length := rfl
        have h1' : ¬ (op : Int) = 1 := h1
        have h2' : ¬ (op : Int) = 2 := h2
        have o0 : (0 : Int) ≤ (op : Int) := by omega
        have o19 : (op : Int) < 19 := by omega
        have n0 := BXN.out.at 0
        have n1 := BXN.out.at 1
        have n2 := BXN.out.at 2
        have n3 := BXN.out.at 3
        have n4 := BXN.out.at 4
        have n5 := BXN.out.at 5
        have n6 := BXN.out.at 6
        have nl := BXN.out.lt
        go_wp2_with fail
        try go_region
        all_goals (try go_wp2_with fail)
        all_goals go_meet
        all_goals exact ⟨rfl, by first | exact Below.refl _ _ | exact (Below.refl _ _).drew⟩
      rename World => wx
      obtain ⟨rfl, b2x⟩ := hcut
      have HOx : Hid (Ts wx ws.heap.size (.slice so f sc) (st.take f)) := Ts.later HO2.out b2x
      have Bx : Below ws.heap.size ws wx := below_trans B2.out b2x
      have sx := Bx.size
      have A2 : Below wx.heap.size wx (wx.alloc (.cells #[] 9)) := (Below.refl _ _).alloc (Nat.le_refl _) _
      have SRC := src_of_ts (Ts.later HOx.out A2) hfl
      have hmade : (wx.alloc (.cells #[] 9)).ownsRow wx.heap.size 9 1 (.slice (some ⟨wx.heap.size, 0, none⟩) 0 0) 0 [] := World.ownsRow_made wx #[] 0 (Nat.le_refl _) (by decide) (by simp)
      have HLK : Hid ((st.take f).length = f) := by show _ = _; rw [List.length_take]; omega
      clear HA8 HPX HOR HQ HT HOx HO2 B2
      go_wp2_with (at_builtin; refine wpList_append_from rfl _ _ 45 45 rfl wx.heap.size 9 i0 (.string ⟨#[]⟩) 1 16 Tryz.underlying45 hi hz0 hz1 hz2 rfl _ 0 [] rfl hmade _ f (sv (st.take f)) rfl SRC (by unfold maxLen; omega) (by omega) (by simp) ?_)
      intro v3 w3 o3 g3
      have b13 : Below wx.heap.size wx w3 := A2.grown g3 (by simp) (fun k hk => by cases hk; exact Nat.le_refl _)
      have s3 := b13.size
      clear hmade SRC A2 g3
      go_wp2_with (at_builtin; refine wpList_append_own _ rfl _ _ 45 rfl wx.heap.size 9 i0 (.string ⟨#[]⟩) 1 16 Tryz.underlying45 hi hz0 hz1 hz2 rfl (by decide) _ _ _ rfl (World.ownsRow.alloc o3 _) ⟨w3.heap.size, 0, none⟩ 1 1 [.string ⟨T.toArray⟩] rfl rfl (cell_one_new _ _ _) (one_str T) (by unfold maxLen; omega) (by omega) (by simp; omega) ?_)
      intro v4 w4 o4 g4 _
      have hrow := World.ownsRow.lt o3
      have b14 : Below wx.heap.size wx w4 := (b13.alloc s3 _).grown g4 (by simp; omega) (fun k hk => (hrow k hk).1)
      have o5 : Ts w4 ws.heap.size v4 (st.take f ++ [T]) := ts_base (Ts.push' HLK.out o4) sx
      have B4 := below_trans Bx b14
      clear o4 o3 g4 hrow
      go_wp2
      exact ⟨⟨k + 1, st.take f ++ [T], by rw [cst1], by omega, by rw [List.length_append, HLK.out]; simp; omega, HSM.out, o5, B4, HST, by obtain ⟨d1, d2, d3⟩ := HDD.out; exact ⟨d1, by rw [List.length_append, HLK.out, d2]; simp, d3⟩⟩, by simp [intOf]; omega⟩
    · have hlt' : ¬ (k : Int) < (n : Int) := by omega
      have HF : Hid (R = st ∧ st.length = 1) := by
        obtain ⟨ds, h1, h2⟩ := hD.out
        have h3 := hH.out
        have e : l.drop k = [] := List.drop_eq_nil_of_le (by rw [HN.out]; omega)
        rw [e] at h2 h3
        have h4 : ds = [d] := by
          unfold runD at h2
          exact Option.some.inj h2
        exact ⟨h3.symm, by rw [← h1, h4]; rfl⟩
      obtain ⟨t, ht⟩ := List.length_eq_one_iff.1 HF.out.2
      subst ht
      obtain ⟨g, rfl, hgl, hgc⟩ : ∃ g, so = some ⟨g, 0, none⟩ ∧ g < wo.heap.size ∧ wo.cell? ⟨g, 0, none⟩ = some (.string ⟨t.toArray⟩) := by
        cases so with
        | none => have := (hsn rfl).1; simp at this
        | some a => obtain ⟨g, rfl, _, h3, h4⟩ := hcell a rfl; exact ⟨g, rfl, h3, by simpa using h4 0 (by simp)⟩
      have HF2 : Hid (R = [t]) := HF.out.1
      clear HF hH hD hcell hcut ho hsn HR HD
      go_wp2
      go_ret
      exact ⟨by rw [HF2.out]; rfl, below_trans B10 hb⟩
end Go.Proofs.YtclhmmgdhagloaaGreatDoor
