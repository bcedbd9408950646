/-
  The contract of the document's read: the slots of the page that bytes are, in memory of its own.
-/
import Derived.Test.YtaghbkjjindjfaaDoorPgN
namespace Go.Proofs.YtaghbkjjindjfaaDoor
open Go.RowKit

theorem Tryd.info54 : (Tryd.prog.info? 54).map (fun i => (i.zero, i.size, i.bytes)) = some (some (.agg #[.slice none 0 0, .bool false]), 2, 32) := by kernel_rfl
def bcs (cs : List Cn) : List Value := cs.flatMap fun c => [.slice c.ao c.n c.cap, .bool c.t]
theorem bcs_snoc (cs : List Cn) (c : Cn) : bcs (cs ++ [c]) = bcs cs ++ [.slice c.ao c.n c.cap, .bool c.t] := by simp [bcs]
theorem bcs_len (cs : List Cn) : (bcs cs).length = cs.length * 2 := by
  induction cs with
  | nil => rfl
  | cons c cs ih => simp only [bcs, List.flatMap_cons, List.length_append, List.length_cons] at *; rw [ih]; simp; omega
theorem bcs_at (cs : List Cn) : ∀ (i : Nat) (h : i < cs.length), (bcs cs)[i * 2]? = some (.slice cs[i].ao cs[i].n cs[i].cap) ∧ (bcs cs)[i * 2 + 1]? = some (.bool cs[i].t) := by
  induction cs with
  | nil => intro i h; simp at h
  | cons c cs ih =>
    intro i h
    cases i with
    | zero => exact ⟨rfl, rfl⟩
    | succ i =>
      have := ih i (by simpa using h)
      have e : bcs (c :: cs) = .slice c.ao c.n c.cap :: .bool c.t :: bcs cs := rfl
      rw [e, show (i + 1) * 2 = i * 2 + 1 + 1 by omega, show i * 2 + 1 + 1 + 1 = (i * 2 + 1) + 1 + 1 by omega]
      simpa using this
theorem bcs_set (cs : List Cn) : ∀ (k : Nat) (c : Cn), k < cs.length → bcs (cs.set k c) = ((bcs cs).set (k * 2) (.slice c.ao c.n c.cap)).set (k * 2 + 1) (.bool c.t) := by
  induction cs with
  | nil => intro k c h; simp at h
  | cons d cs ih =>
    intro k c h
    have e : ∀ (d : Cn) (cs : List Cn), bcs (d :: cs) = .slice d.ao d.n d.cap :: .bool d.t :: bcs cs := fun _ _ => rfl
    cases k with
    | zero => simp [e]
    | succ k =>
      rw [List.set_cons_succ, e, e, ih k c (by simpa using h), show (k + 1) * 2 = k * 2 + 1 + 1 by omega]
      simp
/-- A row of the document's slots of one's own. -/
def BOw (w : World) (base : Nat) (v : Value) (cs : List Cn) : Prop := w.ownsRow base 54 2 v cs.length (bcs cs)
theorem BOw.bw {w : World} {base : Nat} {v : Value} {cs : List Cn} (h : BOw w base v cs) : ∃ ao cap, v = .slice ao cs.length cap ∧ cs.length ≤ cap ∧ cap ≤ maxLen ∧ Bw w ao cs := by
  obtain ⟨h1, h2⟩ := h
  rcases h2 with ⟨rfl, hn⟩ | ⟨g, cap, cur, rfl, hb, hg, hnc, hcm, hcs, htake⟩
  · rw [hn]
    exact ⟨none, 0, rfl, Nat.le_refl _, Nat.zero_le _, fun hp => by omega⟩
  · refine ⟨some ⟨g, 0, none⟩, cap, rfl, hnc, hcm, fun _ => ⟨g, 0, rfl, fun i hi => ?_⟩⟩
    have hcell : ∀ j u, (bcs cs)[j]? = some u → w.cell? ⟨g, j, none⟩ = some u := by
      intro j u hj
      rw [cell_of_row w g j cur 54 (0, 0) hg]
      rw [← htake, List.getElem?_take] at hj
      split at hj
      · simpa using hj
      · cases hj
    have := bcs_at cs i hi
    rw [Nat.zero_add]
    exact ⟨hcell _ _ this.1, hcell _ _ this.2⟩
theorem BOw.later {w w' : World} {base : Nat} {v : Value} {cs : List Cn} (h : BOw w base v cs) (hb : Below w.heap.size w w') : BOw w' base v cs := by
  obtain ⟨h1, h2⟩ := h
  refine ⟨h1, ?_⟩
  rcases h2 with hn | ⟨g, cap, cur, hv, hbg, hg, rest⟩
  · exact .inl hn
  · refine .inr ⟨g, cap, cur, hv, hbg, ?_, rest⟩
    rw [hb.block g (Array.getElem?_eq_some_iff.1 hg).1]
    exact hg
theorem BOw.some {w : World} {base n cap : Nat} {va : Option Addr} {cs : List Cn} (h : BOw w base (.slice va n cap) cs) (hn : 0 < cs.length) : ∃ g, va = Option.some ⟨g, 0, none⟩ := by
  rcases h.2 with ⟨h2, h3⟩ | ⟨g', cap', cur, hv, _⟩
  · omega
  · cases hv; exact ⟨g', rfl⟩
theorem BOw.set {w : World} {base g cap : Nat} {cs : List Cn} (h : BOw w base (.slice (.some ⟨g, 0, none⟩) cs.length cap) cs) (k : Nat) (hk : k < cs.length) (c : Cn) :
    BOw ((w.setCell ⟨g, k * 2, none⟩ (.slice c.ao c.n c.cap)).setCell ⟨g, k * 2 + 1, none⟩ (.bool c.t)) base (.slice (.some ⟨g, 0, none⟩) cs.length cap) (cs.set k c) := by
  obtain ⟨h1, h2⟩ := h
  rcases h2 with ⟨h2, _⟩ | ⟨g', cap', cur, hv, hb, hg, hnc, hcm, hcs, htake⟩
  · cases h2
  · cases hv
    refine ⟨by rw [bcs_len], .inr ⟨g, cap, _, by simp, hb, heap_set _ g (k * 2 + 1) _ _ _ (heap_set w g (k * 2) cur _ _ hg), by simpa using hnc, hcm, by simpa using hcs, ?_⟩⟩
    rw [bcs_set cs k c hk, List.length_set, ← htake]
    simp [List.take_set]
theorem BOw.room {w : World} {base g cap : Nat} {cs : List Cn} (h : BOw w base (.slice (.some ⟨g, 0, none⟩) cs.length cap) cs) (k : Nat) (hk : k < cs.length) :
    w.cell? ⟨g, k * 2, none⟩ = .some (.slice cs[k].ao cs[k].n cs[k].cap) ∧ w.cell? ⟨g, k * 2 + 1, none⟩ = .some (.bool cs[k].t) ∧ w.frozen? ⟨g, k * 2, none⟩ = false ∧ w.frozen? ⟨g, k * 2 + 1, none⟩ = false ∧ base ≤ g ∧ g < w.heap.size := by
  obtain ⟨ao, cap', hv, _, _, hc⟩ := h.bw
  cases hv
  obtain ⟨b, off, e, hA⟩ := hc (by omega)
  cases e
  have := hA k hk
  rw [Nat.zero_add] at this
  obtain ⟨h1, h2⟩ := h
  rcases h2 with ⟨h2, _⟩ | ⟨g', cap', cur, hv, hb, hg, _⟩
  · cases h2
  · cases hv
    exact ⟨this.1, this.2, by simp [World.frozen?, hg], by simp [World.frozen?, hg], hb, (Array.getElem?_eq_some_iff.1 hg).1⟩

theorem own_apart {w : World} {b1 b2 s1 s2 n1 n2 : Nat} {e1 e2 : TypeId} {v1 v2 : Value} {x1 x2 : List Value} (h1 : w.ownsRow b1 e1 s1 v1 n1 x1) (h2 : w.ownsRow b2 e2 s2 v2 n2 x2) (hne : e1 ≠ e2) : v1.ownBlock = none ∨ v1.ownBlock ≠ v2.ownBlock := by
  rcases h1.2 with ⟨rfl, _⟩ | ⟨g1, c1, u1, rfl, _, hg1, _⟩
  · exact .inl rfl
  · refine .inr fun e => ?_
    rcases h2.2 with ⟨rfl, _⟩ | ⟨g2, c2, u2, rfl, _, hg2, _⟩
    · cases e
    · have a1 : g1 = g2 := Option.some.inj e
      subst a1
      rw [hg1] at hg2
      simp at hg2
      exact hne hg2.2
/-- A slot's record lies in a row of bytes of one's own. -/
def CnO (w : World) (base : Nat) (c : Cn) : Slt → Prop
  | none => c = Cn.z
  | some b => c.t = true ∧ Go.Proofs.YtaghbkjjindjfaaDoor.Own w base (.slice c.ao c.n c.cap) b
def CsO (w : World) (base : Nat) (cs : List Cn) (l : List Slt) : Prop := cs.length = l.length ∧ ∀ i (h : i < cs.length) (h' : i < l.length), CnO w base cs[i] l[i]
theorem CnO.csr {w : World} {base : Nat} {c : Cn} {s : Slt} (h : CnO w base c s) : CnR w c s := by
  cases s with
  | none => exact h
  | some b =>
    obtain ⟨h1, h2⟩ := h
    obtain ⟨ao, cap, hv, hr, _⟩ := h2.rd
    obtain ⟨t, cao, cn, ccap⟩ := c
    simp only [Value.slice.injEq] at hv
    obtain ⟨rfl, rfl, rfl⟩ := hv
    exact ⟨h1, hr⟩
theorem CsO.csr {w : World} {base : Nat} {cs : List Cn} {l : List Slt} (h : CsO w base cs l) : CsR w cs l := ⟨h.1, fun i h1 h2 => (h.2 i h1 h2).csr⟩
theorem CsO.kept {w w' : World} {base b2 n2 : Nat} {cs : List Cn} {l : List Slt} {v : Value} {x : List Value} (h : CsO w base cs l) (hv : w.ownsRow b2 54 2 v n2 x) (hg : w.grownBy w' v.ownBlock) : CsO w' base cs l := by
  refine ⟨h.1, fun i h1 h2 => ?_⟩
  have := h.2 i h1 h2
  generalize cs[i] = c at *
  generalize l[i] = s at *
  cases s with
  | none => exact this
  | some b => exact ⟨this.1, World.ownsRow.kept this.2 hg (own_apart this.2 hv (by decide))⟩
theorem CsO.later {w w' : World} {base : Nat} {cs : List Cn} {l : List Slt} (h : CsO w base cs l) (hb : Below w.heap.size w w') : CsO w' base cs l := by
  refine ⟨h.1, fun i h1 h2 => ?_⟩
  have := h.2 i h1 h2
  generalize cs[i] = c at *
  generalize l[i] = s at *
  cases s with
  | none => exact this
  | some b => exact ⟨this.1, Own.later this.2 hb⟩
theorem CsO.snoc {w : World} {base : Nat} {cs : List Cn} {l : List Slt} (h : CsO w base cs l) (c : Cn) (s : Slt) (hc : CnO w base c s) : CsO w base (cs ++ [c]) (l ++ [s]) := by
  have e := h.1
  refine ⟨by simp [e], fun i h1 h2 => ?_⟩
  rcases Nat.lt_or_ge i cs.length with hi | hi
  · rw [List.getElem_append_left hi, List.getElem_append_left (by omega)]
    exact h.2 i hi (by omega)
  · have hi2 : i = cs.length := by simp at h1; omega
    subst hi2
    simp only [List.getElem_append_right (Nat.le_refl _), Nat.sub_self, List.getElem_cons_zero]
    rw [List.getElem_append_right (by omega)]
    simpa [e] using hc
/-- The slots read so far. -/
structure RL (N : Nat) (w0 w : World) (v : Value) (cs : List Cn) (l : List Slt) : Prop where
  o : BOw w N v cs
  r : CsO w N cs l
  bel : Below N w0 w
  le : N ≤ w.heap.size
theorem RL.later {N : Nat} {w0 w w' : World} {v : Value} {cs : List Cn} {l : List Slt} (h : RL N w0 w v cs l) (hb : Below w.heap.size w w') : RL N w0 w' v cs l :=
  ⟨h.o.later hb, h.r.later hb, h.bel.trans (hb.mono h.le), Nat.le_trans h.le hb.size⟩
theorem RL.push {N : Nat} {w0 w w' : World} {v v' : Value} {cs : List Cn} {l : List Slt} {n : Nat} (h : RL N w0 w v cs l) (c : Cn) (s : Slt) (hc : CnO w N c s)
    (ho : w'.ownsRow N 54 2 v' n (bcs cs ++ [.slice c.ao c.n c.cap, .bool c.t])) (hn : n = cs.length + 1) (hg : w.grownBy w' v.ownBlock) : RL N w0 w' v' (cs ++ [c]) (l ++ [s]) := by
  refine ⟨?_, (h.r.snoc c s hc).kept h.o hg, h.bel.grown hg h.le (fun k hk => (World.ownsRow.lt h.o k hk).1), Nat.le_trans h.le hg.size⟩
  unfold BOw
  rw [bcs_snoc, List.length_append]
  subst hn
  exact ho
theorem one_slot (x : Option Addr) (n c : Nat) (t : Bool) : ∀ u ∈ [Value.slice x n c, Value.bool t], u.oneCell' = true := by simp [Value.oneCell']
theorem two_new2 (W : World) (x y : Value) (t : TypeId) : ∀ j u, [x, y][j]? = some u → (W.alloc (.cells #[x, y] t)).cell? ((⟨W.heap.size, 0, none⟩ : Addr).add j) = some u := by
  intro j u hj
  match j, hj with
  | 0, hj => simp at hj; subst hj; simp [Addr.add]
  | 1, hj => simp at hj; subst hj; simp [Addr.add]

set_option maxHeartbeats 1000000 in
theorem rread_short (ao : Option Addr) (n cap : Nat) (w : World) (hn : n ≠ 512) (_hm : n ≤ 9223372036854775807) :
    Calls Tryd.prog 27 #[.slice ao n cap] w fun e w' => e = .returned (.tuple #[.slice none 0 0, .bool false]) ∧ w = w' := by
  have h1 : (((n : Int) != 512) = true) := by rw [bne_iff_ne]; omega
  go_enter Tryd.func27, Tryd.ntmps27
  go_wp2
  go_ret2
  exact ⟨rfl, rfl⟩

theorem fld_cells {w : World} {b off cap : Nat} {bs : List UInt8} (h : Rd w (some ⟨b, off, none⟩) 512 cap bs) (k : Nat) (hk : k < 512) (q : Nat) : (w.drewN q).cell? ⟨b, off + k, none⟩ = some (.int .u8 (bt bs k : Int)) := by
  obtain ⟨b', off', e, hc⟩ := h.2.2.2.2 (by omega)
  cases e
  have hl := h.1
  have := hc k (by omega)
  show w.cell? _ = _
  rw [this]
  simp [bt, List.getD_eq_getElem?_getD, List.getElem?_eq_getElem (show k < bs.length by omega)]
theorem bt_lt (bs : List UInt8) (k : Nat) : bt bs k < 256 := by unfold bt; exact (bs.getD k 0).toNat_lt

set_option maxRecDepth 20000 in
set_option maxHeartbeats 4000000 in
theorem rread_page (b off cap : Nat) (bs : List UInt8) (w : World) (hcap : 512 ≤ cap) (hmc : cap ≤ maxLen) (hR : Rd w (some ⟨b, off, none⟩) 512 cap bs) :
    Calls Tryd.prog 27 #[.slice (some ⟨b, off, none⟩) 512 cap] w fun e w' => ∃ v, e = .returned (.tuple #[v, .bool (pg bs).isSome]) ∧ Below w.heap.size w w' ∧ (pg bs = none → v = .slice none 0 0) ∧ ∀ l, pg bs = some l → ∃ cs, RL w.heap.size w w' v cs l := by
  have c0 := fun q => fld_cells hR 0 (by omega) q
  have c1 := fun q => fld_cells hR 1 (by omega) q
  have hb0 := bt_lt bs 0
  have hb1 := bt_lt bs 1
  have HL : Hid (bs.length = 512) := hR.1
  rw [Nat.add_zero] at c0
  unfold maxLen at hmc
  go_enter Tryd.func27, Tryd.ntmps27
  go_wp2
  go_quiet (fail)
  have e0 : (256 * (bt bs 0 : Int) + (bt bs 1 : Int)) = ((fld bs 0 : Nat) : Int) := by
    show _ = ((256 * bt bs 0 + bt bs (0 + 1) : Nat) : Int)
    rw [Nat.zero_add]
    omega
  rw [e0]
  obtain ⟨n, hn⟩ : ∃ n, fld bs 0 = n := ⟨_, rfl⟩
  have HN : Hid (fld bs 0 = n) := hn
  have hnl := fld_lt bs 0
  rw [hn] at hnl ⊢
  have HBa : Hid (Below w.heap.size w (w.drewN nq)) := below_drewN (Below.refl _ _) _
  have HSA : Hid ((w.drewN nq).heap.size = w.heap.size) := rfl
  generalize w.drewN nq = wa at *
  clear e0 c0 c1 hb0 hb1 hn
  by_cases hbig : 504 < 2 + 4 * n
  · have hbig' : (504 : Int) < 2 + 4 * (n : Int) := by omega
    have hp : pg bs = none := pg_long (by rw [HN.out]; exact hbig)
    go_wp2
    go_ret2
    rw [hp]
    exact ⟨_, rfl, HBa.out, fun _ => rfl, fun l h => by cases h⟩
  · have hbig' : ¬ (504 : Int) < 2 + 4 * (n : Int) := by omega
    have hn125 : n ≤ 125 := by omega
    clear hbig hnl
    obtain ⟨i0, hi, hz0, hz1, hz2⟩ := info_parts Tryd.info5
    obtain ⟨j0, hj, hy0, hy1, hy2⟩ := info_parts Tryd.info54
    go_wp2_with fail
    have hO0 : RL w.heap.size w (wa.alloc (.cells #[] 54)) (.slice (some ⟨wa.heap.size, 0, none⟩) 0 0) [] (dl bs 0) :=
      ⟨World.ownsRow_made wa #[] 0 (by rw [HSA.out]; exact Nat.le_refl _) (by decide) rfl, ⟨rfl, fun i h => by simp at h⟩, HBa.out.alloc (by rw [HSA.out]; exact Nat.le_refl _) _, by simp; rw [HSA.out]; exact Nat.le_succ _⟩
    go_loopw [5, 6, 7] (fun s5 s6 s7 wr => ∃ (v : Value) (cs : List Cn) (i t : Nat), v = s5 ∧ i ≤ n ∧ s7 = .int .i64 i ∧ s6 = .int .i64 (t : Int) ∧ t ≤ 504 ∧ Hid (t = used (dl bs i)) ∧ Hid (RL w.heap.size w wr v cs (dl bs i))) (fun _ _ i _ => n - (intOf i).toNat)
    case atStart => exact ⟨_, [], 0, 0, rfl, Nat.zero_le _, rfl, rfl, Nat.zero_le _, rfl, hO0⟩
    case round =>
      clear hO0 HSA HBa
      obtain ⟨v, cs, i, t, rfl, hin, rfl, rfl, ht, hu, hW⟩ := hrel
      by_cases hlt : i < n
      · have hRr := hR.later hW.out.bel
        have c0 := fun q => fld_cells hRr (2 + 4 * i) (by omega) q
        have c1 := fun q => fld_cells hRr (2 + 4 * i + 1) (by omega) q
        have c2 := fun q => fld_cells hRr (2 + 4 * i + 2) (by omega) q
        have c3 := fun q => fld_cells hRr (2 + 4 * i + 3) (by omega) q
        have hb0 := bt_lt bs (2 + 4 * i)
        have hb1 := bt_lt bs (2 + 4 * i + 1)
        have hb2 := bt_lt bs (2 + 4 * i + 2)
        have hb3 := bt_lt bs (2 + 4 * i + 3)
        have hnc1 : ¬ cap = 2 + 4 * i := by omega
        have hnc2 : ¬ cap - (2 + 4 * i) = 0 := by omega
        have hnc3 : (2 + 4 * (i : Int)) ≤ 6 + 4 * (i : Int) := by omega
        have hnc4 : (6 + 4 * (i : Int)) ≤ (cap : Int) := by omega
        obtain ⟨o, ho⟩ : ∃ o, off + (2 + 4 * i) = o := ⟨_, rfl⟩
        rw [show off + (2 + 4 * i + 1) = o + 1 by omega] at c1
        rw [show off + (2 + 4 * i + 2) = o + 2 by omega] at c2
        rw [show off + (2 + 4 * i + 3) = o + 3 by omega] at c3
        rw [ho] at c0
        have HO : Hid (off + (2 + 4 * i) = o) := ho
        clear ho
        go_wp2
        rw [HO.out, show 6 + 4 * i - (2 + 4 * i) = 4 by omega]
        go_quiet (fail)
        have e0 : (256 * (bt bs (2 + 4 * i) : Int) + (bt bs (2 + 4 * i + 1) : Int)) = ((fld bs (2 + 4 * i) : Nat) : Int) := by
          show _ = ((256 * bt bs (2 + 4 * i) + bt bs (2 + 4 * i + 1) : Nat) : Int)
          omega
        have e1 : (256 * (bt bs (2 + 4 * i + 2) : Int) + (bt bs (2 + 4 * i + 3) : Int)) = ((fld bs (4 + 4 * i) : Nat) : Int) := by
          show _ = ((256 * bt bs (4 + 4 * i) + bt bs (4 + 4 * i + 1) : Nat) : Int)
          rw [show 4 + 4 * i + 1 = 2 + 4 * i + 3 by omega, show 4 + 4 * i = 2 + 4 * i + 2 by omega]
          omega
        rw [e0]
        have c2' : ∀ q, ((wr.drewN nq).drewN q).cell? ⟨b, o + 2, none⟩ = some (.int .u8 (bt bs (2 + 4 * i + 2) : Int)) := fun q => c2 q
        have c3' : ∀ q, ((wr.drewN nq).drewN q).cell? ⟨b, o + 3, none⟩ = some (.int .u8 (bt bs (2 + 4 * i + 3) : Int)) := fun q => c3 q
        have HB2 : Hid (Below wr.heap.size wr (wr.drewN nq)) := below_drewN (Below.refl _ _) _
        clear c0 c1 c2 c3
        generalize wr.drewN nq = wq at *
        go_wp2
        go_quiet (fail)
        try rw [e1]
        have hWd : Hid (RL w.heap.size w (wq.drewN nq) v cs (dl bs i)) := (hW.out.later HB2.out).later (below_drewN (Below.refl _ _) _)
        have hla := fld_lt bs (2 + 4 * i)
        have hlm := fld_lt bs (4 + 4 * i)
        have hd : Hid (dsl bs i = if fld bs (2 + 4 * i) = 0 then none else some ((bs.drop (fld bs (2 + 4 * i))).take (fld bs (4 + 4 * i)))) := rfl
        have hearly : Hid (fld bs (2 + 4 * i) ≠ 0 → (504 < fld bs (2 + 4 * i) + fld bs (4 + 4 * i) ∨ 504 < t + fld bs (4 + 4 * i)) → pg bs = none) := fun h1 h2 => pg_early HL.out i (by rw [HN.out]; exact hlt) h1 (by rw [← hu.out]; exact h2)
        clear e0 e1 c2' c3' hb0 hb1 hb2 hb3 hW hRr HB2 hnc1 hnc2 hnc3 hnc4
        generalize fld bs (2 + 4 * i) = fa at *
        generalize fld bs (4 + 4 * i) = fm at *
        generalize wq.drewN nq = wd at *
        by_cases ha : fa = 0
        · subst ha
          have hds : dsl bs i = none := by rw [hd.out, if_pos rfl]
          have HDL : Hid (dl bs (i + 1) = dl bs i ++ [none]) := by show _ = _; rw [dl_succ, hds]
          have HU : Hid (t = used (dl bs (i + 1))) := by show _ = _; rw [dl_succ, hds, used_append, ← hu.out]; simp [used, sb]
          clear hd hearly hds
          have hcl : cs.length ≤ 125 := by have := hWd.out.r.1; rw [dl_len] at this; omega
          go_wp2_with (at_builtin; refine wpList_append_own _ rfl (.tmp 64) (.tmp 66) 50 rfl w.heap.size 54 j0 _ 2 32 Tryd.underlying50 hj hy0 hy1 hy2 rfl (by decide) _ _ _ rfl (World.ownsRow.alloc hWd.out.o _) ⟨wd.heap.size, 0, none⟩ 1 1 [.slice none 0 0, .bool false] rfl rfl (two_new2 _ _ _ _) (one_slot _ _ _ _) (by unfold maxLen; omega) (by omega) (by simp; exact Nat.le_succ_of_le hWd.out.le) ?_)
          intro v' w1 ho1 hgr1 _
          have hWa : RL w.heap.size w (wd.alloc (.cells #[.slice none 0 0, .bool false] 54)) v cs (dl bs i) := hWd.out.later ((Below.refl _ _).alloc (Nat.le_refl _) _)
          have hW1 := hWa.push Cn.z none rfl ho1 rfl hgr1
          clear hWa ho1 hgr1 hWd
          go_wp2
          go_roundw
          case rel => exact ⟨_, _, i + 1, t, rfl, by omega, by go_num, rfl, ht, HU, by rw [HDL.out]; exact hW1⟩
          case measure => simp [intOf]; omega
        · have ha' : ((fa : Int) == 0) = false := by simp; omega
          by_cases b1 : 504 < fa
          · have hb1 : (504 : Int) < (fa : Int) := by omega
            have hp : Hid (pg bs = none) := hearly.out ha (.inl (by omega))
            have hB := hWd.out.bel
            clear hearly hd
            go_wp2
            go_ret2
            rw [hp.out]
            exact ⟨_, rfl, hB, fun _ => rfl, fun l h => by cases h⟩
          have hb1 : ¬ (504 : Int) < (fa : Int) := by omega
          by_cases b2 : 504 < fa + fm
          · have hb2 : (504 : Int) - (fa : Int) < (fm : Int) := by omega
            have hp : Hid (pg bs = none) := hearly.out ha (.inl (by omega))
            have hB := hWd.out.bel
            clear hearly hd
            go_wp2
            go_ret2
            rw [hp.out]
            exact ⟨_, rfl, hB, fun _ => rfl, fun l h => by cases h⟩
          have hb2 : ¬ (504 : Int) - (fa : Int) < (fm : Int) := by omega
          by_cases b3 : 504 < t + fm
          · have hb3 : (504 : Int) < (t : Int) + (fm : Int) := by omega
            have hp : Hid (pg bs = none) := hearly.out ha (.inr b3)
            have hB := hWd.out.bel
            clear hearly hd
            go_wp2
            go_ret2
            rw [hp.out]
            exact ⟨_, rfl, hB, fun _ => rfl, fun l h => by cases h⟩
          have hb3 : ¬ (504 : Int) < (t : Int) + (fm : Int) := by omega
          have hcf1 : ¬ cap = fa := by omega
          have hcf2 : (fa : Int) ≤ (fa : Int) + (fm : Int) := by omega
          have hcf3 : (fa : Int) + (fm : Int) ≤ (cap : Int) := by omega
          have hcl : cs.length ≤ 125 := by have := hWd.out.r.1; rw [dl_len] at this; omega
          clear hearly
          have hrl : ((bs.drop fa).take fm).length = fm := by rw [List.length_take, List.length_drop, HL.out]; omega
          have hRs : Rd (wd.alloc (.cells #[] 5)) (some ⟨b, off + fa, none⟩) fm (cap - fa) ((bs.drop fa).take fm) := by
            have h0 := (hR.later hWd.out.bel).later ((Below.refl _ wd).alloc (Nat.le_refl _) (.cells #[] 5))
            refine ⟨hrl, by omega, by unfold maxLen; omega, (fun e => by cases e), fun hp => ⟨b, off + fa, rfl, fun j hj => ?_⟩⟩
            obtain ⟨b', off', e, hc⟩ := h0.2.2.2.2 (by omega)
            cases e
            rw [hrl] at hj
            have := hc (fa + j) (by rw [HL.out]; omega)
            rw [← Nat.add_assoc] at this
            rw [this]
            simp
          have HDS : Hid (dsl bs i = some ((bs.drop fa).take fm)) := by show _ = _; rw [hd.out, if_neg ha]
          have HRL : Hid (((bs.drop fa).take fm).length = fm) := hrl
          generalize (bs.drop fa).take fm = rec at *
          clear hd hrl
          have hz0' : w.heap.size ≤ (wd.alloc (.cells #[] 5)).heap.size := by simp; exact Nat.le_succ_of_le hWd.out.le
          go_wp2_with (at_builtin; go_loud (refine wpList_append_lies2 rfl (.tmp 84) (.tmp 90) 22 22 rfl w.heap.size 5 i0 (.int .u8 0) 1 1 Tryd.underlying22 hi hz0 hz1 hz2 rfl _ 0 [] rfl (own_made (base := w.heap.size) wd #[] 0 hWd.out.le (by decide) rfl) (.slice (some ⟨b, off + fa, none⟩) fm (cap - fa)) fm (bv rec) (show Value.slice _ _ _ = _ by simp) (src_of_rd Tryd.underlying22 hRs) (by unfold maxLen; omega) (by omega) hz0' ?_))
          intro u2 w2 ho2 hgr2 hat2
          have hO2 : Go.Proofs.YtaghbkjjindjfaaDoor.Own w2 w.heap.size u2 rec := own_of ho2
          have hW2 := hWd.out.later (((Below.refl _ wd).alloc (Nat.le_refl _) (.cells #[] 5)).grown hgr2 (by simp) (fun k hk => by cases hk; exact Nat.le_refl _))
          obtain ⟨a2, c2, rfl, -, -⟩ := hO2.rd
          have HDL : Hid (dl bs (i + 1) = dl bs i ++ [some rec]) := by show _ = _; rw [dl_succ, HDS.out]
          have HU : Hid (t + fm = used (dl bs (i + 1))) := by show _ = _; rw [dl_succ, HDS.out, used_append, ← hu.out]; simp only [used, sb, Option.getD_some]; rw [HRL.out]; rfl
          have htm : t + fm ≤ 504 := by omega
          clear ho2 hgr2 hat2 hWd hRs hz0'
          go_wp2_with (at_builtin; refine wpList_append_own _ rfl (.tmp 83) (.tmp 93) 50 rfl w.heap.size 54 j0 _ 2 32 Tryd.underlying50 hj hy0 hy1 hy2 rfl (by decide) _ _ _ rfl (World.ownsRow.alloc hW2.o _) ⟨w2.heap.size, 0, none⟩ 1 1 [.slice a2 rec.length c2, .bool true] rfl rfl (two_new2 _ _ _ _) (one_slot _ _ _ _) (by unfold maxLen; omega) (by omega) (by simp; exact Nat.le_succ_of_le hW2.le) ?_)
          intro v' w4 ho4 hgr4 _
          have A2 := (Below.refl w2.heap.size w2).alloc (Nat.le_refl _) (.cells #[.slice a2 rec.length c2, .bool true] 54)
          have hW4 := (hW2.later A2).push ⟨true, a2, rec.length, c2⟩ (some rec) ⟨rfl, hO2.later A2⟩ ho4 rfl hgr4
          clear A2 ho4 hgr4 hO2 hW2
          go_wp2
          go_roundw
          case rel => exact ⟨_, _, i + 1, t + fm, rfl, by omega, by go_num, by simp, htm, HU, by rw [HDL.out]; exact hW4⟩
          case measure => simp [intOf]; omega
      · obtain rfl : i = n := by omega
        obtain ⟨l, hl⟩ : ∃ l, dl bs i = l := ⟨_, rfl⟩
        have hll : l.length = i := by rw [← hl]; exact dl_len bs i
        rw [hl] at hW hu
        obtain ⟨ao, cp, hv, hcl, hcm, hBw⟩ := hW.out.o.bw
        have hcsr := hW.out.r.csr
        have hcl2 : cs.length = i := by rw [hcsr.1, hll]
        have hus := hcsr.used
        rw [← hu.out] at hus
        have HLD : Hid (dl bs (fld bs 0) = l) := by rw [HN.out]; exact hl
        have hRr := hR.later hW.out.bel
        rw [hcl2] at hv hcl
        subst hv
        have CR : ∀ W, Below wr.heap.size wr W → Calls Tryd.prog 30 #[.slice ao i cp] W fun e w' => e = .returned (.int .i64 (502 - 4 * (i : Int) - (t : Int))) ∧ W = w' := fun W hx => by
          have := rroom_any ao cp cs W (hBw.later hx) (by omega) (by rw [hus]; omega)
          rw [hcl2, hus] at this
          exact this
        have CW : fits l → ∀ W, Below wr.heap.size wr W → Calls Tryd.prog 32 #[.slice ao i cp] W fun e w' => ∃ v l2, e = .returned v ∧ Strips l l2 ∧ Own w' W.heap.size v (pageL l2) ∧ Below W.heap.size W w' := fun hf W hx => by
          have := rwrite_any ao cp cs l W (hBw.later hx) (hcsr.later hx) (by omega) hcm hf
          rw [hcl2] at this
          exact this
        have hfit : fits l ↔ 4 * i + t ≤ 502 := by unfold fits; rw [hll, ← hu.out]
        have hB := hW.out.bel
        by_cases hf : 4 * i + t ≤ 502
        · obtain ⟨rm, hrm⟩ : ∃ rm : Int, rm = 502 - 4 * (i : Int) - (t : Int) := ⟨_, rfl⟩
          rw [← hrm] at CR
          have hr0 : ¬ rm < 0 := by omega
          have HF : Hid (fits l) := hfit.2 hf
          have CW2 := CW HF.out
          have q8 : ∀ W, Rd W (some ⟨b, off, none⟩) 512 cap bs → _ := fun W h => run_string_of (P := Tryd.prog) 22 9 5 Tryd.underlying22 Tryd.underlying5 Tryd.underlying9 h
          clear CW hfit hrm hus hcl2 hll hl
          go_wp2_with fail
          refine wp_region_held_drew (S := (fun W => Rd W (some ⟨b, off, none⟩) 512 cap bs)) (by kernel_rfl) ?_ (fun hHeld => ?_)
          · ((try dsimp only); exact hRr)
          refine wpAnyH_take (i := 0) (oi := { dst := some 95, op := Go.Op.move (Go.Operand.tmp 5), type := 50, pos := "ref.go:91", after := #[], guard := none }) (v := ?_) rfl (by kernel_rfl) (by kernel_rfl) (by kernel_rfl) (fun _ _ _ h => h) (Or.inl ⟨by rfl, ?_⟩) (by assumption) ?_
          rotate_left
          · (intro W hSw; (try dsimp only at hSw); first | (go_simp; done) | (go_simp; with_reducible rfl))
          try simp only [Act.put, List.setIfInBounds_toArray, List.set_cons_zero, List.set_cons_succ]
          refine wpAnyH_ready (rs := [1]) (by kernel_rfl) (by simp) ?_
          refine AllReadyH.cons (o := { dst := some 96, op := Go.Op.call { callee := Go.Callee.value (Go.Operand.func 30), args := #[Go.Operand.tmp 95], argTypes := #[50] }, type := 3, pos := "ref.go:91", after := #[{ on := 0, ground := Go.Ground.data }], guard := none }) rfl (fun K hK => ?_) AllReadyH.nil
          go_simp
          go_at_call 30
          refine (CR _ (Below.drew (Below.refl _ _))).mono ?_
          rintro e w5 ⟨rfl, rfl⟩
          refine hK.out _ _ ?_ (fun hHeld => ?_)
          · ((try dsimp only); exact hRr.later (Below.drew (Below.refl _ _)))
          clear hK K
          try simp only [Act.put, List.setIfInBounds_toArray, List.set_cons_zero, List.set_cons_succ]
          refine wpAnyH_take (i := 2) (oi := { dst := some 97, op := Go.Op.binOp Go.BinOp.lss 3 (Go.Operand.tmp 96) (Go.Operand.const (Go.Value.int Go.IntKind.i64 0)) 3, type := 4, pos := "ref.go:91", after := #[{ on := 1, ground := Go.Ground.data }], guard := none }) (v := .bool false) rfl (by kernel_rfl) (by kernel_rfl) (by kernel_rfl) (fun _ _ _ h => h) (Or.inl ⟨by rfl, (by intro W hSw; (try dsimp only at hSw); go_simp; try simp [hr0])⟩) (by assumption) ?_
          try simp only [Act.put, List.setIfInBounds_toArray, List.set_cons_zero, List.set_cons_succ]
          refine wpAnyH_take (i := 3) (oi := { dst := some 98, op := Go.Op.move (Go.Operand.tmp 97), type := 4, pos := "ref.go:91", after := #[{ on := 2, ground := Go.Ground.data }, { on := 1, ground := Go.Ground.chain }], guard := none }) (v := ?_) rfl (by kernel_rfl) (by kernel_rfl) (by kernel_rfl) (fun _ _ _ h => h) (Or.inl ⟨by rfl, ?_⟩) (by assumption) ?_
          rotate_left
          · (intro W hSw; (try dsimp only at hSw); first | (go_simp; done) | (go_simp; with_reducible rfl))
          try simp only [Act.put, List.setIfInBounds_toArray, List.set_cons_zero, List.set_cons_succ]
          refine wpAnyH_take (i := 4) (oi := { dst := some 99, op := Go.Op.move (Go.Operand.tmp 5), type := 50, pos := "ref.go:91", after := #[{ on := 3, ground := Go.Ground.guard }], guard := some (3, false) }) (v := ?_) rfl (by kernel_rfl) (by kernel_rfl) (by kernel_rfl) (fun _ _ _ h => h) (Or.inl ⟨by rfl, ?_⟩) (by assumption) ?_
          rotate_left
          · (intro W hSw; (try dsimp only at hSw); first | (go_simp; done) | (go_simp; with_reducible rfl))
          try simp only [Act.put, List.setIfInBounds_toArray, List.set_cons_zero, List.set_cons_succ]
          refine wpAnyH_take (i := 7) (oi := { dst := some 102, op := Go.Op.move (Go.Operand.tmp 0), type := 22, pos := "ref.go:91", after := #[{ on := 3, ground := Go.Ground.guard }], guard := some (3, false) }) (v := ?_) rfl (by kernel_rfl) (by kernel_rfl) (by kernel_rfl) (fun _ _ _ h => h) (Or.inl ⟨by rfl, ?_⟩) (by assumption) ?_
          rotate_left
          · (intro W hSw; (try dsimp only at hSw); first | (go_simp; done) | (go_simp; with_reducible rfl))
          try simp only [Act.put, List.setIfInBounds_toArray, List.set_cons_zero, List.set_cons_succ]
          refine wpAnyH_take (i := 8) (oi := { dst := some 103, op := Go.Op.convert 22 9 (Go.Operand.tmp 102), type := 9, pos := "ref.go:91", after := #[{ on := 7, ground := Go.Ground.data }, { on := 3, ground := Go.Ground.guard }], guard := some (3, false) }) (v := ?_) rfl (by kernel_rfl) (by kernel_rfl) (by kernel_rfl) (fun _ _ _ h => h) (Or.inl ⟨by rfl, ?_⟩) (by assumption) ?_
          rotate_left
          · (intro W hSw; (try dsimp only at hSw); have q := q8 W hSw; first | (go_simp; done) | (go_simp; with_reducible rfl))
          try simp only [Act.put, List.setIfInBounds_toArray, List.set_cons_zero, List.set_cons_succ]
          refine wpAnyH_ready (rs := [5]) (by kernel_rfl) (by simp) ?_
          refine AllReadyH.cons (o := { dst := some 100, op := Go.Op.call { callee := Go.Callee.value (Go.Operand.func 32), args := #[Go.Operand.tmp 99], argTypes := #[50] }, type := 22, pos := "ref.go:91", after := #[{ on := 4, ground := Go.Ground.data }, { on := 3, ground := Go.Ground.chain }, { on := 3, ground := Go.Ground.guard }], guard := some (3, false) }) rfl (fun K hK => ?_) AllReadyH.nil
          go_simp
          go_at_call 32
          refine (CW2 _ (Below.drew (Below.refl _ _))).mono ?_
          rintro e w6 ⟨v6, l2, rfl, hst, ho6, b6⟩
          obtain ⟨a6, c6, rfl, hr6, -⟩ := ho6.rd
          have q6 := run_string_of (P := Tryd.prog) 22 9 5 Tryd.underlying22 Tryd.underlying5 Tryd.underlying9 hr6
          have hR6 := hRr.later ((Below.drew (Below.refl wr.heap.size wr)).trans b6)
          obtain ⟨eq, heq⟩ : ∃ eq : Bool, (pageL l2 == bs) = eq := ⟨_, rfl⟩
          refine hK.out _ _ ?_ (fun hHeld => ?_)
          · ((try dsimp only); exact hR6)
          clear hK K
          try simp only [Act.put, List.setIfInBounds_toArray, List.set_cons_zero, List.set_cons_succ]
          refine wpAnyH_ready (rs := [6]) (by kernel_rfl) (by simp) ?_
          refine AllReadyH.cons (o := { dst := some 101, op := Go.Op.convert 22 9 (Go.Operand.tmp 100), type := 9, pos := "ref.go:91", after := #[{ on := 5, ground := Go.Ground.data }, { on := 3, ground := Go.Ground.guard }], guard := some (3, false) }) rfl (fun K hK => ?_) AllReadyH.nil
          go_simp
          refine hK.out _ _ ?_ (fun hHeld => ?_)
          · ((try dsimp only); exact hR6)
          clear hK K
          try simp only [Act.put, List.setIfInBounds_toArray, List.set_cons_zero, List.set_cons_succ]
          refine wpAnyH_take (i := 9) (oi := { dst := some 104, op := Go.Op.binOp Go.BinOp.neq 9 (Go.Operand.tmp 101) (Go.Operand.tmp 103) 9, type := 4, pos := "ref.go:91", after := #[{ on := 6, ground := Go.Ground.data }, { on := 8, ground := Go.Ground.data }, { on := 3, ground := Go.Ground.guard }], guard := some (3, false) }) (v := .bool (!eq)) rfl (by kernel_rfl) (by kernel_rfl) (by kernel_rfl) (fun _ _ _ h => h) (Or.inl ⟨by rfl, (by intro W hSw; (try dsimp only at hSw); go_simp; first | done | (simp only [bne, heq]; done) | (simp [bne, heq]; done))⟩) (by assumption) ?_
          try simp only [Act.put, List.setIfInBounds_toArray, List.set_cons_zero, List.set_cons_succ]
          refine wpAnyH_take (i := 10) (oi := { dst := some 105, op := Go.Op.pick (Go.Operand.tmp 98) (Go.Operand.const (Go.Value.bool true)) (Go.Operand.tmp 104), type := 4, pos := "ref.go:91", after := #[{ on := 3, ground := Go.Ground.data }, { on := 9, ground := Go.Ground.data }], guard := none }) (v := .bool (!eq)) rfl (by kernel_rfl) (by kernel_rfl) (by kernel_rfl) (fun _ _ _ h => h) (Or.inl ⟨by rfl, (by intro W hSw; (try dsimp only at hSw); go_simp; try rfl)⟩) (by assumption) ?_
          try simp only [Act.put, List.setIfInBounds_toArray, List.set_cons_zero, List.set_cons_succ]
          refine wpAnyH_done (by kernel_rfl) ?_ _
          skip
          have hB6 : Below w.heap.size w w6 := hB.trans (((Below.drew (Below.refl wr.heap.size wr)).trans b6).mono hW.out.le)
          have hW6 : RL w.heap.size w w6 (.slice ao i cp) cs l := hW.out.later ((Below.drew (Below.refl wr.heap.size wr)).trans b6)
          have hP := pg_same (bs := bs) (l2 := l2) (by rw [HLD.out]; exact HF.out) (by rw [HLD.out]; exact hst)
          rw [heq, HLD.out] at hP
          cases eq with
          | false =>
            have HP : Hid (pg bs = none) := hP
            clear hP heq q6 hR6 hr6 ho6 hst
            go_wp2
            go_ret2
            rw [HP.out]
            exact ⟨_, rfl, hB6, fun _ => rfl, fun l h => by cases h⟩
          | true =>
            have HP : Hid (pg bs = some l) := hP
            clear hP heq q6 hR6 hr6 ho6 hst
            go_wp2
            go_ret2
            rw [HP.out]
            exact ⟨_, rfl, hB6, (fun h => by cases h), fun l' h => by cases h; exact ⟨cs, hW6⟩⟩
        · obtain ⟨rm, hrm⟩ : ∃ rm : Int, rm = 502 - 4 * (i : Int) - (t : Int) := ⟨_, rfl⟩
          rw [← hrm] at CR
          have hr0 : rm < 0 := by omega
          have HP : Hid (pg bs = none) := pg_full (by rw [HLD.out]; exact fun h => hf (hfit.1 h))
          clear CW hfit hrm hus hcl2 hll hl
          go_wp2_with fail
          refine wp_region_held_drew (S := (fun _ => True)) (by kernel_rfl) ?_ (fun hHeld => ?_)
          · ((try dsimp only); try trivial)
          refine wpAnyH_take (i := 0) (oi := { dst := some 95, op := Go.Op.move (Go.Operand.tmp 5), type := 50, pos := "ref.go:91", after := #[], guard := none }) (v := ?_) rfl (by kernel_rfl) (by kernel_rfl) (by kernel_rfl) (fun _ _ _ h => h) (Or.inl ⟨by rfl, ?_⟩) (by assumption) ?_
          rotate_left
          · (intro W hSw; (try dsimp only at hSw); first | (go_simp; done) | (go_simp; with_reducible rfl))
          try simp only [Act.put, List.setIfInBounds_toArray, List.set_cons_zero, List.set_cons_succ]
          refine wpAnyH_ready (rs := [1]) (by kernel_rfl) (by simp) ?_
          refine AllReadyH.cons (o := { dst := some 96, op := Go.Op.call { callee := Go.Callee.value (Go.Operand.func 30), args := #[Go.Operand.tmp 95], argTypes := #[50] }, type := 3, pos := "ref.go:91", after := #[{ on := 0, ground := Go.Ground.data }], guard := none }) rfl (fun K hK => ?_) AllReadyH.nil
          go_simp
          go_at_call 30
          refine (CR _ (Below.drew (Below.refl _ _))).mono ?_
          rintro e w5 ⟨rfl, rfl⟩
          refine hK.out _ _ ?_ (fun hHeld => ?_)
          · ((try dsimp only); try trivial)
          clear hK K
          try simp only [Act.put, List.setIfInBounds_toArray, List.set_cons_zero, List.set_cons_succ]
          refine wpAnyH_take (i := 2) (oi := { dst := some 97, op := Go.Op.binOp Go.BinOp.lss 3 (Go.Operand.tmp 96) (Go.Operand.const (Go.Value.int Go.IntKind.i64 0)) 3, type := 4, pos := "ref.go:91", after := #[{ on := 1, ground := Go.Ground.data }], guard := none }) (v := .bool true) rfl (by kernel_rfl) (by kernel_rfl) (by kernel_rfl) (fun _ _ _ h => h) (Or.inl ⟨by rfl, (by intro W hSw; (try dsimp only at hSw); go_simp; try simp [hr0])⟩) (by assumption) ?_
          try simp only [Act.put, List.setIfInBounds_toArray, List.set_cons_zero, List.set_cons_succ]
          refine wpAnyH_take (i := 3) (oi := { dst := some 98, op := Go.Op.move (Go.Operand.tmp 97), type := 4, pos := "ref.go:91", after := #[{ on := 2, ground := Go.Ground.data }, { on := 1, ground := Go.Ground.chain }], guard := none }) (v := ?_) rfl (by kernel_rfl) (by kernel_rfl) (by kernel_rfl) (fun _ _ _ h => h) (Or.inl ⟨by rfl, ?_⟩) (by assumption) ?_
          rotate_left
          · (intro W hSw; (try dsimp only at hSw); first | (go_simp; done) | (go_simp; with_reducible rfl))
          try simp only [Act.put, List.setIfInBounds_toArray, List.set_cons_zero, List.set_cons_succ]
          refine wpAnyH_take (i := 4) (oi := { dst := some 99, op := Go.Op.move (Go.Operand.tmp 5), type := 50, pos := "ref.go:91", after := #[{ on := 3, ground := Go.Ground.guard }], guard := some (3, false) }) (v := undef) rfl (by kernel_rfl) (by kernel_rfl) (by kernel_rfl) (fun _ _ _ h => h) (Or.inr ⟨by rfl, rfl⟩) (by assumption) ?_
          try simp only [Act.put, List.setIfInBounds_toArray, List.set_cons_zero, List.set_cons_succ]
          refine wpAnyH_take (i := 5) (oi := { dst := some 100, op := Go.Op.call { callee := Go.Callee.value (Go.Operand.func 32), args := #[Go.Operand.tmp 99], argTypes := #[50] }, type := 22, pos := "ref.go:91", after := #[{ on := 4, ground := Go.Ground.data }, { on := 3, ground := Go.Ground.chain }, { on := 3, ground := Go.Ground.guard }], guard := some (3, false) }) (v := undef) rfl (by kernel_rfl) (by kernel_rfl) (by kernel_rfl) (fun _ _ _ h => h) (Or.inr ⟨by rfl, rfl⟩) (by assumption) ?_
          try simp only [Act.put, List.setIfInBounds_toArray, List.set_cons_zero, List.set_cons_succ]
          refine wpAnyH_take (i := 6) (oi := { dst := some 101, op := Go.Op.convert 22 9 (Go.Operand.tmp 100), type := 9, pos := "ref.go:91", after := #[{ on := 5, ground := Go.Ground.data }, { on := 3, ground := Go.Ground.guard }], guard := some (3, false) }) (v := undef) rfl (by kernel_rfl) (by kernel_rfl) (by kernel_rfl) (fun _ _ _ h => h) (Or.inr ⟨by rfl, rfl⟩) (by assumption) ?_
          try simp only [Act.put, List.setIfInBounds_toArray, List.set_cons_zero, List.set_cons_succ]
          refine wpAnyH_take (i := 7) (oi := { dst := some 102, op := Go.Op.move (Go.Operand.tmp 0), type := 22, pos := "ref.go:91", after := #[{ on := 3, ground := Go.Ground.guard }], guard := some (3, false) }) (v := undef) rfl (by kernel_rfl) (by kernel_rfl) (by kernel_rfl) (fun _ _ _ h => h) (Or.inr ⟨by rfl, rfl⟩) (by assumption) ?_
          try simp only [Act.put, List.setIfInBounds_toArray, List.set_cons_zero, List.set_cons_succ]
          refine wpAnyH_take (i := 8) (oi := { dst := some 103, op := Go.Op.convert 22 9 (Go.Operand.tmp 102), type := 9, pos := "ref.go:91", after := #[{ on := 7, ground := Go.Ground.data }, { on := 3, ground := Go.Ground.guard }], guard := some (3, false) }) (v := undef) rfl (by kernel_rfl) (by kernel_rfl) (by kernel_rfl) (fun _ _ _ h => h) (Or.inr ⟨by rfl, rfl⟩) (by assumption) ?_
          try simp only [Act.put, List.setIfInBounds_toArray, List.set_cons_zero, List.set_cons_succ]
          refine wpAnyH_take (i := 9) (oi := { dst := some 104, op := Go.Op.binOp Go.BinOp.neq 9 (Go.Operand.tmp 101) (Go.Operand.tmp 103) 9, type := 4, pos := "ref.go:91", after := #[{ on := 6, ground := Go.Ground.data }, { on := 8, ground := Go.Ground.data }, { on := 3, ground := Go.Ground.guard }], guard := some (3, false) }) (v := undef) rfl (by kernel_rfl) (by kernel_rfl) (by kernel_rfl) (fun _ _ _ h => h) (Or.inr ⟨by rfl, rfl⟩) (by assumption) ?_
          try simp only [Act.put, List.setIfInBounds_toArray, List.set_cons_zero, List.set_cons_succ]
          refine wpAnyH_take (i := 10) (oi := { dst := some 105, op := Go.Op.pick (Go.Operand.tmp 98) (Go.Operand.const (Go.Value.bool true)) (Go.Operand.tmp 104), type := 4, pos := "ref.go:91", after := #[{ on := 3, ground := Go.Ground.data }, { on := 9, ground := Go.Ground.data }], guard := none }) (v := .bool true) rfl (by kernel_rfl) (by kernel_rfl) (by kernel_rfl) (fun _ _ _ h => h) (Or.inl ⟨by rfl, (by intro W hSw; (try dsimp only at hSw); go_simp; try rfl)⟩) (by assumption) ?_
          try simp only [Act.put, List.setIfInBounds_toArray, List.set_cons_zero, List.set_cons_succ]
          refine wpAnyH_done (by kernel_rfl) ?_ _
          skip
          have hB6 : Below w.heap.size w wr.drew := hB.drew
          go_wp2
          go_ret2
          rw [HP.out]
          exact ⟨_, rfl, hB6, fun _ => rfl, fun l h => by cases h⟩
end Go.Proofs.YtaghbkjjindjfaaDoor
