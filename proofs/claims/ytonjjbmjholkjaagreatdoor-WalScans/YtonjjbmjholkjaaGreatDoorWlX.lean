/-
  The contracts of wal's Sync, of log.put.
-/
import Derived.Test.YtonjjbmjholkjaaGreatDoorWlW
namespace Go.Proofs.YtonjjbmjholkjaaGreatDoor
open Go.RowKit Go.Shelf

/-- What a wal's calls may change of what was there. -/
def Fp (x : Wl) (h : Wh) (k : Nat) : Prop := Ib x.L x.gb x.vs k ∨ h.has k

theorem wmade_any (W L : Nat) (w : World) (hW : w.heap[W]? = some (.cells #[.pointer (some ⟨L, 0, none⟩)] 54 (0, 0))) :
    Calls Tryz.prog 25 #[.pointer (some ⟨W, 0, none⟩)] w fun e w' => e = .returned (.bool true) ∧ w' = w := by
  have c0 : w.cell? ⟨W, 0, none⟩ = some (.pointer (some ⟨L, 0, none⟩)) := bl_cell hW 0 _ rfl
  clear hW
  go_enter Tryz.func25, Tryz.ntmps25
  go_wp2
  go_ret
  exact ⟨rfl, rfl⟩

/-- A block of cells is none of the disk's where the disk's maps alone have changed their places. -/
theorem has_mf {w : World} {h : Wh} {m' k : Nat} (hm : m' = h.mf ∨ w.heap.size ≤ m') (hk : k < w.heap.size) (hn : ¬ h.has k) : ¬ Wh.has { h with mf := m' } k := by
  rintro (e | e | e | e | e | e | e)
  · exact hn (.inl e)
  · exact hn (.inr (.inl e))
  · exact hn (.inr (.inr (.inl e)))
  · exact hn (.inr (.inr (.inr (.inl e))))
  · exact hn (.inr (.inr (.inr (.inr (.inl e)))))
  · dsimp only at e
    rcases hm with q | q
    · exact hn (.inr (.inr (.inr (.inr (.inr (.inl (by rw [e, q])))))))
    · omega
  · exact hn (.inr (.inr (.inr (.inr (.inr (.inr e))))))

theorem has_g {w : World} {h : Wh} {g' : Option Nat} {k : Nat} (hm : g' = h.g ∨ ∃ b, g' = some b ∧ w.heap.size ≤ b) (hk : k < w.heap.size) (hn : ¬ h.has k) : ¬ Wh.has { h with g := g' } k := by
  rintro (e | e | e | e | e | e | e)
  · exact hn (.inl e)
  · exact hn (.inr (.inl e))
  · exact hn (.inr (.inr (.inl e)))
  · exact hn (.inr (.inr (.inr (.inl e))))
  · exact hn (.inr (.inr (.inr (.inr (.inl e)))))
  · exact hn (.inr (.inr (.inr (.inr (.inr (.inl e))))))
  · dsimp only at e
    rcases hm with q | ⟨b, q, hb⟩
    · exact hn (.inr (.inr (.inr (.inr (.inr (.inr (by rw [e, q])))))))
    · rw [q] at e; cases e; omega

theorem WalW.wd {w : World} {n₀ : Nat} {x : Wl} {h : Wh} {no nf : Nat} {d : Dk} (s : WalW w n₀ x h no nf d) : ¬ h.has x.Wb := fun hk => by
  have hW := s.wb
  have hd := s.dk
  rcases hk with e | e | e | e | e | e | e
  · exact cne hW hd.b (by decide) e
  · exact cne hW hd.z (by decide) e
  · obtain ⟨cL, hcL⟩ := hd.lcells; exact cne hW hcL (by decide) e
  · exact cne hW hd.p.b (by decide) e
  · exact hd.p.o.ne hW e.symm
  · exact hd.p.f.ne hW e.symm
  · obtain ⟨cg, hcg⟩ := hd.gcells e; exact cne hW hcg (by decide) rfl

/-- The wal's own block is none of the log's. -/
theorem WalW.wi {w : World} {n₀ : Nat} {x : Wl} {h : Wh} {no nf : Nat} {d : Dk} (s : WalW w n₀ x h no nf d) : ¬ Ib x.L x.gb x.vs x.Wb := fun hk => by
  have hW := s.wb
  rcases hk with e | e | e
  · exact cne hW s.lb (by decide) e
  · rcases s.im.ob with ⟨_, _, q⟩ | ⟨b', _, _, _, _, q2, q3, _⟩
    · rw [q] at e; cases e
    · rw [q2] at e; cases e; exact cne hW q3 (by decide) rfl
  · obtain ⟨_, _, c, hc⟩ := row_own s.im.st e.symm
    exact cne hW hc (by decide) rfl

theorem WalW.glt {w : World} {n₀ : Nat} {x : Wl} {h : Wh} {no nf : Nat} {d : Dk} (s : WalW w n₀ x h no nf d) {b : Nat} (e : x.gb = some b) : b < w.heap.size ∧ b ≠ x.L := by
  rcases s.im.ob with ⟨_, _, q⟩ | ⟨b', _, _, _, _, q2, q3, _⟩
  · rw [q] at e; cases e
  · rw [q2] at e; cases e; exact ⟨bl_lt q3, cne q3 s.lb (by decide)⟩

theorem WalW.slt {w : World} {n₀ : Nat} {x : Wl} {h : Wh} {no nf : Nat} {d : Dk} (s : WalW w n₀ x h no nf d) {b : Nat} (e : x.vs.ownBlock = some b) : b < w.heap.size ∧ b ≠ x.L := by
  obtain ⟨_, h2, c, hc⟩ := row_own s.im.st e
  exact ⟨h2, cne hc s.lb (by decide)⟩

theorem sync_bytes (d : Dk) : d.sync.2.lo.bytes = d.lo.bytes ∧ d.sync.2.lo.base = d.lo.base ∧ d.sync.2.lo.most = d.lo.most := by
  unfold Dk.sync Dk.burnt
  split
  · exact ⟨rfl, rfl, rfl⟩
  · split <;> exact ⟨rfl, rfl, rfl⟩

theorem wsync_any (n₀ : Nat) (x : Wl) (h : Wh) (no nf : Nat) (d : Dk) (w : World) (s : WalW w n₀ x h no nf d) (hroom : no + nf ≤ 9223372036854775807) :
    Calls Tryz.prog 15 #[.pointer (some ⟨x.Wb, 0, none⟩)] w fun e w' => e = .returned (.int .i64 d.sync.1) ∧ ∃ mf' no' nf' s', WalW w' n₀ { x with s := s' } { h with mf := mf' } no' nf' d.sync.2 ∧ Chg (Fp x h) w w' ∧ (mf' = h.mf ∨ w.heap.size ≤ mf') ∧ no' + nf' ≤ no + nf := by
  have CM := wmade_any x.Wb x.L w s.wb
  have CS := settle_any x.L h no nf d _ _ _ _ w s.lb s.dk hroom
  have c0 : w.cell? ⟨x.Wb, 0, none⟩ = some (.pointer (some ⟨x.L, 0, none⟩)) := bl_cell s.wb 0 _ rfl
  have H : Hid (WalW w n₀ x h no nf d) := s
  clear s
  go_enter Tryz.func15, Tryz.ntmps15
  go_wp2_with (first | (go_at_call 25; refine CM.mono ?_; rintro e w' ⟨rfl, hw⟩; obtain rfl : w = w' := hw.symm) | (go_at_call 30; refine CS.mono ?_; rintro e w2 ⟨rfl, mf', no', nf', s', hd2, hL2, hC2, hmf, hnn⟩))
  go_ret
  have s := H.out
  have eb := (sync_bytes d).1
  refine ⟨rfl, mf', no', nf', s', ⟨?_, ?_, ?_, hd2, s.hW, s.hL, ?_, ?_⟩, hC2.mono (fun k _ e => e.elim (fun e => .inl (.inl e)) .inr), hmf, hnn⟩
  · exact (hC2.block _ (bl_lt s.wb) (fun e => e.elim (fun e => s.wi (.inl e)) s.wd)).trans s.wb
  · rw [eb]; exact hL2
  · rw [eb]
    exact s.im.chg hC2 (fun b e q => q.elim (fun q => (s.glt e).2 q) (s.hg b e)) (fun b e q => q.elim (fun q => (s.slt e).2 q) (s.hs b e))
  · exact fun b e => has_mf hmf (s.glt e).1 (s.hg b e)
  · exact fun b e => has_mf hmf (s.slt e).1 (s.hs b e)

theorem app_bad (d : Dk) (r : List UInt8) (h : (d.app r).2.1 ≠ 0) : (d.app r).1 = 0 ∧ (d.app r).2.2.lo = d.lo := by
  unfold Dk.app at *
  split at h
  · rename_i h1; rw [if_pos h1]; exact ⟨rfl, rfl⟩
  · rename_i h1
    rw [if_neg h1]
    split at h
    · rename_i h2; rw [if_pos h2]; exact ⟨rfl, rfl⟩
    · rename_i h2
      rw [if_neg h2]
      split at h
      · rename_i h3; rw [if_pos h3]; exact ⟨rfl, rfl⟩
      · exact absurd rfl h

theorem app_good (d : Dk) (r : List UInt8) (h : (d.app r).2.1 = 0) : (d.app r).1 = d.lo.fin ∧ (d.app r).2.2.lo = { d.lo with bytes := d.lo.bytes ++ r } ∧ (d.lo.bytes.length : Int) + r.length ≤ d.lo.most := by
  unfold Dk.app at *
  split at h
  · cases h
  · rename_i h1
    rw [if_neg h1]
    split at h
    · cases h
    · rename_i h2
      rw [if_neg h2]
      split at h
      · cases h
      · rename_i h3
        rw [if_neg h3]
        exact ⟨rfl, rfl, by omega⟩

set_option maxRecDepth 20000 in
set_option maxHeartbeats 4000000 in
theorem put_any (n₀ : Nat) (x : Wl) (h : Wh) (no nf : Nat) (d : Dk) (ao : Option Addr) (m cap : Nat) (b : List UInt8) (w : World) (hn : 0 < n₀) (hT : Tab w) (h0 : ¬ h.has 0) (s : WalW w n₀ x h no nf d) (hb0 : d.lo.base = 0) (hbl : b.length ≤ 1048576)
    (hr : Rd w ao m cap (recBytes b)) (hS : ∀ k off, 0 < m → ao = some ⟨k, off, none⟩ → ¬ h.has k) :
    Calls Tryz.prog 27 #[.pointer (some ⟨x.L, 0, none⟩), .slice ao m cap] w fun e w' => e = .returned (.tuple #[.int .i64 (d.app (recBytes b)).1, .int .i64 (d.app (recBytes b)).2.1]) ∧
      ∃ x' g', x'.Wb = x.Wb ∧ x'.L = x.L ∧ WalW w' n₀ x' { h with g := g' } no nf (d.app (recBytes b)).2.2 ∧ Chg (Fp x h) w w' ∧ (g' = h.g ∨ ∃ k, g' = some k ∧ w.heap.size ≤ k) ∧ (x'.gb = x.gb ∨ ∃ k, x'.gb = some k ∧ w.heap.size ≤ k) ∧ (x'.vs.ownBlock = x.vs.ownBlock ∨ ∃ k, x'.vs.ownBlock = some k ∧ w.heap.size ≤ k) := by
  have hml := hr.1
  have hrl : (recBytes b).length ≤ 1048594 := by rw [rec_len]; have := numBytes_short b.length hbl; omega
  have CA := append_any h no nf d w s.dk ao m cap (recBytes b) hr (by omega) (fun hm k off e => hS k off hm e)
  have c0 : w.cell? ⟨x.L, 0, none⟩ = some (.pointer (some ⟨h.B, 0, none⟩)) := bl_cell s.lb 0 _ rfl
  have H : Hid (WalW w n₀ x h no nf d ∧ Tab w ∧ Rd w ao m cap (recBytes b) ∧ (∀ k off, 0 < m → ao = some ⟨k, off, none⟩ → ¬ h.has k) ∧ ¬ h.has 0 ∧ 0 < n₀ ∧ d.lo.base = 0 ∧ b.length ≤ 1048576) := ⟨s, hT, hr, hS, h0, hn, hb0, hbl⟩
  obtain ⟨p1, hp1⟩ : ∃ p, p = (d.app (recBytes b)).1 := ⟨_, rfl⟩
  obtain ⟨p2, hp2⟩ : ∃ p, p = (d.app (recBytes b)).2.1 := ⟨_, rfl⟩
  obtain ⟨d', hd'⟩ : ∃ d', d' = (d.app (recBytes b)).2.2 := ⟨_, rfl⟩
  rw [← hp1, ← hp2, ← hd'] at CA
  rw [← hp1, ← hp2, ← hd']
  by_cases hz : p2 = 0
  · have hok := app_good d (recBytes b) (by rw [← hp2]; exact hz)
    rw [← hp1, ← hd'] at hok
    subst hz
    have hfin : d.lo.fin = (d.lo.bytes.length : Int) := by
      have := s.im.len
      unfold Lo.fin
      rw [IntKind.wrap_i64, hb0]
      omega
    rw [hfin] at hok
    obtain ⟨rfl, hlo, hroom⟩ := hok
    have hbb : d'.lo.bytes = d.lo.bytes ++ recBytes b := by rw [hlo]
    have hlen2 : (d.lo.bytes.length : Int) + (recBytes b).length ≤ 16777216 := by
      obtain ⟨ok, _⟩ := s.dk.l
      have := ok.m2
      omega
    have HO : Hid (d'.lo = { d.lo with bytes := d.lo.bytes ++ recBytes b } ∧ d'.lo.bytes = d.lo.bytes ++ recBytes b ∧ (d.lo.bytes.length : Int) + (recBytes b).length ≤ 16777216 ∧ (recBytes b).length = m) := ⟨hlo, hbb, hlen2, hml⟩
    clear hlo hroom hp1 hp2 hd' hbb hlen2 hfin s hT hr hS h0 hn hb0 hbl hrl hml
    go_enter Tryz.func27, Tryz.ntmps27
    go_wp2_with fail
    refine CA.mono ?_
    rintro e w2 ⟨rfl, g', hd2, hC2, hg2⟩
    have s := H.out.1
    have hL2 := s.lb.chg hC2 (s.lb.nd s.dk)
    have hI2 := s.im.chg hC2 s.hg s.hs
    have CE := iend_any n₀ x.L 1 _ _ _ _ _ _ _ _ w2 (log_img hI2 hL2 s.hL)
    have H2 : Hid (_ ∧ _ ∧ _ ∧ _ ∧ _) := And.intro hd2 (And.intro hC2 (And.intro hg2 (And.intro hL2 hI2)))
    clear CA c0 hd2 hC2 hg2 hL2 hI2 s
    go_wp2_with fail
    refine CE.mono ?_
    rintro e w3 ⟨rfl, b3⟩
    have s := H.out.1
    have hL3 := H2.out.2.2.2.1.later b3
    have hI3 := H2.out.2.2.2.2.later b3
    have hT3 : Tab w3 := (show Tab w2 from fun k hk => H2.out.2.1.cell H.out.2.2.2.2.1 (H.out.2.1 k hk)).later b3 (World.block_lt_of_cell? w2 ⟨0, 0, none⟩ (H2.out.2.1.cell H.out.2.2.2.2.1 (H.out.2.1 0 (by decide))))
    have hr3 := (H.out.2.2.1.chg H2.out.2.1 (fun hm k off e => H.out.2.2.2.1 k off hm e)).later b3
    have CG := grow_any n₀ x.L 1 _ _ _ _ d.lo.bytes _ _ _ ao m cap (recBytes b) w3 H.out.2.2.2.2.2.1 hT3 (log_img hI3 hL3 s.hL) hr3 (by have := HO.out.2.2.1; rw [HO.out.2.2.2] at this; omega)
    have hdrop : (d.lo.bytes ++ recBytes b).drop d.lo.bytes.length = recBytes b := List.drop_left
    rw [hdrop] at CG
    have hend : endL 0 (rcs 0 (recBytes b)) = (recBytes b).length := by
      have h1 := rcs_cat [b] (fun y hy => by rw [List.mem_singleton] at hy; rw [hy]; exact H.out.2.2.2.2.2.2.2) [] takeR_nil 0
      rw [List.append_nil, cat_one] at h1
      rw [h1, endL_its, cat_one]
      omega
    rw [hend] at CG
    have hdk3 := H2.out.1.later b3
    have H3 : Hid (_ ∧ _ ∧ _) := And.intro hdk3 (And.intro b3 hL3)
    clear CE hL3 hI3 hT3 hr3 hdrop hend hdk3 b3 s
    go_wp2_with (go_at_call 53; refine CG.mono ?_; rintro e w4 ⟨⟨v9, rfl⟩, cs4, vb4, gb4, vs4, Ls4, hi4, hsb4, hC4, hgb4, hvs4⟩)
    go_ret2
    have s := H.out.1
    have hC3 : Chg h.has w w3 := H2.out.2.1.trans (chg_of_below (S := h.has) H3.out.2.1) (fun _ _ e => e) (fun _ _ e => e)
    have nIb : ∀ k, Ib x.L x.gb x.vs k → k < w.heap.size ∧ ¬ h.has k := fun k hk => by
      rcases hk with rfl | e | e
      · exact ⟨bl_lt s.lb, s.lb.nd s.dk⟩
      · exact ⟨(s.glt e.symm).1, s.hg _ e.symm⟩
      · exact ⟨(s.slt e.symm).1, s.hs _ e.symm⟩
    have nIg : ∀ k, Ib x.L x.gb x.vs k → ¬ Wh.has { h with g := g' } k := fun k hk => has_g H2.out.2.2.1 (nIb k hk).1 (nIb k hk).2
    have hd4 := H3.out.1.kept (w' := w4) (fun k hk => hC4.block k (H3.out.1.lt hk) (fun e => nIg k e hk))
    have hcs : cs4 = #[.pointer (some ⟨h.B, 0, none⟩), .int .i64 0, vb4, vs4, .int .i64 ((d.lo.bytes.length + (recBytes b).length : Nat) : Int), .int .i64 x.s] := by
      refine Array.ext_getElem? (fun j => ?_)
      match j with
      | 0 => rw [hsb4 0 (by decide) (by decide) (by decide)]; rfl
      | 1 => exact hi4.c0
      | 2 => exact hi4.c1
      | 3 => exact hi4.c2
      | 4 => exact hi4.c3
      | 5 => rw [hsb4 5 (by decide) (by decide) (by decide)]; rfl
      | j + 6 => rw [hsb4 (j + 6) (by omega) (by omega) (by omega)]; simp
    have hsz := H3.out.2.1.size
    have hsz2 := H2.out.2.1.size
    have hlen : d'.lo.bytes.length = d.lo.bytes.length + (recBytes b).length := by rw [HO.out.2.1, List.length_append]
    refine ⟨rfl, ⟨x.Wb, x.L, vb4, gb4, vs4, Ls4, x.s⟩, g', rfl, rfl, ⟨?_, ?_, ?_, hd4, s.hW, s.hL, ?_, ?_⟩, ?_, H2.out.2.2.1, hgb4.imp id (fun ⟨k, e, hk⟩ => ⟨k, e, by omega⟩), hvs4.imp id (fun ⟨k, e, hk⟩ => ⟨k, e, by omega⟩)⟩
    · exact ((hC4.block _ (by have := bl_lt s.wb; omega) s.wi).trans (hC3.block _ (bl_lt s.wb) s.wd)).trans s.wb
    · have hb4 := hi4.blk
      rw [hcs] at hb4
      rw [hlen]
      exact hb4
    · rw [hlen, HO.out.2.1]; exact hi4.imv
    · intro k e hk
      dsimp only at e
      rcases hgb4 with q | ⟨k', q, hk'⟩
      · rw [q] at e; exact nIg k (.inr (.inl e.symm)) hk
      · rw [q] at e; cases e; have := H3.out.1.lt hk; omega
    · intro k e hk
      dsimp only at e
      rcases hvs4 with q | ⟨k', q, hk'⟩
      · rw [q] at e; exact nIg k (.inr (.inr e.symm)) hk
      · rw [q] at e; cases e; have := H3.out.1.lt hk; omega
    · exact hC3.trans hC4 (fun _ _ e => .inr e) (fun _ _ e => .inl e)
  · have hbad := app_bad d (recBytes b) (by rw [← hp2]; exact hz)
    rw [← hp1, ← hd'] at hbad
    obtain ⟨rfl, hlo⟩ := hbad
    have hne : (p2 != 0) = true := by simpa using hz
    have HO : Hid (d'.lo = d.lo) := hlo
    clear hlo hp1 hp2 hd' s hT hr hS h0 hn hb0 hbl hrl hml
    go_enter Tryz.func27, Tryz.ntmps27
    go_wp2_with (go_at_call 51; refine CA.mono ?_; rintro e w2 ⟨rfl, g', hd2, hC2, hg2⟩)
    go_ret2
    have s := H.out.1
    have eb : d'.lo.bytes = d.lo.bytes := by rw [HO.out]
    refine ⟨rfl, x, g', rfl, rfl, ⟨(hC2.block _ (bl_lt s.wb) s.wd).trans s.wb, by rw [eb]; exact s.lb.chg hC2 (s.lb.nd s.dk), by rw [eb]; exact s.im.chg hC2 s.hg s.hs, hd2, s.hW, s.hL, fun b e => has_g hg2 (s.glt e).1 (s.hg b e), fun b e => has_g hg2 (s.slt e).1 (s.hs b e)⟩, hC2.mono (fun _ _ e => .inr e), hg2, .inl rfl, .inl rfl⟩

set_option maxRecDepth 20000 in
set_option maxHeartbeats 2000000 in
theorem wappend_any (n₀ : Nat) (x : Wl) (h : Wh) (no nf : Nat) (d : Dk) (ao : Option Addr) (m cap : Nat) (b : List UInt8) (w : World) (hn : 0 < n₀) (hT : Tab w) (h0 : ¬ h.has 0) (s : WalW w n₀ x h no nf d) (hb0 : d.lo.base = 0) (hr : Rd w ao m cap b) (hm : m ≤ 1048576) :
    Calls Tryz.prog 12 #[.pointer (some ⟨x.Wb, 0, none⟩), .slice ao m cap] w fun e w' => e = .returned (.tuple #[.int .i64 (d.app (recBytes b)).1, .int .i64 (d.app (recBytes b)).2.1]) ∧
      ∃ x' g', x'.Wb = x.Wb ∧ x'.L = x.L ∧ WalW w' n₀ x' { h with g := g' } no nf (d.app (recBytes b)).2.2 ∧ Chg (Fp x h) w w' ∧ (g' = h.g ∨ ∃ k, g' = some k ∧ w.heap.size ≤ k) ∧ (x'.gb = x.gb ∨ ∃ k, x'.gb = some k ∧ w.heap.size ≤ k) ∧ (x'.vs.ownBlock = x.vs.ownBlock ∨ ∃ k, x'.vs.ownBlock = some k ∧ w.heap.size ≤ k) := by
  have CM := wmade_any x.Wb x.L w s.wb
  have CR := record_fits ao m cap b w hT hr hm
  have H : Hid (WalW w n₀ x h no nf d ∧ Tab w ∧ ¬ h.has 0 ∧ 0 < n₀ ∧ d.lo.base = 0 ∧ b.length ≤ 1048576) := ⟨s, hT, h0, hn, hb0, by rw [hr.1]; exact hm⟩
  clear s hT h0 hn hb0 hr hm
  go_enter Tryz.func12, Tryz.ntmps12
  go_wp2_with (go_at_call 25; refine CM.mono ?_; rintro e w' ⟨rfl, hw⟩; obtain rfl : w = w' := hw.symm)
  refine CR.mono ?_
  rintro e w2 ⟨v, rfl, ho, b2⟩
  obtain ⟨a2, c2, rfl, hr2, hnew⟩ := ho.rd
  have hs := H.out.1
  have hs2 : WalW w2 n₀ x h no nf d := ⟨(b2.block _ (bl_lt hs.wb)).trans hs.wb, hs.lb.later b2, hs.im.later b2, hs.dk.later b2, hs.hW, hs.hL, hs.hg, hs.hs⟩
  have CP := put_any n₀ x h no nf d a2 (recBytes b).length c2 b w2 H.out.2.2.2.1 (H.out.2.1.later b2 H.out.2.1.pos) H.out.2.2.1 hs2 H.out.2.2.2.2.1 H.out.2.2.2.2.2 hr2 (fun k off hp e hk => by
    have h1 := hs.dk.lt hk
    have h2 := (row_own ho (b := k) (by rw [e]; rfl)).1
    omega)
  have c0 : w2.cell? ⟨x.Wb, 0, none⟩ = some (.pointer (some ⟨x.L, 0, none⟩)) := bl_cell hs2.wb 0 _ rfl
  have HB : Hid (Below w.heap.size w w2) := b2
  clear CM CR ho hr2 hnew b2 hs hs2
  go_wp2_with (go_at_call 27; refine CP.mono ?_; rintro e w3 ⟨rfl, x', g', e1, e2, hs3, hC3, hg3, hgb3, hvs3⟩)
  go_ret2
  have hsz := HB.out.size
  exact ⟨rfl, x', g', e1, e2, hs3, (chg_of_below (S := Fp x h) HB.out).trans hC3 (fun _ _ e => e) (fun _ _ e => e), hg3.imp id (fun ⟨k, e, hk⟩ => ⟨k, e, by omega⟩), hgb3.imp id (fun ⟨k, e, hk⟩ => ⟨k, e, by omega⟩), hvs3.imp id (fun ⟨k, e, hk⟩ => ⟨k, e, by omega⟩)⟩
end Go.Proofs.YtonjjbmjholkjaaGreatDoor
