/-
  The contract of wal.log.settle.
-/
import Derived.Test.YtonjjbmjholkjaaGreatDoorWlQ
namespace Go.Proofs.YtonjjbmjholkjaaGreatDoor
open Go.RowKit Go.Shelf

theorem Lb.later {W W' : World} {L : Nat} {h : Wh} {vb vs : Value} {t : Nat} {s : Int} (h1 : Lb W L h vb vs t s) (hb : Below W.heap.size W W') : Lb W' L h vb vs t s := (hb.block L (bl_lt h1)).trans h1

theorem Lb.chg {W W' : World} {L : Nat} {h : Wh} {vb vs : Value} {t : Nat} {s : Int} (h1 : Lb W L h vb vs t s) {S : Nat → Prop} (hC : Chg S W W') (hS : ¬ S L) : Lb W' L h vb vs t s := (hC.block L (bl_lt h1) hS).trans h1

/-- The log's block is none of the disk's. -/
theorem Lb.nd {W : World} {L : Nat} {h : Wh} {vb vs : Value} {t : Nat} {s : Int} (hL : Lb W L h vb vs t s) {no nf : Nat} {d : Dk} (hd : DkW W h no nf d) : ¬ h.has L := fun hk => by
  rcases hk with e | e | e | e | e | e | e
  · exact cne hL hd.b (by decide) e
  · exact cne hL hd.z (by decide) e
  · obtain ⟨cL, hcL⟩ := hd.lcells; exact cne hL hcL (by decide) e
  · exact cne hL hd.p.b (by decide) e
  · exact hd.p.o.ne hL e.symm
  · exact hd.p.f.ne hL e.symm
  · obtain ⟨cg, hcg⟩ := hd.gcells e; exact cne hL hcg (by decide) rfl

theorem sync_two (d : Dk) : d.sync.1 = 0 ∨ d.sync.1 = 9 := by
  unfold Dk.sync
  split
  · exact .inr rfl
  · split
    · exact .inr rfl
    · exact .inl rfl

set_option maxRecDepth 20000 in
set_option maxHeartbeats 2000000 in
theorem settle_any (L : Nat) (h : Wh) (no nf : Nat) (d : Dk) (vb vs : Value) (t : Nat) (s : Int) (w : World) (hL : Lb w L h vb vs t s) (hd : DkW w h no nf d) (hroom : no + nf ≤ 9223372036854775807) :
    Calls Tryz.prog 30 #[.pointer (some ⟨L, 0, none⟩)] w fun e w' => e = .returned (.int .i64 d.sync.1) ∧ ∃ mf' no' nf' s', DkW w' { h with mf := mf' } no' nf' d.sync.2 ∧ Lb w' L h vb vs t s' ∧ Chg (fun k => k = L ∨ h.has k) w w' ∧ (mf' = h.mf ∨ w.heap.size ≤ mf') ∧ no' + nf' ≤ no + nf := by
  have CS := dsync_any h no nf d w hd hroom
  have hLD := hL.nd hd
  have c0 : w.cell? ⟨L, 0, none⟩ = some (.pointer (some ⟨h.B, 0, none⟩)) := bl_cell hL 0 _ rfl
  have HL : Hid (Lb w L h vb vs t s ∧ ¬ h.has L) := ⟨hL, hLD⟩
  clear hL hd hLD hroom
  rcases sync_two d with hz | hz
  · rw [hz] at CS ⊢
    generalize d.sync.2 = d2 at CS
    go_enter Tryz.func30, Tryz.ntmps30
    go_wp2_with fail
    refine CS.mono ?_
    rintro e w2 ⟨rfl, mf', no', nf', hd2, hC2, hmf, hnn⟩
    have hL2 : Lb w2 L h vb vs t s := HL.out.1.chg hC2 HL.out.2
    have k0 : w2.cell? ⟨L, 0, none⟩ = some (.pointer (some ⟨h.B, 0, none⟩)) := bl_cell hL2 0 _ rfl
    have CE := dend_any { h with mf := mf' } no' nf' d2 w2 hd2
    have H2 : Hid (_ ∧ _ ∧ _ ∧ _ ∧ _) := And.intro hd2 (And.intro hL2 (And.intro hC2 (And.intro hmf hnn)))
    clear CS c0 hd2 hL2 hC2 hmf hnn
    dsimp only at CE
    go_wp2_with fail
    refine CE.mono ?_
    rintro e w3 ⟨rfl, b3⟩
    have hL3 := H2.out.2.1.later b3
    have f5 := bl_open hL3 5
    have k5 : w3.cell? ⟨L, 5, none⟩ = some (.int .i64 s) := bl_cell hL3 5 _ rfl
    have hL4 := bl_set hL3 5 (.int .i64 d2.lo.fin)
    have hd3 := H2.out.1.later b3
    have hd4 := hd3.kept (w' := w3.setCell ⟨L, 5, none⟩ (.int .i64 d2.lo.fin)) (fun k hk => Below.heap_setCell _ _ _ k (fun e => by
      dsimp only at e
      subst e
      exact hL3.nd (h := { h with mf := mf' }) hd3 hk))
    have hC4 : Chg (fun k => k = L ∨ h.has k) w (w3.setCell ⟨L, 5, none⟩ (.int .i64 d2.lo.fin)) :=
      (H2.out.2.2.1.trans (chg_of_below (S := fun k => k = L ∨ h.has k) b3) (fun _ _ e => .inr e) (fun _ _ e => e)).trans (chg_set _ L 5 _) (fun _ _ e => e) (fun _ _ e => .inl e)
    have HF : Hid (_ ∧ _ ∧ _) := And.intro hL4 (And.intro hd4 hC4)
    clear CE k0 hL3 hL4 hd3 hd4 hC4
    go_wp2
    go_ret
    exact ⟨rfl, mf', no', nf', _, HF.out.2.1, HF.out.1, HF.out.2.2, H2.out.2.2.2⟩
  · rw [hz] at CS ⊢
    generalize d.sync.2 = d2 at CS
    go_enter Tryz.func30, Tryz.ntmps30
    go_wp2_with (go_at_call 56; refine CS.mono ?_; rintro e w2 ⟨rfl, mf', no', nf', hd2, hC2, hmf, hnn⟩)
    go_ret
    exact ⟨rfl, mf', no', nf', s, hd2, HL.out.1.chg hC2 HL.out.2, hC2.mono (fun _ _ e => .inr e), hmf, hnn⟩
end Go.Proofs.YtonjjbmjholkjaaGreatDoor
