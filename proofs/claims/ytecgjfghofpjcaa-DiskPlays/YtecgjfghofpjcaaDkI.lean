/-
  The contract of disk's Write, and of Crash whatever was written.
-/
import Derived.Test.YtecgjfghofpjcaaDkH
import Derived.Deep.RegionHeld2
namespace Go.Proofs.Ytecgjfghofpjcaa
open Go.RowKit Go.Maps

set_option maxHeartbeats 2000000 in
set_option maxRecDepth 20000 in
theorem dwrite_any (h : Wh) (no nf : Nat) (d : Dk) (page : Int) (hpg : wf64 page) (ao : Option Addr) (n cap : Nat) (bs : List UInt8) (w : World) (hd : DkW w h no nf d) (hr : Rd w ao n cap bs) (hS : 0 < n → ∀ b off, ao = some ⟨b, off, none⟩ → ¬ h.has b) (hn : nf < 9223372036854775807) (hm : n ≤ 9223372036854775807) :
    Calls Try.prog 23 #[.pointer (some ⟨h.B, 0, none⟩), .int .i64 page, .slice ao n cap] w fun e w' => e = .returned (.int .i64 (d.write page bs).1) ∧ ∃ nf', DkW w' h no nf' (d.write page bs).2 ∧ Chg h.has w w' ∧ nf' ≤ nf + 1 := by
  have CF := fault_any h no nf d w hd
  have hbl := hr.1
  by_cases hoff : d.off = true
  · have e0 : d.write page bs = (9, d) := if_pos hoff
    rw [e0]
    rw [if_pos hoff] at CF
    have FIN : Hid (DkW w h no nf d) := hd
    clear hd hoff e0 hr hbl hS
    go_enter Try.func23, Try.ntmps23
    go_wp2_with (go_at_call 34; refine CF.mono ?_; rintro e w' ⟨rfl, hw⟩; obtain rfl : w = w' := hw.symm)
    go_ret
    exact ⟨rfl, nf, FIN.out, Chg.refl _ _, by omega⟩
  · rw [if_neg hoff] at CF
    have CH := phas_any h.P h.mo h.mf no nf d.count d.old d.fresh page w hd.p
    have c2 := hd.c2
    have c0 := hd.c0
    by_cases hhas : d.hasP page = false
    · have e0 : d.write page bs = (1, d) := by unfold Dk.write; rw [if_neg hoff, if_pos (.inl hhas)]
      rw [e0]
      rw [show (decide (0 ≤ page) && decide (page < d.count)) = false from hhas] at CH
      have FIN : Hid (DkW w h no nf d) := hd
      clear hd hoff e0 hhas hr hbl hS
      go_enter Try.func23, Try.ntmps23
      go_wp2_with (first | (go_at_call 34; refine CF.mono ?_; rintro e w' ⟨rfl, hw⟩; obtain rfl : w = w' := hw.symm) | (go_at_call 50; refine CH.mono ?_; rintro e w' ⟨rfl, hw⟩; obtain rfl : w = w' := hw.symm))
      go_ret
      exact ⟨rfl, nf, FIN.out, Chg.refl _ _, by omega⟩
    · have hh : d.hasP page = true := by simpa using hhas
      rw [show (decide (0 ≤ page) && decide (page < d.count)) = true from hh] at CH
      by_cases h512 : n = 512
      · subst h512
        obtain ⟨b, off, rfl, hc⟩ := hr.2.2.2.2 (by omega)
        have HR : Hid (w.rangeAt b off (bv bs)) := fun j v hv => by
          have hj : j < bs.length := by rcases Nat.lt_or_ge j (bv bs).length with q | q; · rwa [bv_length] at q
                                        · rw [List.getElem?_eq_none q] at hv; cases hv
          rw [bv_at bs j hj] at hv
          cases hv
          exact hc j hj
        have hnb : ¬ h.has b := hS (by omega) b off rfl
        have HN : Hid (¬ h.has b ∧ bs.length = 512) := ⟨hnb, hbl⟩
        have HD : Hid (DkW w h no nf d) := hd
        by_cases hl : d.left = 0
        · have e0 : d.write page bs = (9, d.burnt) := by unfold Dk.write; rw [if_neg hoff, if_neg (by rw [hh, hbl]; simp), if_pos hl]
          rw [e0]
          have CB := burn_any h.F d.off d.left w hd.z hd.lf
          have eb : decide (d.left ≠ 0) = false := by simp [hl]
          rw [eb] at CB
          clear hd hoff e0 hhas hh eb hl hr hbl hS hc hnb
          go_enter Try.func23, Try.ntmps23
          go_wp2_with (first | (go_at_call 34; refine CF.mono ?_; rintro e w' ⟨rfl, hw⟩; obtain rfl : w = w' := hw.symm) | (go_at_call 50; refine CH.mono ?_; rintro e w' ⟨rfl, hw⟩; obtain rfl : w = w' := hw.symm) | (go_at_call 36; refine CB.mono ?_; rintro e w3 ⟨rfl, hz3, hC3⟩))
          go_ret
          exact ⟨rfl, nf, HD.out.setF hz3 hC3 (burnLeft_le HD.out.lf), hC3.mono (fun k _ e => .inr (.inl e)), by omega⟩
        · have e0 : d.write page bs = (0, { d.burnt with fresh := put d.fresh page bs }) := by unfold Dk.write; rw [if_neg hoff, if_neg (by rw [hh, hbl]; simp), if_neg hl]
          rw [e0]
          have CB := burn_any h.F d.off d.left w hd.z hd.lf
          have eb : decide (d.left ≠ 0) = true := by simp [hl]
          rw [eb] at CB
          have HW : Hid (wf64 page ∧ nf < 9223372036854775807) := ⟨hpg, hn⟩
          clear hd hoff e0 hhas hh eb hl hr hbl hS hc hnb hpg hn
          go_enter Try.func23, Try.ntmps23
          go_wp2_with (first | (go_at_call 34; refine CF.mono ?_; rintro e w' ⟨rfl, hw⟩; obtain rfl : w = w' := hw.symm) | (go_at_call 50; refine CH.mono ?_; rintro e w' ⟨rfl, hw⟩; obtain rfl : w = w' := hw.symm))
          refine CB.mono ?_
          rintro e w3 ⟨rfl, hz3, hC3⟩
          have hd3 := HD.out.setF hz3 hC3 (burnLeft_le HD.out.lf)
          have hpd : Pg w3.drew h.P h.mo h.mf no nf d.count d.old d.fresh := Pg.kept (w := w3) (count := d.count) (old := d.old) (fresh := d.fresh) hd3.p rfl rfl rfl
          have har : ∀ W, (Instr.arrayAt 80 (.slice (some ⟨b, off, none⟩) 512 cap)).run Try.prog W = .ok (.pointer (some ⟨b, off, none⟩)) W := fun W => by
            simp [Instr.arrayAt, run_underlying Try.underlying80]
          have hra3 : w3.rangeAt b off (bv bs) := fun j v hv => hC3.cell (fun e => HN.out.1 (.inr (.inl e))) (HR.out j v hv)
          have CW := pwrite_any h.P h.mo h.mf no nf d.count d.old d.fresh page HW.out.1 bs HN.out.2 w3.drew hpd HW.out.2
          have k2 := hd3.c2
          have HD3 : Hid (DkW w3 h no nf d.burnt) := hd3
          have HC3 : Hid (Chg h.has w w3) := hC3.mono (fun k _ e => .inr (.inl e))
          have HRA : Hid (w3.rangeAt b off (bv bs)) := hra3
          have hoc := bv_cell bs
          have hb5 : (bv bs).length = 512 := by rw [bv_length, HN.out.2]
          have ulen : (Try.prog.info? 80).map (·.size) = some (bv bs).length := by rw [hb5]; exact cont_size
          have u74 := Try.underlying80
          have HPB : Hid (h.B ≠ h.mf ∧ b ≠ h.mf) := ⟨fun e => hd3.p.f.ne hd3.b e.symm, fun e => HN.out.1 (.inr (.inr (.inr (.inr (.inr (.inl e))))))⟩
          clear CF CH CB c0 c2 hz3 hC3 hd3 hra3 hpd
          go_wp2
          go_region_held2 (fun W => W.cell? ⟨h.B, 2, none⟩ = some (.pointer (some ⟨h.P, 0, none⟩)) ∧ W.rangeAt b off (bv bs))
            (first | exact ⟨k2, HRA.out⟩ | exact ⟨hC6.cell (fun e => HPB.out.1 e) k2, fun j v hv => hC6.cell (fun e => HPB.out.2 e) (HRA.out j v hv)⟩)
            ((go_at_call 51; refine CW.mono ?_; rintro e w6 ⟨⟨v6, rfl⟩, hp6, hC6⟩))
          all_goals
            have hC6' : Chg (fun k => k = h.mf) w3 w6 := ⟨hC6.os, hC6.tape, hC6.output, hC6.size, hC6.block⟩
            go_wp2
            go_ret
            exact ⟨rfl, nf + 1, HD3.out.setP hp6 (hC6'.mono (fun _ _ e => .inr (.inr e))), HC3.out.trans hC6' (fun _ _ e => e) (fun k _ e => .inr (.inr (.inr (.inr (.inr (.inl e)))))), Nat.le_refl _⟩
      · have e0 : d.write page bs = (1, d) := by unfold Dk.write; rw [if_neg hoff, if_pos (.inr (by rw [hbl]; exact h512))]
        rw [e0]
        have FIN : Hid (DkW w h no nf d) := hd
        have hq : ¬ (n : Int) = 512 := by omega
        clear hd hoff e0 hhas hh hr hbl hS h512
        go_enter Try.func23, Try.ntmps23
        go_wp2_with (first | (go_at_call 34; refine CF.mono ?_; rintro e w' ⟨rfl, hw⟩; obtain rfl : w = w' := hw.symm) | (go_at_call 50; refine CH.mono ?_; rintro e w' ⟨rfl, hw⟩; obtain rfl : w = w' := hw.symm))
        go_ret
        exact ⟨rfl, nf, FIN.out, Chg.refl _ _, by omega⟩
end Go.Proofs.Ytecgjfghofpjcaa
