/-
  The contracts of disk's Cut, Retire, Sync, Read, Crash, Base, End, Down, Fuse.
-/
import Derived.Test.YtecgjfghofpjcaaDkM
namespace Go.Proofs.Ytecgjfghofpjcaa
open Go.RowKit Go.Maps

theorem Lo.has_inv {l : Lo} (ok : LoOk l) {a : Int} (h : l.has a = true) : l.base ≤ a ∧ (a - l.base).toNat ≤ l.bytes.length ∧ IntKind.i64.wrap (a - l.base) = ((a - l.base).toNat : Int) ∧ a = l.base + (a - l.base).toNat := by
  unfold Lo.has Lo.fin at h
  simp only [Bool.and_eq_true, decide_eq_true_eq] at h
  obtain ⟨h1, h2⟩ := h
  have h3 := ok.len'
  have h4 := ok.b1
  have h5 := ok.b2
  rw [IntKind.wrap_i64] at h2
  rw [IntKind.wrap_i64]
  omega

def Dk.cut (d : Dk) (a : Int) : Int × Dk :=
  if d.off = true then (9, d) else if d.lo.has a = false then (1, d) else if d.left = 0 then (9, d.burnt) else (0, { d.burnt with lo := { d.lo with bytes := d.lo.bytes.take (a - d.lo.base).toNat, sure := min d.lo.sure (a - d.lo.base).toNat } })

def Dk.retire (d : Dk) (a : Int) : Int × Dk :=
  if d.off = true then (9, d) else if d.lo.has a = false then (1, d) else if d.left = 0 then (9, d.burnt) else (0, { d.burnt with lo := { d.lo with base := a, bytes := d.lo.bytes.drop (a - d.lo.base).toNat, sure := d.lo.sure - (a - d.lo.base).toNat } })

set_option maxHeartbeats 1000000 in
theorem dcut_any (h : Wh) (no nf : Nat) (d : Dk) (a : Int) (w : World) (hd : DkW w h no nf d) :
    Calls Try.prog 19 #[.pointer (some ⟨h.B, 0, none⟩), .int .i64 a] w fun e w' => e = .returned (.int .i64 (d.cut a).1) ∧ DkW w' h no nf (d.cut a).2 ∧ Chg h.has w w' := by
  have CF := fault_any h no nf d w hd
  by_cases hoff : d.off = true
  · have e0 : d.cut a = (9, d) := if_pos hoff
    rw [e0]
    rw [if_pos hoff] at CF
    have FIN : Hid (DkW w h no nf d) := hd
    clear hd hoff e0
    go_enter Try.func19, Try.ntmps19
    go_wp2_with (go_at_call 34; refine CF.mono ?_; rintro e w' ⟨rfl, hw⟩; obtain rfl : w = w' := hw.symm)
    go_ret
    exact ⟨rfl, FIN.out, Chg.refl _ _⟩
  · rw [if_neg hoff] at CF
    have CH := has_any h.L h.g d.lo a w hd.l
    have c0 := hd.c0
    have c1 := hd.c1
    by_cases hhas : d.lo.has a = false
    · have e0 : d.cut a = (1, d) := by unfold Dk.cut; rw [if_neg hoff, if_pos hhas]
      rw [e0]
      rw [hhas] at CH
      have FIN : Hid (DkW w h no nf d) := hd
      clear hd hoff e0 hhas
      go_enter Try.func19, Try.ntmps19
      go_wp2_with (first | (go_at_call 34; refine CF.mono ?_; rintro e w' ⟨rfl, hw⟩; obtain rfl : w = w' := hw.symm) | (go_at_call 43; refine CH.mono ?_; rintro e w2 ⟨rfl, b2⟩))
      go_ret
      exact ⟨rfl, FIN.out.later b2, chg_of_below b2⟩
    · have hh : d.lo.has a = true := by simpa using hhas
      rw [hh] at CH
      have INV := Lo.has_inv hd.l.1 hh
      have HIN : Hid (d.lo.base ≤ a ∧ (a - d.lo.base).toNat ≤ d.lo.bytes.length ∧ IntKind.i64.wrap (a - d.lo.base) = ((a - d.lo.base).toNat : Int) ∧ a = d.lo.base + (a - d.lo.base).toNat) := INV
      have HD : Hid (DkW w h no nf d) := hd
      clear INV
      by_cases hl : d.left = 0
      · have e0 : d.cut a = (9, d.burnt) := by unfold Dk.cut; rw [if_neg hoff, if_neg hhas, if_pos hl]
        rw [e0]
        have CB := fun W (hz : Fz W h.F d.off d.left) => burn_any h.F d.off d.left W hz hd.lf
        have eb : decide (d.left ≠ 0) = false := by simp [hl]
        rw [eb] at CB
        have HL : Hid (d.left = 0) := hl
        clear hd hoff e0 hhas hh eb hl
        go_enter Try.func19, Try.ntmps19
        go_wp2_with (go_at_call 34; refine CF.mono ?_; rintro e w' ⟨rfl, hw⟩; obtain rfl : w = w' := hw.symm)
        refine CH.mono ?_
        rintro e w2 ⟨rfl, b2⟩
        have hd2 := HD.out.later b2
        have CB2 := CB w2 hd2.z
        have k0 := hd2.c0
        have HD2 : Hid (DkW w2 h no nf d) := hd2
        clear CF CH CB c0 c1 hd2
        go_wp2_with (go_at_call 36; refine CB2.mono ?_; rintro e w3 ⟨rfl, hz3, hC3⟩)
        go_ret
        exact ⟨rfl, HD2.out.setF hz3 hC3 (burnLeft_le HD2.out.lf), (chg_of_below b2).trans hC3 (fun _ _ e => e) (fun k _ e => .inr (.inl e))⟩
      · have e0 : d.cut a = (0, { d.burnt with lo := { d.lo with bytes := d.lo.bytes.take (a - d.lo.base).toNat, sure := min d.lo.sure (a - d.lo.base).toNat } }) := by unfold Dk.cut; rw [if_neg hoff, if_neg hhas, if_neg hl]
        rw [e0]
        have CB := fun W (hz : Fz W h.F d.off d.left) => burn_any h.F d.off d.left W hz hd.lf
        have eb : decide (d.left ≠ 0) = true := by simp [hl]
        rw [eb] at CB
        clear hd hoff e0 hhas hh eb hl
        go_enter Try.func19, Try.ntmps19
        go_wp2_with (go_at_call 34; refine CF.mono ?_; rintro e w' ⟨rfl, hw⟩; obtain rfl : w = w' := hw.symm)
        refine CH.mono ?_
        rintro e w2 ⟨rfl, b2⟩
        have hd2 := HD.out.later b2
        have CB2 := CB w2 hd2.z
        have k0 := hd2.c0
        have HD2 : Hid (DkW w2 h no nf d) := hd2
        clear CF CH CB c0 c1 hd2
        go_wp2_with fail
        refine CB2.mono ?_
        rintro e w3 ⟨rfl, hz3, hC3⟩
        have hd3 := HD2.out.setF hz3 hC3 (burnLeft_le HD2.out.lf)
        have CC := cut_any h.L h.g d.lo a (a - d.lo.base).toNat w3 hd3.l HIN.out.2.1 HIN.out.2.2.1
        have k1 := hd3.c1
        have HD3 : Hid (DkW w3 h no nf d.burnt) := hd3
        have HC3 : Hid (Chg h.has w w3) := (chg_of_below b2).trans hC3 (fun _ _ e => e) (fun k _ e => .inr (.inl e))
        clear CB2 hz3 hC3 hd3 b2 k0
        go_wp2_with fail
        refine CC.mono ?_
        rintro e w5 ⟨⟨v5, rfl⟩, hl5, hC5⟩
        go_wp2
        go_ret
        exact ⟨rfl, HD3.out.setL hl5 (hC5.mono (fun _ _ e => .inl e)), HC3.out.trans hC5 (fun _ _ e => e) (fun k _ e => .inr (.inr (.inl e)))⟩

set_option maxHeartbeats 1000000 in
theorem dretire_any (h : Wh) (no nf : Nat) (d : Dk) (a : Int) (ha : wf64 a) (w : World) (hd : DkW w h no nf d) :
    Calls Try.prog 21 #[.pointer (some ⟨h.B, 0, none⟩), .int .i64 a] w fun e w' => e = .returned (.int .i64 (d.retire a).1) ∧ DkW w' h no nf (d.retire a).2 ∧ Chg h.has w w' := by
  have CF := fault_any h no nf d w hd
  by_cases hoff : d.off = true
  · have e0 : d.retire a = (9, d) := if_pos hoff
    rw [e0]
    rw [if_pos hoff] at CF
    have FIN : Hid (DkW w h no nf d) := hd
    clear hd hoff e0
    go_enter Try.func21, Try.ntmps21
    go_wp2_with (go_at_call 34; refine CF.mono ?_; rintro e w' ⟨rfl, hw⟩; obtain rfl : w = w' := hw.symm)
    go_ret
    exact ⟨rfl, FIN.out, Chg.refl _ _⟩
  · rw [if_neg hoff] at CF
    have CH := has_any h.L h.g d.lo a w hd.l
    have c0 := hd.c0
    have c1 := hd.c1
    by_cases hhas : d.lo.has a = false
    · have e0 : d.retire a = (1, d) := by unfold Dk.retire; rw [if_neg hoff, if_pos hhas]
      rw [e0]
      rw [hhas] at CH
      have FIN : Hid (DkW w h no nf d) := hd
      clear hd hoff e0 hhas
      go_enter Try.func21, Try.ntmps21
      go_wp2_with (first | (go_at_call 34; refine CF.mono ?_; rintro e w' ⟨rfl, hw⟩; obtain rfl : w = w' := hw.symm) | (go_at_call 43; refine CH.mono ?_; rintro e w2 ⟨rfl, b2⟩))
      go_ret
      exact ⟨rfl, FIN.out.later b2, chg_of_below b2⟩
    · have hh : d.lo.has a = true := by simpa using hhas
      rw [hh] at CH
      have INV := Lo.has_inv hd.l.1 hh
      have HIN : Hid (d.lo.base ≤ a ∧ (a - d.lo.base).toNat ≤ d.lo.bytes.length ∧ IntKind.i64.wrap (a - d.lo.base) = ((a - d.lo.base).toNat : Int) ∧ a = d.lo.base + (a - d.lo.base).toNat) := INV
      have HD : Hid (DkW w h no nf d) := hd
      clear INV
      by_cases hl : d.left = 0
      · have e0 : d.retire a = (9, d.burnt) := by unfold Dk.retire; rw [if_neg hoff, if_neg hhas, if_pos hl]
        rw [e0]
        have CB := fun W (hz : Fz W h.F d.off d.left) => burn_any h.F d.off d.left W hz hd.lf
        have eb : decide (d.left ≠ 0) = false := by simp [hl]
        rw [eb] at CB
        have HL : Hid (d.left = 0) := hl
        clear hd hoff e0 hhas hh eb hl
        go_enter Try.func21, Try.ntmps21
        go_wp2_with (go_at_call 34; refine CF.mono ?_; rintro e w' ⟨rfl, hw⟩; obtain rfl : w = w' := hw.symm)
        refine CH.mono ?_
        rintro e w2 ⟨rfl, b2⟩
        have hd2 := HD.out.later b2
        have CB2 := CB w2 hd2.z
        have k0 := hd2.c0
        have HD2 : Hid (DkW w2 h no nf d) := hd2
        clear CF CH CB c0 c1 hd2
        go_wp2_with (go_at_call 36; refine CB2.mono ?_; rintro e w3 ⟨rfl, hz3, hC3⟩)
        go_ret
        exact ⟨rfl, HD2.out.setF hz3 hC3 (burnLeft_le HD2.out.lf), (chg_of_below b2).trans hC3 (fun _ _ e => e) (fun k _ e => .inr (.inl e))⟩
      · have e0 : d.retire a = (0, { d.burnt with lo := { d.lo with base := a, bytes := d.lo.bytes.drop (a - d.lo.base).toNat, sure := d.lo.sure - (a - d.lo.base).toNat } }) := by unfold Dk.retire; rw [if_neg hoff, if_neg hhas, if_neg hl]
        rw [e0]
        have CB := fun W (hz : Fz W h.F d.off d.left) => burn_any h.F d.off d.left W hz hd.lf
        have eb : decide (d.left ≠ 0) = true := by simp [hl]
        rw [eb] at CB
        clear hd hoff e0 hhas hh eb hl
        go_enter Try.func21, Try.ntmps21
        go_wp2_with (go_at_call 34; refine CF.mono ?_; rintro e w' ⟨rfl, hw⟩; obtain rfl : w = w' := hw.symm)
        refine CH.mono ?_
        rintro e w2 ⟨rfl, b2⟩
        have hd2 := HD.out.later b2
        have CB2 := CB w2 hd2.z
        have k0 := hd2.c0
        have HD2 : Hid (DkW w2 h no nf d) := hd2
        clear CF CH CB c0 c1 hd2
        go_wp2_with fail
        refine CB2.mono ?_
        rintro e w3 ⟨rfl, hz3, hC3⟩
        have hd3 := HD2.out.setF hz3 hC3 (burnLeft_le HD2.out.lf)
        have CC := retire_any h.L h.g d.lo a (a - d.lo.base).toNat w3 hd3.l HIN.out.2.1 HIN.out.2.2.1 ha.1 ha.2
        have k1 := hd3.c1
        have HD3 : Hid (DkW w3 h no nf d.burnt) := hd3
        have HC3 : Hid (Chg h.has w w3) := (chg_of_below b2).trans hC3 (fun _ _ e => e) (fun k _ e => .inr (.inl e))
        clear CB2 hz3 hC3 hd3 b2 k0
        go_wp2_with fail
        refine CC.mono ?_
        rintro e w5 ⟨⟨v5, rfl⟩, hl5, hC5⟩
        go_wp2
        go_ret
        exact ⟨rfl, HD3.out.setL hl5 (hC5.mono (fun _ _ e => .inl e)), HC3.out.trans hC5 (fun _ _ e => e) (fun k _ e => .inr (.inr (.inl e)))⟩

def Dk.read (d : Dk) (a : Int) : Int × List UInt8 := if d.off = true then (9, []) else if d.lo.has a = false then (1, []) else (0, d.lo.bytes.drop (a - d.lo.base).toNat)

set_option maxHeartbeats 1000000 in
theorem dread_any (h : Wh) (no nf : Nat) (d : Dk) (a : Int) (w : World) (hd : DkW w h no nf d) :
    Calls Try.prog 14 #[.pointer (some ⟨h.B, 0, none⟩), .int .i64 a] w fun e w' => ∃ ao cap, e = .returned (.tuple #[.slice ao (d.read a).2.length cap, .int .i64 (d.read a).1]) ∧ Rd w' ao (d.read a).2.length cap (d.read a).2 ∧ Below w.heap.size w w' ∧ ∀ b off, ao = some ⟨b, off, none⟩ → w.heap.size ≤ b := by
  have CF := fault_any h no nf d w hd
  by_cases hoff : d.off = true
  · have e0 : d.read a = (9, []) := if_pos hoff
    rw [e0]
    rw [if_pos hoff] at CF
    clear hd hoff e0
    go_enter Try.func14, Try.ntmps14
    go_wp2_with (go_at_call 34; refine CF.mono ?_; rintro e w' ⟨rfl, hw⟩; obtain rfl : w = w' := hw.symm)
    go_ret2
    exact ⟨none, 0, rfl, Rd.nil _, Below.refl _ _, fun b off e => by cases e⟩
  · rw [if_neg hoff] at CF
    have CH := has_any h.L h.g d.lo a w hd.l
    have c1 := hd.c1
    by_cases hhas : d.lo.has a = false
    · have e0 : d.read a = (1, []) := by unfold Dk.read; rw [if_neg hoff, if_pos hhas]
      rw [e0]
      rw [hhas] at CH
      clear hd hoff e0 hhas
      go_enter Try.func14, Try.ntmps14
      go_wp2_with (first | (go_at_call 34; refine CF.mono ?_; rintro e w' ⟨rfl, hw⟩; obtain rfl : w = w' := hw.symm) | (go_at_call 43; refine CH.mono ?_; rintro e w2 ⟨rfl, b2⟩))
      go_ret2
      exact ⟨none, 0, rfl, Rd.nil _, b2, fun b off e => by cases e⟩
    · have hh : d.lo.has a = true := by simpa using hhas
      rw [hh] at CH
      have INV := Lo.has_inv hd.l.1 hh
      have HIN : Hid (d.lo.base ≤ a ∧ (a - d.lo.base).toNat ≤ d.lo.bytes.length ∧ IntKind.i64.wrap (a - d.lo.base) = ((a - d.lo.base).toNat : Int) ∧ a = d.lo.base + (a - d.lo.base).toNat) := INV
      have e0 : d.read a = (0, d.lo.bytes.drop (a - d.lo.base).toNat) := by unfold Dk.read; rw [if_neg hoff, if_neg hhas]
      rw [e0]
      have HD : Hid (DkW w h no nf d) := hd
      have el : (d.lo.bytes.drop (a - d.lo.base).toNat).length = d.lo.bytes.length - (a - d.lo.base).toNat := List.length_drop
      dsimp only
      rw [el]
      clear INV hd hoff e0 hhas hh el
      go_enter Try.func14, Try.ntmps14
      go_wp2_with (go_at_call 34; refine CF.mono ?_; rintro e w' ⟨rfl, hw⟩; obtain rfl : w = w' := hw.symm)
      refine CH.mono ?_
      rintro e w2 ⟨rfl, b2⟩
      have hd2 := HD.out.later b2
      have CR := read_any h.L h.g d.lo a (a - d.lo.base).toNat w2 hd2.l HIN.out.2.1 HIN.out.2.2.1
      have k1 := hd2.c1
      clear CF CH c1 hd2
      go_wp2_with fail
      refine CR.mono ?_
      rintro e w3 ⟨ao, cap, rfl, hr3, b3, hn3⟩
      clear CR
      go_wp2
      go_ret2
      exact ⟨ao, cap, rfl, hr3, b2.trans (b3.mono b2.size), fun b off e => Nat.le_trans b2.size (hn3 b off e)⟩

def Dk.sync (d : Dk) : Int × Dk := if d.off = true then (9, d) else if d.left = 0 then (9, d.burnt) else (0, { d.burnt with lo := { d.lo with sure := d.lo.bytes.length }, old := over d.fresh d.old, fresh := none' })

set_option maxHeartbeats 1000000 in
theorem dsync_any (h : Wh) (no nf : Nat) (d : Dk) (w : World) (hd : DkW w h no nf d) (hroom : no + nf ≤ 9223372036854775807) :
    Calls Try.prog 17 #[.pointer (some ⟨h.B, 0, none⟩)] w fun e w' => e = .returned (.int .i64 d.sync.1) ∧ ∃ mf' no' nf', DkW w' { h with mf := mf' } no' nf' d.sync.2 ∧ Chg h.has w w' ∧ (mf' = h.mf ∨ w.heap.size ≤ mf') ∧ no' + nf' ≤ no + nf := by
  have CF := fault_any h no nf d w hd
  by_cases hoff : d.off = true
  · have e0 : d.sync = (9, d) := if_pos hoff
    rw [e0]
    rw [if_pos hoff] at CF
    have FIN : Hid (DkW w h no nf d) := hd
    clear hd hoff e0
    go_enter Try.func17, Try.ntmps17
    go_wp2_with (go_at_call 34; refine CF.mono ?_; rintro e w' ⟨rfl, hw⟩; obtain rfl : w = w' := hw.symm)
    go_ret
    exact ⟨rfl, h.mf, no, nf, FIN.out, Chg.refl _ _, .inl rfl, Nat.le_refl _⟩
  · rw [if_neg hoff] at CF
    have CB := burn_any h.F d.off d.left w hd.z hd.lf
    have c0 := hd.c0
    have HD : Hid (DkW w h no nf d) := hd
    by_cases hl : d.left = 0
    · have e0 : d.sync = (9, d.burnt) := by unfold Dk.sync; rw [if_neg hoff, if_pos hl]
      rw [e0]
      have eb : decide (d.left ≠ 0) = false := by simp [hl]
      rw [eb] at CB
      clear hd hoff e0 eb hl
      go_enter Try.func17, Try.ntmps17
      go_wp2_with (first | (go_at_call 34; refine CF.mono ?_; rintro e w' ⟨rfl, hw⟩; obtain rfl : w = w' := hw.symm) | (go_at_call 36; refine CB.mono ?_; rintro e w3 ⟨rfl, hz3, hC3⟩))
      go_ret
      exact ⟨rfl, h.mf, no, nf, HD.out.setF hz3 hC3 (burnLeft_le HD.out.lf), hC3.mono (fun k _ e => .inr (.inl e)), .inl rfl, Nat.le_refl _⟩
    · have e0 : d.sync = (0, { d.burnt with lo := { d.lo with sure := d.lo.bytes.length }, old := over d.fresh d.old, fresh := none' }) := by unfold Dk.sync; rw [if_neg hoff, if_neg hl]
      rw [e0]
      have eb : decide (d.left ≠ 0) = true := by simp [hl]
      rw [eb] at CB
      clear hd hoff e0 eb hl
      go_enter Try.func17, Try.ntmps17
      go_wp2_with (go_at_call 34; refine CF.mono ?_; rintro e w' ⟨rfl, hw⟩; obtain rfl : w = w' := hw.symm)
      refine CB.mono ?_
      rintro e w3 ⟨rfl, hz3, hC3⟩
      have hd3 := HD.out.setF hz3 hC3 (burnLeft_le HD.out.lf)
      have CL := lsync_any h.L h.g d.lo w3 hd3.l
      have k1 := hd3.c1
      have HD3 : Hid (DkW w3 h no nf d.burnt) := hd3
      have HC3 : Hid (Chg h.has w w3) := hC3.mono (fun k _ e => .inr (.inl e))
      clear CB hz3 hC3 hd3 c0 CF
      go_wp2_with fail
      refine CL.mono ?_
      rintro e w4 ⟨⟨v4, rfl⟩, hl4, hC4⟩
      have hd4 := HD3.out.setL hl4 (hC4.mono (fun _ _ e => .inl e))
      have CP := psync_any h.P h.mo h.mf no nf d.count d.old d.fresh w4 hd4.p hroom
      have k2 := hd4.c2
      have HD4 : Hid (DkW w4 h no nf { d.burnt with lo := { d.lo with sure := d.lo.bytes.length } }) := hd4
      have HC4 : Hid (Chg h.has w w4) := HC3.out.trans hC4 (fun _ _ e => e) (fun k _ e => .inr (.inr (.inl e)))
      clear CL hl4 hC4 hd4 k1
      go_wp2_with fail
      refine CP.mono ?_
      rintro e w5 ⟨⟨v5, rfl⟩, ⟨mf', hp5, hm5, -⟩, hC5⟩
      clear CP
      go_wp2
      go_ret
      exact ⟨rfl, mf', no + nf, 0, HD4.out.setP hp5 (hC5.mono (fun _ _ e => e.elim .inl (fun e => .inr (.inl e)))), HC4.out.trans hC5 (fun _ _ e => e) (fun k _ e => e.elim (fun e => .inr (.inr (.inr (.inl e)))) (fun e => .inr (.inr (.inr (.inr (.inl e)))))), .inr (Nat.le_trans HC4.out.size hm5), Nat.le_refl _⟩

theorem base_any (h : Wh) (no nf : Nat) (d : Dk) (w : World) (hd : DkW w h no nf d) :
    Calls Try.prog 31 #[.pointer (some ⟨h.B, 0, none⟩)] w fun e w' => e = .returned (.int .i64 d.lo.base) ∧ w' = w := by
  have C := wasMade_any h no nf d w hd
  have c1 := hd.c1
  obtain ⟨_, sv, hL, _⟩ := hd.l
  have k1 : w.cell? ⟨h.L, 1, none⟩ = some (.int .i64 d.lo.base) := bl_cell hL 1 _ rfl
  clear hd hL
  go_enter Try.func31, Try.ntmps31
  go_wp2_with (go_at_call 39; refine C.mono ?_; rintro e w' ⟨rfl, hw⟩; obtain rfl : w = w' := hw.symm)
  go_ret
  exact ⟨rfl, rfl⟩

theorem dend_any (h : Wh) (no nf : Nat) (d : Dk) (w : World) (hd : DkW w h no nf d) :
    Calls Try.prog 15 #[.pointer (some ⟨h.B, 0, none⟩)] w fun e w' => e = .returned (.int .i64 d.lo.fin) ∧ Below w.heap.size w w' := by
  have C := wasMade_any h no nf d w hd
  have CE := end_any h.L h.g d.lo w hd.l
  have c1 := hd.c1
  clear hd
  go_enter Try.func15, Try.ntmps15
  go_wp2_with (first | (go_at_call 39; refine C.mono ?_; rintro e w' ⟨rfl, hw⟩; obtain rfl : w = w' := hw.symm) | (go_at_call 37; refine CE.mono ?_; rintro e w2 ⟨rfl, b2⟩))
  go_ret
  exact ⟨rfl, b2⟩

theorem down_any (h : Wh) (no nf : Nat) (d : Dk) (w : World) (hd : DkW w h no nf d) :
    Calls Try.prog 33 #[.pointer (some ⟨h.B, 0, none⟩)] w fun e w' => e = .returned (.bool d.off) ∧ w' = w := by
  have C := wasMade_any h no nf d w hd
  have c0 := hd.c0
  have k0 : w.cell? ⟨h.F, 0, none⟩ = some (.bool d.off) := bl_cell hd.z 0 _ rfl
  clear hd
  go_enter Try.func33, Try.ntmps33
  go_wp2_with (go_at_call 39; refine C.mono ?_; rintro e w' ⟨rfl, hw⟩; obtain rfl : w = w' := hw.symm)
  go_ret
  exact ⟨rfl, rfl⟩

theorem fuse_any (h : Wh) (no nf : Nat) (d : Dk) (k : Int) (hk : k ≤ 9223372036854775807) (w : World) (hd : DkW w h no nf d) :
    Calls Try.prog 26 #[.pointer (some ⟨h.B, 0, none⟩), .int .i64 k] w fun e w' => (∃ v, e = .returned v) ∧ DkW w' h no nf { d with left := k } ∧ Chg h.has w w' := by
  have C := wasMade_any h no nf d w hd
  have CL := light_any h.F d.off d.left k w hd.z
  have c0 := hd.c0
  have HD : Hid (DkW w h no nf d) := hd
  have HK : Hid (k ≤ 9223372036854775807) := hk
  clear hd hk
  go_enter Try.func26, Try.ntmps26
  go_wp2_with (first | (go_at_call 39; refine C.mono ?_; rintro e w' ⟨rfl, hw⟩; obtain rfl : w = w' := hw.symm) | (go_at_call 52; refine CL.mono ?_; rintro e w2 ⟨⟨v2, rfl⟩, hz2, hC2⟩))
  go_end0
  exact ⟨⟨_, rfl⟩, HD.out.setF hz2 hC2 HK.out, hC2.mono (fun k _ e => .inr (.inl e))⟩

/-- Crash, over what the pages' crash is known to do. -/
theorem dcrash_of (h : Wh) (no nf : Nat) (d : Dk) (keep : Int) (torn : Bool) (fs : Value) (w : World) (hd : DkW w h no nf d) (old' : Pf) (no' : Nat)
    (CP : ∀ W, Chg (fun k => k = h.L ∨ some k = h.g) w W → Pg W h.P h.mo h.mf no nf d.count d.old d.fresh → Calls Try.prog 41 #[.pointer (some ⟨h.P, 0, none⟩), fs] W fun e w' => (∃ v, e = .returned v) ∧ (∃ mf', Pg w' h.P h.mo mf' no' 0 d.count old' none' ∧ W.heap.size ≤ mf') ∧ Chg (fun k => k = h.P ∨ k = h.mo) W w') :
    Calls Try.prog 13 #[.pointer (some ⟨h.B, 0, none⟩), .int .i64 keep, .bool torn, fs] w fun e w' => (∃ v, e = .returned v) ∧ ∃ mf', DkW w' { h with mf := mf' } no' 0 { d with lo := d.lo.crash keep torn, old := old', fresh := none', off := false, left := -1 } ∧ Chg h.has w w' ∧ w.heap.size ≤ mf' := by
  have C := wasMade_any h no nf d w hd
  have CL := lcrash_any h.L h.g d.lo keep torn w hd.l
  have c1 := hd.c1
  have HD : Hid (DkW w h no nf d) := hd
  clear hd
  go_enter Try.func13, Try.ntmps13
  go_wp2_with (go_at_call 39; refine C.mono ?_; rintro e w' ⟨rfl, hw⟩; obtain rfl : w = w' := hw.symm)
  refine CL.mono ?_
  rintro e w3 ⟨⟨v3, rfl⟩, hl3, hC3⟩
  have hd3 := HD.out.setL hl3 hC3
  have CP3 := CP w3 hC3 hd3.p
  have k2 := hd3.c2
  have HD3 : Hid (DkW w3 h no nf { d with lo := d.lo.crash keep torn }) := hd3
  have HC3 : Hid (Chg h.has w w3) := hC3.mono (fun k _ e => e.elim (fun e => .inr (.inr (.inl e))) (fun e => .inr (.inr (.inr (.inr (.inr (.inr e)))))))
  clear C CL CP c1 hl3 hC3 hd3
  go_wp2_with fail
  refine CP3.mono ?_
  rintro e w4 ⟨⟨v4, rfl⟩, ⟨mf', hp4, hm4⟩, hC4⟩
  have hd4 := HD3.out.setP hp4 (hC4.mono (fun _ _ e => e.elim .inl (fun e => .inr (.inl e))))
  have CR := renew_any h.F d.off d.left w4 hd4.z
  have k0 := hd4.c0
  have HD4 : Hid (DkW w4 { h with mf := mf' } no' 0 { d with lo := d.lo.crash keep torn, old := old', fresh := none' }) := hd4
  have HC4 : Hid (Chg h.has w w4) := HC3.out.trans hC4 (fun _ _ e => e) (fun k _ e => e.elim (fun e => .inr (.inr (.inr (.inl e)))) (fun e => .inr (.inr (.inr (.inr (.inl e))))))
  have HM4 : Hid (w.heap.size ≤ mf') := Nat.le_trans HC3.out.size hm4
  clear CP3 hp4 hm4 hC4 hd4 k2
  go_wp2_with fail
  refine CR.mono ?_
  rintro e w5 ⟨⟨v5, rfl⟩, hz5, hC5⟩
  clear CR
  go_wp2
  go_end0
  have hmo : (-1 : Int) ≤ 9223372036854775807 := by omega
  exact ⟨⟨_, rfl⟩, mf', HD4.out.setF hz5 hC5 hmo, HC4.out.trans hC5 (fun _ _ e => e) (fun k _ e => .inr (.inl e)), HM4.out⟩
end Go.Proofs.Ytecgjfghofpjcaa
