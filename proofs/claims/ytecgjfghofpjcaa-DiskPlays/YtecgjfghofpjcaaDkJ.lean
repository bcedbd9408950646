/-
  The contract of disk's Crash, whatever was written.
-/
import Derived.Test.YtecgjfghofpjcaaDkI
namespace Go.Proofs.Ytecgjfghofpjcaa
open Go.RowKit Go.Maps

/-- Crash, over what the pages' crash is known to do. -/
theorem dcrash_ex (h : Wh) (no nf : Nat) (d : Dk) (keep : Int) (torn : Bool) (fs : Value) (w : World) (hd : DkW w h no nf d) (no' : Nat) (Q : Pf → Prop)
    (CP : ∀ W, Chg (fun k => k = h.L ∨ some k = h.g) w W → Pg W h.P h.mo h.mf no nf d.count d.old d.fresh → Calls Try.prog 41 #[.pointer (some ⟨h.P, 0, none⟩), fs] W fun e w' => (∃ v, e = .returned v) ∧ (∃ old' mf', Q old' ∧ Pg w' h.P h.mo mf' no' 0 d.count old' none' ∧ W.heap.size ≤ mf') ∧ Chg (fun k => k = h.P ∨ k = h.mo) W w') :
    Calls Try.prog 13 #[.pointer (some ⟨h.B, 0, none⟩), .int .i64 keep, .bool torn, fs] w fun e w' => (∃ v, e = .returned v) ∧ ∃ old' mf', Q old' ∧ DkW w' { h with mf := mf' } no' 0 { d with lo := d.lo.crash keep torn, old := old', fresh := none', off := false, left := -1 } ∧ Chg h.has w w' ∧ w.heap.size ≤ mf' := by
  have C := wasMade_any h no nf d w hd
  have CL := lcrash_any h.L h.g d.lo keep torn w hd.l
  have c1 := hd.c1
  have HD : Hid (DkW w h no nf d) := hd
  clear hd
  go_enter Try.func13, Try.ntmps13
  go_wp2_with (go_at_call 39; refine C.mono ?_; rintro e w' ⟨rfl, hw⟩; obtain rfl : w = w' := hw.symm)
  refine CL.mono ?_
  rintro e w3 ⟨⟨v3, rfl⟩, hl3, hC3⟩
  have hd3 := HD.out.setL hl3 hC3
  have CP3 := CP w3 hC3 hd3.p
  have k2 := hd3.c2
  have HD3 : Hid (DkW w3 h no nf { d with lo := d.lo.crash keep torn }) := hd3
  have HC3 : Hid (Chg h.has w w3) := hC3.mono (fun k _ e => e.elim (fun e => .inr (.inr (.inl e))) (fun e => .inr (.inr (.inr (.inr (.inr (.inr e)))))))
  clear C CL CP c1 hl3 hC3 hd3
  go_wp2_with fail
  refine CP3.mono ?_
  rintro e w4 ⟨⟨v4, rfl⟩, ⟨old', mf', hq4, hp4, hm4⟩, hC4⟩
  have hd4 := HD3.out.setP hp4 (hC4.mono (fun _ _ e => e.elim .inl (fun e => .inr (.inl e))))
  have CR := renew_any h.F d.off d.left w4 hd4.z
  have k0 := hd4.c0
  have HD4 : Hid (DkW w4 { h with mf := mf' } no' 0 { d with lo := d.lo.crash keep torn, old := old', fresh := none' }) := hd4
  have HC4 : Hid (Chg h.has w w4) := HC3.out.trans hC4 (fun _ _ e => e) (fun k _ e => e.elim (fun e => .inr (.inr (.inr (.inl e)))) (fun e => .inr (.inr (.inr (.inr (.inl e))))))
  have HM4 : Hid (w.heap.size ≤ mf') := Nat.le_trans HC3.out.size hm4
  clear CP3 hp4 hm4 hC4 hd4 k2
  go_wp2_with fail
  refine CR.mono ?_
  rintro e w5 ⟨⟨v5, rfl⟩, hz5, hC5⟩
  clear CR
  go_wp2
  go_end0
  have hmo : (-1 : Int) ≤ 9223372036854775807 := by omega
  exact ⟨⟨_, rfl⟩, old', mf', hq4, HD4.out.setF hz5 hC5 hmo, HC4.out.trans hC5 (fun _ _ e => e) (fun k _ e => .inr (.inl e)), HM4.out⟩

/-- What a crash leaves of the pages. -/
def Crashed (fresh old : Pf) (fs : List Int) (old' : Pf) : Prop := ∃ ks, KeysOf fresh ks ∧ old' = crashTo ks fs fresh old ks.length

theorem dcrash_any (h : Wh) (no nf : Nat) (d : Dk) (keep : Int) (torn : Bool) (fa : Option Addr) (fn fc : Nat) (fs : List Int) (w : World) (hd : DkW w h no nf d) (hroom : no + nf ≤ 17592186044416) (hfs : Fs w fa fn fs) (hS : 0 < fn → ∀ b off, fa = some ⟨b, off, none⟩ → ¬ h.has b) :
    Calls Try.prog 13 #[.pointer (some ⟨h.B, 0, none⟩), .int .i64 keep, .bool torn, .slice fa fn fc] w fun e w' => (∃ v, e = .returned v) ∧ ∃ old' mf', Crashed d.fresh d.old fs old' ∧ DkW w' { h with mf := mf' } (no + nf) 0 { d with lo := d.lo.crash keep torn, old := old', fresh := none', off := false, left := -1 } ∧ Chg h.has w w' ∧ w.heap.size ≤ mf' := by
  refine dcrash_ex h no nf d keep torn (.slice fa fn fc) w hd (no + nf) (Crashed d.fresh d.old fs) (fun W hC hW => ?_)
  refine (pcrash_any h.P h.mo h.mf no nf d.count d.old d.fresh fa fn fc fs W hW hroom (fun W2 hC2 i => ?_)).mono ?_
  · have hmem : ∀ b off, 0 < fn → fa = some ⟨b, off, none⟩ → ¬ (b = h.L ∨ some b = h.g) ∧ b ≠ h.mo := fun b off hp e => by
      have := hS hp b off e
      exact ⟨fun q => this (q.elim (fun q => .inr (.inr (.inl q))) (fun q => .inr (.inr (.inr (.inr (.inr (.inr q))))))), fun q => this (.inr (.inr (.inr (.inr (.inl q)))))⟩
    by_cases hp : 0 < fn
    · obtain ⟨b, off, rfl, hc⟩ := hfs.2 hp
      obtain ⟨m1, m2⟩ := hmem b off hp rfl
      exact fateAt_any _ fn fc fs i W2 hfs.1 (fun b' off' e j hj => by cases e; exact hC2.cell m2 (hC.cell m1 (hc j hj))) (fun _ => ⟨b, off, rfl⟩)
    · exact fateAt_any _ fn fc fs i W2 hfs.1 (fun b' off' e j hj => by have := hfs.1; omega) (fun q => absurd q hp)
  · rintro e w' ⟨hv, ks, hk, -, ⟨mf', hp, hm⟩, hC3⟩
    exact ⟨hv, ⟨_, mf', ⟨ks, hk, rfl⟩, hp, hm⟩, hC3⟩
end Go.Proofs.Ytecgjfghofpjcaa
