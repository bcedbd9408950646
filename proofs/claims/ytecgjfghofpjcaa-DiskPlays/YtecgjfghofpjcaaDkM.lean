/-
  The contracts of disk's New, Append, Cut, Retire, Base, End, Read, Fuse, Down.
-/
import Derived.Test.YtecgjfghofpjcaaDkD
namespace Go.Proofs.Ytecgjfghofpjcaa
open Go.RowKit Go.Maps

theorem Rd.chg {S : Nat → Prop} {w w' : World} {ao : Option Addr} {n cap : Nat} {bs : List UInt8} (h : Rd w ao n cap bs) (hC : Chg S w w') (hS : 0 < n → ∀ b off, ao = some ⟨b, off, none⟩ → ¬ S b) : Rd w' ao n cap bs := by
  by_cases hn : 0 < n
  · exact h.kept (fun b off e hb => hC.block b hb (hS hn b off e))
  · obtain ⟨h1, h2, h3, h4, h5⟩ := h
    exact ⟨h1, h2, h3, h4, fun h => absurd h hn⟩

/-- What an operation takes of the fuse. -/
def Dk.burnt (d : Dk) : Dk := { d with off := burnOff d.left d.off, left := burnLeft d.left }

theorem burnLeft_le {x : Int} (h : x ≤ 9223372036854775807) : burnLeft x ≤ 9223372036854775807 := by unfold burnLeft; split <;> omega

/-- The first cells of a disk. -/
theorem DkW.c0 {w : World} {h : Wh} {no nf : Nat} {d : Dk} (hd : DkW w h no nf d) : w.cell? ⟨h.B, 0, none⟩ = some (.pointer (some ⟨h.F, 0, none⟩)) := bl_cell hd.b 0 _ rfl

theorem DkW.c1 {w : World} {h : Wh} {no nf : Nat} {d : Dk} (hd : DkW w h no nf d) : w.cell? ⟨h.B, 1, none⟩ = some (.pointer (some ⟨h.L, 0, none⟩)) := bl_cell hd.b 1 _ rfl

theorem DkW.c2 {w : World} {h : Wh} {no nf : Nat} {d : Dk} (hd : DkW w h no nf d) : w.cell? ⟨h.B, 2, none⟩ = some (.pointer (some ⟨h.P, 0, none⟩)) := bl_cell hd.b 2 _ rfl

theorem DkW.later {w w' : World} {h : Wh} {no nf : Nat} {d : Dk} (hd : DkW w h no nf d) (hb : Below w.heap.size w w') : DkW w' h no nf d := hd.kept (fun k hk => hb.block k (hd.lt hk))

theorem New_bad (most pages : Int) (hbad : ¬ (1 ≤ most ∧ most ≤ 16777216 ∧ 0 ≤ pages ∧ pages ≤ 65536)) (w : World) :
    Calls Try.prog 4 #[.int .i64 most, .int .i64 pages] w fun e w' => e = .returned (.tuple #[.pointer none, .int .i64 1]) ∧ w' = w := by
  by_cases h1 : most < 1
  · go_enter Try.func4, Try.ntmps4
    go_wp2
    go_ret2
    exact ⟨rfl, rfl⟩
  · by_cases h2 : 16777216 < most
    · go_enter Try.func4, Try.ntmps4
      go_wp2
      go_ret2
      exact ⟨rfl, rfl⟩
    · by_cases h3 : pages < 0
      · go_enter Try.func4, Try.ntmps4
        go_wp2
        go_ret2
        exact ⟨rfl, rfl⟩
      · have h4 : 65536 < pages := by omega
        clear hbad
        go_enter Try.func4, Try.ntmps4
        go_wp2
        go_ret2
        exact ⟨rfl, rfl⟩

theorem New_good (most pages : Int) (h1 : 1 ≤ most) (h2 : most ≤ 16777216) (h3 : 0 ≤ pages) (h4 : pages ≤ 65536) (w : World) :
    Calls Try.prog 4 #[.int .i64 most, .int .i64 pages] w fun e w' => ∃ h : Wh, e = .returned (.tuple #[.pointer (some ⟨h.B, 0, none⟩), .int .i64 0]) ∧ DkW w' h 0 0 ⟨⟨most, 0, [], 0⟩, pages, none', none', false, -1⟩ ∧ (∀ k, h.has k → w.heap.size ≤ k) ∧ Below w.heap.size w w' := by
  have CF := newFuse_any w
  have k1 : ¬ most < 1 := by omega
  have k2 : ¬ 16777216 < most := by omega
  have k3 : ¬ pages < 0 := by omega
  have k4 : ¬ 65536 < pages := by omega
  have HB : Hid (1 ≤ most ∧ most ≤ 16777216 ∧ 0 ≤ pages ∧ pages ≤ 65536) := ⟨h1, h2, h3, h4⟩
  clear h1 h2 h3 h4
  go_enter Try.func4, Try.ntmps4
  go_wp2_with fail
  refine CF.mono ?_
  rintro e w1 ⟨rfl, hz, b1⟩
  have CL := newLog_any most HB.out.1 HB.out.2.1 w1
  clear CF
  go_wp2_with fail
  refine CL.mono ?_
  rintro e w2 ⟨rfl, hl, b2⟩
  have CP := newPages_any pages w2
  clear CL
  go_wp2_with fail
  refine CP.mono ?_
  rintro e w3 ⟨P, rfl, ⟨mo, mf, hp, hmo, hmf⟩, hP, b3⟩
  clear CP
  go_wp2
  go_ret2
  have s1 : w.heap.size ≤ w1.heap.size := b1.size
  have s2 : w1.heap.size ≤ w2.heap.size := b2.size
  have s3 : w2.heap.size ≤ w3.heap.size := b3.size
  have hz1 := bl_lt hz
  have hl2 : w1.heap.size < w2.heap.size := by obtain ⟨_, sv, q, _⟩ := hl; exact bl_lt q
  have bx : ∀ o, Below w3.heap.size w3 (w3.alloc o) := fun o => (Below.refl _ _).alloc (Nat.le_refl _) _
  refine ⟨⟨w3.heap.size, w.heap.size, w1.heap.size, P, mo, mf, none⟩, rfl, ⟨heap_alloc_new w3 _, ?_, ?_, ?_, ?_⟩, ?_, ?_⟩
  · unfold Fz
    dsimp only
    rw [(bx _).block _ (by omega), b3.block _ (by omega), b2.block _ hz1]
    exact hz
  · exact (hl.kept (w' := w3) (b3.block _ hl2) (fun b e => by cases e)).kept ((bx _).block _ (by omega)) (fun b e => by cases e)
  · exact hp.kept ((bx _).block _ (bl_lt hp.b)) ((bx _).block _ hp.o.lt) ((bx _).block _ hp.f.lt)
  · show (-1 : Int) ≤ 9223372036854775807
    omega
  · intro k hk
    rcases hk with e | e | e | e | e | e | e <;> dsimp only at e
    · omega
    · omega
    · omega
    · omega
    · omega
    · omega
    · cases e
  · exact ((b1.trans (b2.mono s1)).trans (b3.mono (by omega))).alloc (by omega) _

def Dk.app (d : Dk) (xs : List UInt8) : Int × Int × Dk :=
  if d.off = true then (0, 9, d) else if ¬ ((d.lo.bytes.length : Int) + xs.length ≤ d.lo.most) then (0, 7, d) else if d.left = 0 then (0, 9, d.burnt) else (d.lo.fin, 0, { d.burnt with lo := { d.lo with bytes := d.lo.bytes ++ xs } })

set_option maxHeartbeats 1000000 in
theorem append_any (h : Wh) (no nf : Nat) (d : Dk) (w : World) (hd : DkW w h no nf d) (ao : Option Addr) (m cap : Nat) (xs : List UInt8) (hr : Rd w ao m cap xs) (hm : m ≤ 9223372036837998591) (hS : 0 < m → ∀ b off, ao = some ⟨b, off, none⟩ → ¬ h.has b) :
    Calls Try.prog 12 #[.pointer (some ⟨h.B, 0, none⟩), .slice ao m cap] w fun e w' => e = .returned (.tuple #[.int .i64 (d.app xs).1, .int .i64 (d.app xs).2.1]) ∧ ∃ g', DkW w' { h with g := g' } no nf (d.app xs).2.2 ∧ Chg h.has w w' ∧ (g' = h.g ∨ ∃ b, g' = some b ∧ w.heap.size ≤ b) := by
  have CF := fault_any h no nf d w hd
  have hxl := hr.1
  by_cases hoff : d.off = true
  · have e0 : d.app xs = (0, 9, d) := if_pos hoff
    rw [e0]
    rw [if_pos hoff] at CF
    have FIN : Hid (DkW w h no nf d) := hd
    clear hd hr hS hoff e0 hxl
    go_enter Try.func12, Try.ntmps12
    go_wp2_with (go_at_call 34; refine CF.mono ?_; rintro e w' ⟨rfl, hw⟩; obtain rfl : w = w' := hw.symm)
    go_ret2
    exact ⟨rfl, h.g, FIN.out, Chg.refl _ _, .inl rfl⟩
  · rw [if_neg hoff] at CF
    have CH := hasRoom_any h.L h.g d.lo m hm w hd.l
    have c0 := hd.c0
    have c1 := hd.c1
    by_cases hroom : (d.lo.bytes.length : Int) + xs.length ≤ d.lo.most
    · rw [decide_eq_true (by rw [← hxl]; exact hroom)] at CH
      have CB := fun W (hz : Fz W h.F d.off d.left) => burn_any h.F d.off d.left W hz hd.lf
      have HD : Hid (DkW w h no nf d) := hd
      have HR : Hid (Rd w ao m cap xs) := hr
      have HS : Hid (0 < m → ∀ b off, ao = some ⟨b, off, none⟩ → ¬ h.has b) := hS
      have HOF : Hid (¬ d.off = true) := hoff
      have HRO : Hid ((d.lo.bytes.length : Int) + xs.length ≤ d.lo.most) := hroom
      have hF : Fz w h.F d.off d.left := hd.z
      by_cases hl : d.left = 0
      · have e0 : d.app xs = (0, 9, d.burnt) := by unfold Dk.app; rw [if_neg HOF.out, if_neg (fun h => h HRO.out), if_pos hl]
        rw [e0]
        clear hd hr hS hoff hxl hroom e0
        go_enter Try.func12, Try.ntmps12
        go_wp2_with (go_at_call 34; refine CF.mono ?_; rintro e w' ⟨rfl, hw⟩; obtain rfl : w = w' := hw.symm)
        refine CH.mono ?_
        rintro e w2 ⟨rfl, b2⟩
        have hd2 := HD.out.later b2
        have hr2 := HR.out.later b2
        have CB2 := CB w2 hd2.z
        have k0 := hd2.c0
        clear CF CH CB c0 c1 hF
        have eb : decide (d.left ≠ 0) = false := by simp [hl]
        rw [eb] at CB2
        clear eb
        have HD2 : Hid (DkW w2 h no nf d) := hd2
        clear hd2 hr2 hl
        go_wp2_with (go_at_call 36; refine CB2.mono ?_; rintro e w3 ⟨rfl, hz3, hC3⟩)
        go_ret2
        exact ⟨rfl, h.g, HD2.out.setF hz3 hC3 (burnLeft_le HD2.out.lf), (chg_of_below b2).trans hC3 (fun _ _ e => e) (fun k _ e => .inr (.inl e)), .inl rfl⟩
      · have e0 : d.app xs = (d.lo.fin, 0, { d.burnt with lo := { d.lo with bytes := d.lo.bytes ++ xs } }) := by unfold Dk.app; rw [if_neg HOF.out, if_neg (fun h => h HRO.out), if_neg hl]
        rw [e0]
        clear hd hr hS hoff hxl hroom e0
        go_enter Try.func12, Try.ntmps12
        go_wp2_with (go_at_call 34; refine CF.mono ?_; rintro e w' ⟨rfl, hw⟩; obtain rfl : w = w' := hw.symm)
        refine CH.mono ?_
        rintro e w2 ⟨rfl, b2⟩
        have hd2 := HD.out.later b2
        have hr2 := HR.out.later b2
        have CB2 := CB w2 hd2.z
        have k0 := hd2.c0
        clear CF CH CB c0 c1 hF
        have eb : decide (d.left ≠ 0) = true := by simp [hl]
        rw [eb] at CB2
        clear eb
        have HD2 : Hid (DkW w2 h no nf d) := hd2
        have HR2 : Hid (Rd w2 ao m cap xs) := hr2
        clear hd2 hr2 hl
        go_wp2_with fail
        refine CB2.mono ?_
        rintro e w3 ⟨rfl, hz3, hC3⟩
        have hd3 := HD2.out.setF hz3 hC3 (burnLeft_le HD2.out.lf)
        have hr3 := HR2.out.chg hC3 (fun hm b off e he => HS.out hm b off e (.inr (.inl he)))
        have CE := end_any h.L h.g d.lo w3 hd3.l
        have k1 := hd3.c1
        have HD3 : Hid (DkW w3 h no nf d.burnt) := hd3
        have HR3 : Hid (Rd w3 ao m cap xs) := hr3
        have HC3 : Hid (Chg h.has w w3) := (chg_of_below b2).trans hC3 (fun _ _ e => e) (fun k _ e => .inr (.inl e))
        clear CB2 hz3 hC3 hd3 hr3 b2 k0
        go_wp2_with fail
        refine CE.mono ?_
        rintro e w4 ⟨rfl, b4⟩
        have hd4 := HD3.out.later b4
        have hr4 := HR3.out.later b4
        have CA := add_any h.L h.g d.lo _ xs w4 hd4.l ao m cap rfl hr4 HRO.out
        have k1' := hd4.c1
        have HD4 : Hid (DkW w4 h no nf d.burnt) := hd4
        have HB4 : Hid (Below w3.heap.size w3 w4 ∧ w.heap.size ≤ w4.heap.size) := ⟨b4, Nat.le_trans HC3.out.size b4.size⟩
        clear CE hd4 hr4 b4 k1
        go_wp2_with fail
        refine CA.mono ?_
        rintro e w5 ⟨⟨v5, rfl⟩, g', hl5, hC5, hg5⟩
        go_wp2
        go_ret2
        exact ⟨rfl, g', HD4.out.setL hl5 hC5, (HC3.out.trans (T := h.has) (chg_of_below (S := fun _ => False) HB4.out.1) (fun _ _ e => e) (fun _ _ e => e.elim)).trans hC5 (fun _ _ e => e) (fun k _ e => e.elim (fun e => .inr (.inr (.inl e))) (fun e => .inr (.inr (.inr (.inr (.inr (.inr e))))))), hg5.elim .inl (fun e => .inr ⟨_, e, HB4.out.2⟩)⟩
    · have e0 : d.app xs = (0, 7, d) := by unfold Dk.app; rw [if_neg hoff, if_pos hroom]
      rw [e0]
      rw [decide_eq_false (by rw [← hxl]; exact hroom)] at CH
      have FIN : Hid (DkW w h no nf d) := hd
      clear hd hr hS hoff e0 hxl hroom
      go_enter Try.func12, Try.ntmps12
      go_wp2_with (first | (go_at_call 34; refine CF.mono ?_; rintro e w' ⟨rfl, hw⟩; obtain rfl : w = w' := hw.symm) | (go_at_call 35; refine CH.mono ?_; rintro e w2 ⟨rfl, b2⟩))
      go_ret2
      exact ⟨rfl, h.g, FIN.out.later b2, chg_of_below b2, .inl rfl⟩
end Go.Proofs.Ytecgjfghofpjcaa
