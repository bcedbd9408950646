/-
  The walk of PageSteps: each step on any bytes is as the document says.
-/
import Derived.Test.YtaghbkjjindjfaaDoorPgLt
namespace Go.Proofs.YtaghbkjjindjfaaDoor
open Go.RowKit

theorem Leaves.rd {w : World} {base : Nat} {v : Value} {o : Option (List Slt)} (h : Leaves w base v o) (hf : ∀ l, o = some l → fits l) : ∃ a c, v = .slice a (outB o).length c ∧ Rd w a (outB o).length c (outB o) := by
  cases o with
  | none => exact ⟨none, 0, h, Rd.nil _⟩
  | some l =>
    obtain ⟨g, rfl, -, hp⟩ := h
    have hl := pageL_len l (hf l rfl)
    refine ⟨some ⟨g, 0, none⟩, 512, ?_, ?_⟩
    · show _ = Value.slice _ (pageL l).length _
      rw [hl]
    · show Rd _ _ (pageL l).length _ (pageL l)
      rw [hl]
      exact hp.page (hf l rfl)
theorem fits_insP {o : Option (List Slt)} {r : List UInt8} {l : List Slt} (h : insP o r = some l) : fits l := by
  cases o with
  | none => cases h
  | some m =>
    have h : (if fits (insL m r) then some (insL m r) else none) = some l := h
    by_cases hf : fits (insL m r)
    · rw [if_pos hf] at h; cases h; exact hf
    · rw [if_neg hf] at h; cases h
theorem fits_updP {o : Option (List Slt)} {slot : Int} {r : List UInt8} {l : List Slt} (h : updP o slot r = some l) : fits l := by
  cases o with
  | none => cases h
  | some m =>
    have h : (if (getS (some m) slot).isSome ∧ fits (m.set slot.toNat (some r)) then some (m.set slot.toNat (some r)) else none) = some l := h
    by_cases hf : (getS (some m) slot).isSome ∧ fits (m.set slot.toNat (some r))
    · rw [if_pos hf] at h; cases h; exact hf.2
    · rw [if_neg hf] at h; cases h

theorem rupdate_any (ao : Option Addr) (n cap : Nat) (bs : List UInt8) (slot : Int) (ro : Option Addr) (m rcap : Nat) (r : List UInt8) (w : World) (hR : Rd w ao n cap bs) (hr : Rd w ro m rcap r) (hm : m ≤ 140737488355328) :
    Calls Tryd.prog 21 #[.slice ao n cap, .int .i64 slot, .slice ro m rcap] w fun e w' => (∃ ag cg, e = .returned (.tuple #[.slice ag (outB (updP (pg bs) slot r)).length cg, .int .i64 (updE (pg bs) slot r)]) ∧ Rd w' ag (outB (updP (pg bs) slot r)).length cg (outB (updP (pg bs) slot r))) ∧ Below w.heap.size w w' := by
  by_cases hE : tkE (pg bs) slot = 0
  · obtain ⟨l, hp⟩ : ∃ l, pg bs = some l := by
      cases h : pg bs with
      | none => rw [h] at hE; cases hE
      | some l => exact ⟨l, rfl⟩
    have hE2 := hE
    rw [hp, tkE_some] at hE2
    obtain ⟨r0, hg⟩ : ∃ r0, getS (some l) slot = some r0 := by
      cases h : getS (some l) slot with
      | none => rw [h] at hE2; cases hE2
      | some r0 => exact ⟨r0, rfl⟩
    obtain ⟨k, rfl, hk, hlk⟩ := getS_some hg
    refine (rupdate_good ao n cap bs l k r0 ro m rcap r w hR hr hm hp hk hlk).mono ?_
    rintro e w' ⟨⟨ag, cg, rfl, hR'⟩, hb⟩
    have e1 : updE (pg bs) (k : Int) r = if fits (l.set k (some r)) then 0 else 7 := by
      rw [hp]
      show (if _ then _ else _) = _
      rw [if_pos (by rw [hg]; rfl), Int.toNat_natCast]
    have e2 : outB (updP (pg bs) (k : Int) r) = if fits (l.set k (some r)) then pageL (l.set k (some r)) else [] := by
      rw [hp]
      show outB (if _ then _ else _) = _
      rw [hg, Int.toNat_natCast]
      by_cases hf : fits (l.set k (some r))
      · rw [if_pos ⟨rfl, hf⟩, if_pos hf]; rfl
      · rw [if_neg (fun h => hf h.2), if_neg hf]; rfl
    rw [e1, e2]
    exact ⟨⟨ag, cg, rfl, hR'⟩, hb⟩
  · refine (rupdate_bad ao n cap bs slot ro m rcap w hR hE).mono ?_
    rintro e w' ⟨rfl, hb⟩
    have e1 : updE (pg bs) slot r = tkE (pg bs) slot := by
      cases h : pg bs with
      | none => rfl
      | some l =>
        rw [h, tkE_some] at hE
        show (if _ then _ else _) = _
        rw [tkE_some]
        cases hg : getS (some l) slot with
        | none => rfl
        | some r0 => rw [hg] at hE; exact absurd rfl hE
    have e2 : updP (pg bs) slot r = none := by
      cases h : pg bs with
      | none => rfl
      | some l =>
        rw [h, tkE_some] at hE
        refine if_neg (fun hh => hE ?_)
        rw [if_pos hh.1]
    rw [e1, e2]
    exact ⟨⟨none, 0, rfl, Rd.nil _⟩, hb⟩
/-- What both Deletes leave. -/
def DelB (o : Option (List Slt)) (slot : Int) (x : List UInt8) : Prop :=
  if tkE o slot = 0 then ∃ (l : List Slt) (k : Nat) (l2 : List Slt), o = some l ∧ slot = (k : Int) ∧ Strips (l.set k none) l2 ∧ x = pageL l2 else x = []
theorem DelB.one {o : Option (List Slt)} {slot : Int} {x y : List UInt8} (h1 : DelB o slot x) (h2 : DelB o slot y) : x = y := by
  unfold DelB at *
  split at h1
  · rename_i hc
    rw [if_pos hc] at h2
    obtain ⟨l, k, l2, rfl, rfl, hs, rfl⟩ := h1
    obtain ⟨l', k', l2', e1, e2, hs', rfl⟩ := h2
    cases e1
    have : k = k' := by omega
    subst this
    rw [strips_one hs hs']
  · rename_i hc
    rw [if_neg hc] at h2
    rw [h1, h2]
theorem rdelete_any (ao : Option Addr) (n cap : Nat) (bs : List UInt8) (slot : Int) (w : World) (hR : Rd w ao n cap bs) :
    Calls Tryd.prog 23 #[.slice ao n cap, .int .i64 slot] w fun e w' => (∃ ag cg x, e = .returned (.tuple #[.slice ag x.length cg, .int .i64 (tkE (pg bs) slot)]) ∧ DelB (pg bs) slot x ∧ Rd w' ag x.length cg x) ∧ Below w.heap.size w w' := by
  by_cases hE : tkE (pg bs) slot = 0
  · obtain ⟨l, hp⟩ : ∃ l, pg bs = some l := by
      cases h : pg bs with
      | none => rw [h] at hE; cases hE
      | some l => exact ⟨l, rfl⟩
    have hE2 := hE
    rw [hp, tkE_some] at hE2
    obtain ⟨r0, hg⟩ : ∃ r0, getS (some l) slot = some r0 := by
      cases h : getS (some l) slot with
      | none => rw [h] at hE2; cases hE2
      | some r0 => exact ⟨r0, rfl⟩
    obtain ⟨k, rfl, hk, hlk⟩ := getS_some hg
    refine (rdelete_good ao n cap bs l k r0 w hR hp hk hlk).mono ?_
    rintro e w' ⟨⟨ag, cg, l2, rfl, hs, hR'⟩, hb⟩
    rw [hE]
    exact ⟨⟨ag, cg, pageL l2, rfl, by unfold DelB; rw [if_pos hE]; exact ⟨l, k, l2, hp, rfl, hs, rfl⟩, hR'⟩, hb⟩
  · refine (rdelete_bad ao n cap bs slot w hR hE).mono ?_
    rintro e w' ⟨rfl, hb⟩
    exact ⟨⟨none, 0, [], rfl, by unfold DelB; rw [if_neg hE], Rd.nil _⟩, hb⟩
theorem delete_any (ao : Option Addr) (n cap : Nat) (bs : List UInt8) (slot : Int) (w : World) (hT : Tab w) (hR : Rd w ao n cap bs) :
    Calls Tryd.prog 22 #[.slice ao n cap, .int .i64 slot] w fun e w' => (∃ ag cg x, e = .returned (.tuple #[.slice ag x.length cg, .int .i64 (tkE (pg bs) slot)]) ∧ DelB (pg bs) slot x ∧ Rd w' ag x.length cg x) ∧ Below w.heap.size w w' := by
  by_cases hE : tkE (pg bs) slot = 0
  · obtain ⟨l, hp⟩ : ∃ l, pg bs = some l := by
      cases h : pg bs with
      | none => rw [h] at hE; cases hE
      | some l => exact ⟨l, rfl⟩
    have hE2 := hE
    rw [hp, tkE_some] at hE2
    obtain ⟨r0, hg⟩ : ∃ r0, getS (some l) slot = some r0 := by
      cases h : getS (some l) slot with
      | none => rw [h] at hE2; cases hE2
      | some r0 => exact ⟨r0, rfl⟩
    obtain ⟨k, rfl, hk, hlk⟩ := getS_some hg
    have hff : fits (l.set k none) := by
      have h0 := used_set_none l k
      have h1 := (pg_some hp).2.1
      unfold fits at *
      rw [List.length_set]
      omega
    refine (delete_good ao n cap bs l k r0 w hT hR hp hk hlk).mono ?_
    rintro e w' ⟨⟨v, l2, rfl, hs, hL⟩, hb⟩
    obtain ⟨a, c, rfl, hR'⟩ := hL.rd (fun m hm => by cases hm; exact hs.fits hff)
    rw [hE]
    exact ⟨⟨a, c, pageL l2, rfl, by unfold DelB; rw [if_pos hE]; exact ⟨l, k, l2, hp, rfl, hs, rfl⟩, hR'⟩, hb⟩
  · refine (delete_bad ao n cap bs slot w hT hR hE).mono ?_
    rintro e w' ⟨rfl, hb⟩
    exact ⟨⟨none, 0, [], rfl, by unfold DelB; rw [if_neg hE], Rd.nil _⟩, hb⟩

theorem str_q {W : World} {a : Option Addr} {n c : Nat} {bs : List UInt8} (h : Rd W a n c bs) : (convert 22 9 (.slice a n c)).run Tryd.prog W = .ok (.string ⟨bs.toArray⟩) W :=
  run_string_of (P := Tryd.prog) 22 9 5 Tryd.underlying22 Tryd.underlying5 Tryd.underlying9 h

set_option maxRecDepth 20000 in
set_option maxHeartbeats 4000000 in
theorem steps_all (ao : Option Addr) (n cap : Nat) (bs : List UInt8) (ro : Option Addr) (m rcap : Nat) (r : List UInt8) (slot : Int) (w : World) (hT : Tab w) (hR : Rd w ao n cap bs) (hr : Rd w ro m rcap r) (hl : n ≤ 140737488351232) (hm : m ≤ 140737488351232) :
    Calls Tryd.prog 4 #[.slice ao n cap, .slice ro m rcap, .int .i64 slot] w fun e w' => e = .returned (.bool true) ∧ Below w.heap.size w w' := by
  have hnl := hR.1
  have hml := hr.1
  have HN : Hid (bs.length = n) := hnl
  have HM : Hid (r.length = m) := hml
  clear hnl hml
  go_enter Tryd.func4, Tryd.ntmps4
  go_wp2_with fail
  refine (lent_any ao n cap bs w hR hl).mono ?_
  rintro e w1 ⟨g1, c1, rfl, hg1, M1, B⟩
  have A1 := hR.later B
  have A2 := hr.later B
  go_wp2_with fail
  refine (lent_any ro m rcap r w1 A2 hm).mono ?_
  rintro e w2 ⟨g2, c2, rfl, hg2, M2, b2⟩
  have A1 := A1.later b2
  have A2 := A2.later b2
  have M1 := M1.later b2
  have B := B.trans (b2.mono B.size)
  have P1 : Rd w2 (some ⟨g1, 0, none⟩) n c1 bs := by have := M1.rd; rw [HN.out] at this; exact this
  have P2 : Rd w2 (some ⟨g2, 0, none⟩) m c2 r := by have := M2.rd; rw [HM.out] at this; exact this
  go_wp2_with fail
  refine (insert_any _ n c1 bs _ m c2 r w2 (hT.later B hT.pos) P1 P2 (by omega)).mono ?_
  rintro e w3 ⟨v3, rfl, L3, b3⟩
  obtain ⟨a3, c3, rfl, R3⟩ := L3.rd (fun l h => fits_insP h)
  have A1 := A1.later b3
  have A2 := A2.later b3
  have M1 := M1.later b3
  have M2 := M2.later b3
  have P1 := P1.later b3
  have P2 := P2.later b3
  have B := B.trans (b3.mono B.size)
  go_wp2_with fail
  refine (rinsert_any _ n cap bs _ m rcap r w3 A1 A2 (by omega)).mono ?_
  rintro e w4 ⟨⟨a4, c4, rfl, R4⟩, b4⟩
  have A1 := A1.later b4
  have A2 := A2.later b4
  have M1 := M1.later b4
  have M2 := M2.later b4
  have P1 := P1.later b4
  have P2 := P2.later b4
  have R3 := R3.later b4
  have B := B.trans (b4.mono B.size)
  go_wp2_with fail
  refine (update_any _ n c1 bs slot _ m c2 r w4 (hT.later B hT.pos) P1 P2 (by omega)).mono ?_
  rintro e w5 ⟨v5, rfl, L5, b5⟩
  obtain ⟨a5, c5, rfl, R5⟩ := L5.rd (fun l h => fits_updP h)
  have A1 := A1.later b5
  have A2 := A2.later b5
  have M1 := M1.later b5
  have M2 := M2.later b5
  have P1 := P1.later b5
  have P2 := P2.later b5
  have R3 := R3.later b5
  have R4 := R4.later b5
  have B := B.trans (b5.mono B.size)
  go_wp2_with fail
  refine (rupdate_any _ n cap bs slot _ m rcap r w5 A1 A2 (by omega)).mono ?_
  rintro e w6 ⟨⟨a6, c6, rfl, R6⟩, b6⟩
  have A1 := A1.later b6
  have A2 := A2.later b6
  have M1 := M1.later b6
  have M2 := M2.later b6
  have P1 := P1.later b6
  have P2 := P2.later b6
  have R3 := R3.later b6
  have R4 := R4.later b6
  have R5 := R5.later b6
  have B := B.trans (b6.mono B.size)
  go_wp2_with fail
  refine (delete_any _ n c1 bs slot w6 (hT.later B hT.pos) P1).mono ?_
  rintro e w7 ⟨⟨a7, c7, x7, rfl, D7, R7⟩, b7⟩
  have A1 := A1.later b7
  have A2 := A2.later b7
  have M1 := M1.later b7
  have M2 := M2.later b7
  have P1 := P1.later b7
  have P2 := P2.later b7
  have R3 := R3.later b7
  have R4 := R4.later b7
  have R5 := R5.later b7
  have R6 := R6.later b7
  have B := B.trans (b7.mono B.size)
  go_wp2_with fail
  refine (rdelete_any _ n cap bs slot w7 A1).mono ?_
  rintro e w8 ⟨⟨a8, c8, x8, rfl, D8, R8⟩, b8⟩
  have A1 := A1.later b8
  have A2 := A2.later b8
  have M1 := M1.later b8
  have M2 := M2.later b8
  have P1 := P1.later b8
  have P2 := P2.later b8
  have R3 := R3.later b8
  have R4 := R4.later b8
  have R5 := R5.later b8
  have R6 := R6.later b8
  have R7 := R7.later b8
  have B := B.trans (b8.mono B.size)
  obtain rfl := D7.one D8
  have q3 := str_q R3
  have q4 := str_q R4
  have q5 := str_q R5
  have q6 := str_q R6
  have q7 := str_q R7
  have q8 := str_q R8
  have S1 := fun W (h : Below w8.heap.size w8 W) => stays_any g1 c1 n ao cap bs W (M1.later h) (A1.later h)
  have S2 := fun W (h : Below w8.heap.size w8 W) => stays_any g2 c2 m ro rcap r W (M2.later h) (A2.later h)
  have K := fun W (h : Below w8.heap.size w8 W) => knows_any W ((hT.later B hT.pos).later h (hT.later B hT.pos).pos)
  generalize outB (insP (pg bs) r) = o3 at *
  generalize outB (updP (pg bs) slot r) = o5 at *
  generalize insE (pg bs) r = e3 at *
  generalize updE (pg bs) slot r = e5 at *
  generalize tkE (pg bs) slot = e7 at *
  generalize (insK (pg bs) r : Int) = k3 at *
  clear D7 D8 R3 R4 R5 R6 R7 R8 P1 P2 M1 M2 A1 A2 hR hr hT
  have HB : Hid (Below w.heap.size w w8) := B
  clear B
  go_wp2_with (go_at_call 24; refine (num_any _ _).mono ?_; rintro e w' ⟨rfl, rfl⟩)
  refine (S1 w8 (Below.refl _ _)).mono ?_
  rintro e w9 ⟨rfl, nq, rfl⟩
  have D1 := below_drewN (Below.refl w8.heap.size w8) nq
  go_wp2_with fail
  refine (S2 _ D1).mono ?_
  rintro e w10 ⟨rfl, nq2, rfl⟩
  have D2 := below_drewN (Below.refl w8.heap.size w8) (nq + nq2)
  go_wp2_with fail
  refine (K _ D2).mono ?_
  rintro e w11 ⟨rfl, b11⟩
  have D3 := HB.out.trans ((D2.trans b11).mono HB.out.size)
  go_wp2
  go_ret
  exact ⟨rfl, D3⟩
end Go.Proofs.YtaghbkjjindjfaaDoor
