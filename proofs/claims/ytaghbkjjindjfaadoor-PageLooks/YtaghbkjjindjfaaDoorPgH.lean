/-
  The contracts of the document's Right, Slots, Room, New, Get.
-/
import Derived.Test.YtaghbkjjindjfaaDoorPgE
import Derived.Test.YtaghbkjjindjfaaDoorPgK
namespace Go.Proofs.YtaghbkjjindjfaaDoor
open Go.RowKit

theorem rread_any (ao : Option Addr) (n cap : Nat) (bs : List UInt8) (w : World) (hR : Rd w ao n cap bs) :
    Calls Tryd.prog 27 #[.slice ao n cap] w fun e w' => ∃ v, e = .returned (.tuple #[v, .bool (pg bs).isSome]) ∧ Below w.heap.size w w' ∧ ∃ cs, RL w.heap.size w w' v cs ((pg bs).getD []) := by
  by_cases hn : n = 512
  · subst hn
    obtain ⟨b, off, rfl, _⟩ := hR.2.2.2.2 (by omega)
    refine (rread_page b off cap bs w hR.2.1 hR.2.2.1 hR).mono ?_
    rintro e w' ⟨v, rfl, hb, h1, h2⟩
    refine ⟨v, rfl, hb, ?_⟩
    cases hp : pg bs with
    | none =>
      obtain rfl := h1 hp
      exact ⟨[], World.ownsRow_nil _ _ _ _, ⟨rfl, fun i h => by simp at h⟩, hb, hb.size⟩
    | some l => exact h2 l hp
  · have hl := hR.1
    have hm : n ≤ 9223372036854775807 := by have h1 := hR.2.1; have h2 := hR.2.2.1; unfold maxLen at h2; omega
    have hp : pg bs = none := by unfold pg; rw [if_neg (fun h => hn (hl.symm.trans h.1))]
    rw [hp]
    refine (rread_short ao n cap w hn hm).mono ?_
    rintro e w' ⟨rfl, rfl⟩
    exact ⟨_, rfl, Below.refl _ _, [], World.ownsRow_nil _ _ _ _, ⟨rfl, fun i h => by simp at h⟩, Below.refl _ _, Nat.le_refl _⟩
/-- What the row of slots is, with its length. -/
theorem RL.slice {N : Nat} {w0 w : World} {v : Value} {cs : List Cn} {l : List Slt} (h : RL N w0 w v cs l) : ∃ ao cap, v = .slice ao l.length cap ∧ l.length ≤ cap ∧ cap ≤ maxLen ∧ Bw w ao cs ∧ cs.length = l.length := by
  obtain ⟨ao, cap, rfl, h1, h2, h3⟩ := h.o.bw
  have := h.r.1
  exact ⟨ao, cap, by rw [this], by omega, h2, h3, this⟩

set_option maxHeartbeats 1000000 in
theorem rright_any (ao : Option Addr) (n cap : Nat) (bs : List UInt8) (w : World) (hR : Rd w ao n cap bs) :
    Calls Tryd.prog 9 #[.slice ao n cap] w fun e w' => e = .returned (.bool (pg bs).isSome) ∧ Below w.heap.size w w' := by
  have C := rread_any ao n cap bs w hR
  clear hR
  generalize pg bs = o at *
  go_enter Tryd.func9, Tryd.ntmps9
  go_wp2_with (go_at_call 27; refine C.mono ?_; rintro e w' ⟨v, rfl, b1, cs, hv⟩; obtain ⟨va, vc, rfl, -⟩ := hv.slice)
  go_ret
  exact ⟨rfl, b1⟩

set_option maxHeartbeats 1000000 in
theorem rslots_any (ao : Option Addr) (n cap : Nat) (bs : List UInt8) (w : World) (hR : Rd w ao n cap bs) :
    Calls Tryd.prog 11 #[.slice ao n cap] w fun e w' => e = .returned (.int .i64 (((pg bs).getD []).length : Int)) ∧ Below w.heap.size w w' := by
  have C := rread_any ao n cap bs w hR
  clear hR
  generalize pg bs = o at *
  go_enter Tryd.func11, Tryd.ntmps11
  go_wp2_with (go_at_call 27; refine C.mono ?_; rintro e w' ⟨v, rfl, b1, cs, hv⟩; obtain ⟨va, vc, rfl, -⟩ := hv.slice)
  go_ret
  exact ⟨rfl, b1⟩

set_option maxHeartbeats 1000000 in
theorem rroomN_any (ao : Option Addr) (n cap : Nat) (bs : List UInt8) (w : World) (hR : Rd w ao n cap bs) :
    Calls Tryd.prog 13 #[.slice ao n cap] w fun e w' => e = .returned (.int .i64 (roomP (pg bs))) ∧ Below w.heap.size w w' := by
  have C := rread_any ao n cap bs w hR
  clear hR
  have hf : ∀ l, pg bs = some l → fits l := fun l h => (pg_some h).2.1
  generalize pg bs = o at *
  cases o with
  | none =>
    go_enter Tryd.func13, Tryd.ntmps13
    go_wp2_with (go_at_call 27; refine C.mono ?_; rintro e w' ⟨v, rfl, b1, cs, hv⟩; obtain ⟨va, vc, rfl, -⟩ := hv.slice)
    go_ret
    exact ⟨rfl, b1⟩
  | some l =>
    have hfl := hf l rfl
    unfold fits at hfl
    clear hf
    go_enter Tryd.func13, Tryd.ntmps13
    go_wp2_with fail
    refine C.mono ?_
    rintro e w' ⟨v, rfl, b1, cs, hv⟩
    obtain ⟨va, vc, rfl, h1, h2, h3, hl⟩ := hv.slice
    have hu := hv.r.csr.used
    have CR := rroom_any va vc cs w' h3 (by rw [hl]; simp at hfl ⊢; omega) (by rw [hu]; simp at hfl ⊢; omega)
    rw [hl, hu] at CR
    simp only [Option.getD_some] at CR
    clear C hl hu hfl
    go_wp2_with fail
    refine CR.mono ?_
    rintro e w2 ⟨rfl, rfl⟩
    go_wp2
    go_ret
    exact ⟨rfl, b1⟩

theorem strips_nil {l2 : List Slt} (h : Strips [] l2) : l2 = [] := by
  obtain ⟨k, hk, rfl, -, -⟩ := h
  simp

set_option maxHeartbeats 1000000 in
theorem rnew_any (w : World) :
    Calls Tryd.prog 15 #[] w fun e w' => ∃ ag cg, e = .returned (.slice ag (pageL []).length cg) ∧ Rd w' ag (pageL []).length cg (pageL []) ∧ Below w.heap.size w w' := by
  have C := rwrite_any none 0 [] [] w (fun h => by simp at h) ⟨rfl, fun i h => by simp at h⟩ (Nat.le_refl _) (Nat.zero_le _) (by decide)
  go_enter Tryd.func15, Tryd.ntmps15
  go_wp2_with fail
  refine C.mono ?_
  rintro e w' ⟨v, l2, rfl, hs, ho, b1⟩
  obtain rfl := strips_nil hs
  obtain ⟨ag, cg, rfl, hr, -⟩ := ho.rd
  clear C ho hs
  go_wp2
  go_ret
  exact ⟨ag, cg, rfl, hr, b1⟩

theorem getS_neg (o : Option (List Slt)) {slot : Int} (h : slot < 0) : getS o slot = none := by unfold getS; rw [if_neg (by omega)]
theorem getS_big (o : Option (List Slt)) {slot : Int} (h : ((o.getD []).length : Int) ≤ slot) : getS o slot = none := by
  unfold getS
  split
  · rw [List.getElem?_eq_none (by omega)]; rfl
  · rfl
theorem getS_at2 (o : Option (List Slt)) {k : Nat} (h : k < (o.getD []).length) : getS o (k : Int) = (o.getD [])[k] := by
  unfold getS
  rw [if_pos (by omega), Int.toNat_natCast, List.getElem?_eq_getElem h]
  rfl

set_option maxRecDepth 20000 in
set_option maxHeartbeats 2000000 in
theorem rget_any (ao : Option Addr) (n cap : Nat) (bs : List UInt8) (slot : Int) (w : World) (hR : Rd w ao n cap bs) :
    Calls Tryd.prog 7 #[.slice ao n cap, .int .i64 slot] w fun e w' => ∃ ag cg, e = .returned (.tuple #[.slice ag (sb (getS (pg bs) slot)).length cg, .bool (getS (pg bs) slot).isSome]) ∧ Rd w' ag (sb (getS (pg bs) slot)).length cg (sb (getS (pg bs) slot)) ∧ Below w.heap.size w w' := by
  have C := rread_any ao n cap bs w hR
  clear hR
  have hcnt : ((pg bs).getD []).length ≤ 125 := by
    cases h : pg bs with
    | none => simp
    | some l => exact fits_count (pg_some h).2.1
  generalize pg bs = o at *
  by_cases h1 : slot < 0
  · have e0 := getS_neg o h1
    rw [e0]
    clear e0
    go_enter Tryd.func7, Tryd.ntmps7
    go_wp2_with (go_at_call 27; refine C.mono ?_; rintro e w' ⟨v, rfl, b1, cs, hv⟩; obtain ⟨va, vc, rfl, -⟩ := hv.slice)
    go_ret2
    exact ⟨none, 0, rfl, Rd.nil _, b1⟩
  by_cases h2 : ((o.getD []).length : Int) ≤ slot
  · have e0 := getS_big o h2
    rw [e0]
    clear e0
    go_enter Tryd.func7, Tryd.ntmps7
    go_wp2_with (go_at_call 27; refine C.mono ?_; rintro e w' ⟨v, rfl, b1, cs, hv⟩; obtain ⟨va, vc, rfl, -⟩ := hv.slice)
    go_ret2
    exact ⟨none, 0, rfl, Rd.nil _, b1⟩
  obtain ⟨k, rfl⟩ : ∃ k : Nat, slot = (k : Int) := ⟨slot.toNat, by omega⟩
  have hk : k < (o.getD []).length := by omega
  have e0 := getS_at2 o hk
  rw [e0]
  clear e0 h1
  go_enter Tryd.func7, Tryd.ntmps7
  go_wp2_with fail
  refine C.mono ?_
  rintro e w' ⟨v, rfl, b1, cs, hv⟩
  obtain ⟨va, vc, rfl, h3, h4, h5, hl⟩ := hv.slice
  obtain ⟨b, off, rfl, hA⟩ := h5 (by omega)
  have hA := hA k (by omega)
  have hc := hv.r.csr.2 k (by omega) hk
  obtain ⟨s, hs⟩ : ∃ s, (o.getD [])[k] = s := ⟨_, rfl⟩
  rw [hs] at hc
  have HS : Hid ((o.getD [])[k] = s) := hs
  generalize cs[k] = c at *
  clear C hs hl h5 hv
  obtain ⟨ct, cao, cn, ccap⟩ := c
  cases s with
  | none =>
    cases hc
    obtain ⟨c0, c1⟩ := hA
    go_wp2
    go_ret2
    rw [HS.out]
    exact ⟨none, 0, rfl, Rd.nil _, b1⟩
  | some r =>
    obtain ⟨rfl, hr⟩ := hc
    obtain ⟨c0, c1⟩ := hA
    have hrl := hr.1
    have HR : Hid (Rd w' cao cn ccap r) := hr
    have HL : Hid (r.length = cn) := hrl
    clear hr hrl
    go_wp2
    go_ret2
    rw [HS.out]
    simp only [sb, Option.getD_some, Option.isSome_some]
    rw [HL.out]
    exact ⟨cao, ccap, rfl, HR.out, b1⟩
end Go.Proofs.YtaghbkjjindjfaaDoor
