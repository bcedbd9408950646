/-
  The contracts of page.readTaken, Update and Delete.
-/
import Derived.Test.YtaghbkjjindjfaaDoorPgI
namespace Go.Proofs.YtaghbkjjindjfaaDoor
open Go.RowKit Go.Shelf

/-- The error of a slot in which no record is. -/
def tkE : Option (List Slt) → Int → Int
  | none, _ => 21
  | some l, slot => if (getS (some l) slot).isSome then 0 else 3
theorem tkE_some (l : List Slt) (slot : Int) : tkE (some l) slot = if (getS (some l) slot).isSome then 0 else 3 := rfl
theorem getS_some {l : List Slt} {slot : Int} {r : List UInt8} (h : getS (some l) slot = some r) : ∃ k : Nat, slot = (k : Int) ∧ ∃ hk : k < l.length, l[k] = some r := by
  unfold getS at h
  split at h
  · rename_i h0
    rw [Option.getD_some] at h
    refine ⟨slot.toNat, by omega, ?_⟩
    rcases Nat.lt_or_ge slot.toNat l.length with hlt | hge
    · refine ⟨hlt, ?_⟩
      rw [List.getElem?_eq_getElem hlt] at h
      exact h
    · rw [List.getElem?_eq_none hge] at h
      cases h
  · cases h
theorem getS_at (l : List Slt) (k : Nat) (hk : k < l.length) : getS (some l) (k : Int) = l[k] := by
  unfold getS
  rw [if_pos (by omega), Int.toNat_natCast, Option.getD_some, List.getElem?_eq_getElem hk]
  rfl

set_option maxRecDepth 20000 in
set_option maxHeartbeats 2000000 in
theorem taken_bad (ao : Option Addr) (n cap : Nat) (bs : List UInt8) (slot : Int) (w : World) (hT : Tab w) (hR : Rd w ao n cap bs) (hE : tkE (pg bs) slot ≠ 0) :
    Calls Tryd.prog 35 #[.slice ao n cap, .int .i64 slot] w fun e w' => e = .returned (.tuple #[.slice none 0 0, .int .i64 (tkE (pg bs) slot)]) ∧ Below w.heap.size w w' := by
  have C := read_any ao n cap bs w hT hR
  cases hp : pg bs with
  | none =>
    rw [hp] at C
    clear hR hE
    go_enter Tryd.func35, Tryd.ntmps35
    go_wp2_with fail
    refine C.mono ?_
    rintro e w' ⟨v, rfl, hv, b1⟩
    obtain rfl : v = .slice none 0 0 := hv
    go_wp2
    go_ret2
    exact ⟨rfl, b1⟩
  | some l =>
    rw [hp] at C hE
    have hcnt := fits_count (pg_some hp).2.1
    have hn : getS (some l) slot = none := by
      rw [tkE_some] at hE
      cases h : getS (some l) slot with
      | none => rfl
      | some r => rw [h] at hE; exact absurd rfl hE
    have e3 : Hid (tkE (some l) slot = 3) := by rw [tkE_some, hn]; exact rfl
    clear hR hE hp
    by_cases h0 : slot < 0
    · go_enter Tryd.func35, Tryd.ntmps35
      go_wp2_with fail
      refine C.mono ?_
      rintro e w' ⟨v, rfl, hv, b1⟩
      obtain ⟨va, vc, cs, rfl, -⟩ := hv.slice
      clear C hv
      go_wp2
      go_ret2
      rw [e3.out]
      exact ⟨rfl, b1⟩
    · obtain ⟨k, rfl⟩ : ∃ k : Nat, slot = (k : Int) := ⟨slot.toNat, by omega⟩
      go_enter Tryd.func35, Tryd.ntmps35
      go_wp2_with fail
      refine C.mono ?_
      rintro e w' ⟨v, rfl, ⟨cs, hc, hrel⟩, b1⟩
      obtain ⟨va, vc, rfl, h1, h2, h3⟩ := hc.cw
      have hcl := hrel.1
      by_cases hk : k < cs.length
      · have ht : cs[k].t = false := by
          have h4 := (hrel.2 k hk (by omega)).taken
          have h5 := getS_at l k (by omega)
          rw [hn] at h5
          rw [← h5] at h4
          exact h4
        obtain ⟨b, off, rfl, hA⟩ := h3 (by omega)
        have c0 := (hA k hk).1
        rw [ht] at c0
        have hki : ¬ (cs.length : Int) ≤ (k : Int) := by omega
        have hki2 : (k : Int) < (cs.length : Int) := by omega
        have h00 : ¬ (k : Int) < 0 := by omega
        clear C hrel hc hcl hA ht hn h3 hcnt
        go_wp2
        go_ret2
        rw [e3.out]
        exact ⟨rfl, b1⟩
      · have hki : (cs.length : Int) ≤ (k : Int) := by omega
        have h00 : ¬ (k : Int) < 0 := by omega
        clear C hrel hc hcl hn h3 hcnt
        go_wp2
        go_ret2
        rw [e3.out]
        exact ⟨rfl, b1⟩

set_option maxRecDepth 20000 in
set_option maxHeartbeats 2000000 in
theorem taken_good (ao : Option Addr) (n cap : Nat) (bs : List UInt8) (l : List Slt) (k : Nat) (r : List UInt8) (w : World) (hT : Tab w) (hR : Rd w ao n cap bs) (hp : pg bs = some l) (hk : k < l.length) (hlk : l[k] = some r) :
    Calls Tryd.prog 35 #[.slice ao n cap, .int .i64 (k : Int)] w fun e w' => (∃ g vc cs, e = .returned (.tuple #[.slice (some ⟨g, 0, none⟩) cs.length vc, .int .i64 0]) ∧ Cow w' w.heap.size (.slice (some ⟨g, 0, none⟩) cs.length vc) cs ∧ CsR w cs l) ∧ Below w.heap.size w w' := by
  have C := read_any ao n cap bs w hT hR
  rw [hp] at C
  have hcnt := fits_count (pg_some hp).2.1
  clear hR hp
  go_enter Tryd.func35, Tryd.ntmps35
  go_wp2_with fail
  refine C.mono ?_
  rintro e w' ⟨v, rfl, ⟨cs, hc, hrel⟩, b1⟩
  obtain ⟨va, vc, rfl, h1, h2, h3⟩ := hc.cw
  have hcl := hrel.1
  have ht : cs[k].t = true := by
    have h4 := (hrel.2 k (by omega) hk).taken
    rw [hlk] at h4
    exact h4
  obtain ⟨g, rfl⟩ := hc.some (by omega)
  obtain ⟨b, off, e0, hA⟩ := h3 (by omega)
  cases e0
  have c0 := (hA k (by omega)).1
  rw [ht, Nat.zero_add] at c0
  have hki : ¬ (cs.length : Int) ≤ (k : Int) := by omega
  have hki2 : (k : Int) < (cs.length : Int) := by omega
  have h00 : ¬ (k : Int) < 0 := by omega
  have HR : Hid (CsR w cs l) := hrel
  clear C hrel hcl hA ht h3 hcnt hlk
  go_wp2
  go_ret2
  exact ⟨⟨g, vc, cs, rfl, hc, HR.out⟩, b1⟩

/-- What Update makes of slots, and its error. -/
def updP : Option (List Slt) → Int → List UInt8 → Option (List Slt)
  | none, _, _ => none
  | some l, slot, r => if (getS (some l) slot).isSome ∧ fits (l.set slot.toNat (some r)) then some (l.set slot.toNat (some r)) else none
def updE : Option (List Slt) → Int → List UInt8 → Int
  | none, _, _ => 21
  | some l, slot, r => if (getS (some l) slot).isSome then (if fits (l.set slot.toNat (some r)) then 0 else 7) else 3

set_option maxRecDepth 20000 in
set_option maxHeartbeats 4000000 in
theorem update_any (ao : Option Addr) (n cap : Nat) (bs : List UInt8) (slot : Int) (ro : Option Addr) (m rcap : Nat) (r : List UInt8) (w : World) (hT : Tab w) (hR : Rd w ao n cap bs) (hr : Rd w ro m rcap r) (hm : m ≤ 140737488355328) :
    Calls Tryd.prog 20 #[.slice ao n cap, .int .i64 slot, .slice ro m rcap] w fun e w' => ∃ v, e = .returned (.tuple #[v, .int .i64 (updE (pg bs) slot r)]) ∧ Leaves w' w.heap.size v (updP (pg bs) slot r) ∧ Below w.heap.size w w' := by
  by_cases hE : tkE (pg bs) slot = 0
  · obtain ⟨l, hp⟩ : ∃ l, pg bs = some l := by
      cases h : pg bs with
      | none => rw [h] at hE; cases hE
      | some l => exact ⟨l, rfl⟩
    rw [hp, tkE_some] at hE
    obtain ⟨r0, hr0⟩ : ∃ r0, getS (some l) slot = some r0 := by
      cases h : getS (some l) slot with
      | none => rw [h] at hE; cases hE
      | some r0 => exact ⟨r0, rfl⟩
    obtain ⟨k, rfl, hk, hlk⟩ := getS_some hr0
    have C := taken_good ao n cap bs l k r0 w hT hR hp hk hlk
    have hfl : fits l := (pg_some hp).2.1
    have hcnt := fits_count hfl
    unfold fits at hfl
    have e1 : ∀ f : fits (l.set k (some r)), updP (some l) (k : Int) r = some (l.set k (some r)) := fun f => if_pos ⟨by rw [hr0]; rfl, f⟩
    have e2 : ∀ f : fits (l.set k (some r)), updE (some l) (k : Int) r = 0 := fun f => (if_pos (by rw [hr0]; rfl)).trans (if_pos f)
    have e3 : ∀ f : ¬ fits (l.set k (some r)), updP (some l) (k : Int) r = none := fun f => if_neg (fun h => f h.2)
    have e4 : ∀ f : ¬ fits (l.set k (some r)), updE (some l) (k : Int) r = 7 := fun f => (if_pos (by rw [hr0]; rfl)).trans (if_neg f)
    rw [hp]
    clear hE hR hp hr0
    go_enter Tryd.func20, Tryd.ntmps20
    go_wp2_with fail
    refine C.mono ?_
    rintro e w3 ⟨⟨g, vc, cs, rfl, hc3, hrel⟩, hB3⟩
    clear C
    have hcl := hrel.1
    have hu1 := hrel.used
    have hk3 : k < cs.length := by omega
    have hk3i : (k : Int) < (cs.length : Int) := by omega
    have hl1 : cs.length ≤ 125 := by omega
    have huu : usedN cs ≤ 502 := by omega
    clear hcl hu1 hcnt hfl
    go_wp2_with fail
    refine (holding_any ro m rcap _).mono ?_
    rintro e w4 ⟨rfl, b4⟩
    have hc4 := hc3.later b4
    have hB4 := hB3.trans (b4.mono hB3.size)
    obtain ⟨⟨x0, y0⟩, ⟨x1, y1⟩, f0, f1, hbg, hgl⟩ := hc4.room k hk3
    have hc5 := hc4.set k hk3 ⟨true, ro, m, rcap⟩
    have hB5 : Below w.heap.size w ((w4.setCell ⟨g, k * 2, none⟩ (.bool true)).setCell ⟨g, k * 2 + 1, none⟩ (.slice ro m rcap)) := (hB4.setCell (p := ⟨g, k * 2, none⟩) hbg _).setCell (p := ⟨g, k * 2 + 1, none⟩) hbg _
    dsimp only at hc5
    clear hc3 hc4 b4
    go_wp2_with fail
    generalize (w4.setCell ⟨g, k * 2, none⟩ (.bool true)).setCell ⟨g, k * 2 + 1, none⟩ (.slice ro m rcap) = w5 at *
    obtain ⟨va5, vc5, hv5, h51, h52, h53⟩ := hc5.cw
    have hl5 : (cs.set k ⟨true, ro, m, rcap⟩).length = cs.length := List.length_set
    rw [hl5] at hv5
    cases hv5
    have hrel5 : CsR w (cs.set k ⟨true, ro, m, rcap⟩) (l.set k (some r)) := hrel.set k ⟨true, ro, m, rcap⟩ (some r) ⟨rfl, hr⟩
    have hu5 := hrel5.used
    have hn5 := hrel5.1
    have hmr := hr.1
    have hus5 : usedN (cs.set k ⟨true, ro, m, rcap⟩) ≤ 4611686018427387904 := by
      have h0 := usedN_set cs k ⟨true, ro, m, rcap⟩
      dsimp only at h0
      omega
    have CR := room_any (some ⟨g, 0, none⟩) vc _ w5 h53 (by omega) hus5
    have CW := fun (hf : fits (l.set k (some r))) (Wx : World) (hx : Below w5.heap.size w5 Wx) => write_any (some ⟨g, 0, none⟩) vc _ (l.set k (some r)) Wx (hT.later (hB5.trans (hx.mono hB5.size)) hT.pos) (h53.later hx) (hrel5.later (hB5.trans (hx.mono hB5.size))) hf
    rw [hl5] at CR CW
    obtain ⟨rm, hrm⟩ : ∃ rm : Int, rm = 502 - 4 * (cs.length : Int) - (usedN (cs.set k ⟨true, ro, m, rcap⟩) : Int) := ⟨_, rfl⟩
    rw [← hrm] at CR
    by_cases hfit : fits (l.set k (some r))
    · have hr0 : ¬ rm < 0 := by unfold fits at hfit; omega
      have CW2 := CW hfit
      have E1 : Hid (updP (some l) (k : Int) r = some (l.set k (some r))) := e1 hfit
      have E2 : Hid (updE (some l) (k : Int) r = 0) := e2 hfit
      clear hrm hu5 hn5 hmr hus5 hl5 CW hfit e1 e2 e3 e4
      go_wp2_with fail
      refine CR.mono ?_
      rintro e w6 ⟨rfl, b6⟩
      clear CR
      go_wp2_with fail
      refine (CW2 w6 b6).mono ?_
      rintro e w7 ⟨gg, rfl, hg7, hP7, b7⟩
      clear CW2
      have hB7 := (hB5.trans (b6.mono hB5.size)).trans (b7.mono (Nat.le_trans hB5.size b6.size))
      go_wp2
      go_ret2
      rw [E1.out, E2.out]
      exact ⟨_, rfl, ⟨gg, rfl, Nat.le_trans (Nat.le_trans hB5.size b6.size) hg7, hP7⟩, hB7⟩
    · have hr0 : rm < 0 := by unfold fits at hfit; omega
      have E1 : Hid (updP (some l) (k : Int) r = none) := e3 hfit
      have E2 : Hid (updE (some l) (k : Int) r = 7) := e4 hfit
      clear hrm hu5 hn5 hmr hus5 hl5 CW hfit e1 e2 e3 e4
      go_wp2_with fail
      refine CR.mono ?_
      rintro e w6 ⟨rfl, b6⟩
      clear CR
      go_wp2
      go_ret2
      rw [E1.out, E2.out]
      exact ⟨_, rfl, rfl, hB5.trans (b6.mono hB5.size)⟩
  · have C := taken_bad ao n cap bs slot w hT hR hE
    have e1 : updE (pg bs) slot r = tkE (pg bs) slot := by
      cases h : pg bs with
      | none => rfl
      | some l =>
        rw [h, tkE_some] at hE
        show (if _ then _ else _) = _
        rw [tkE_some]
        cases hg : getS (some l) slot with
        | none => rfl
        | some r0 => rw [hg] at hE; exact absurd rfl hE
    have e2 : updP (pg bs) slot r = none := by
      cases h : pg bs with
      | none => rfl
      | some l =>
        rw [h, tkE_some] at hE
        refine if_neg (fun hh => hE ?_)
        rw [if_pos hh.1]
    rw [e1, e2]
    generalize tkE (pg bs) slot = er at *
    clear e1 e2
    have hE' : (er == 0) = false := by simpa using hE
    go_enter Tryd.func20, Tryd.ntmps20
    go_wp2_with fail
    refine C.mono ?_
    rintro e w1 ⟨rfl, b1⟩
    go_wp2
    go_ret2
    exact ⟨_, rfl, rfl, b1⟩
end Go.Proofs.YtaghbkjjindjfaaDoor
