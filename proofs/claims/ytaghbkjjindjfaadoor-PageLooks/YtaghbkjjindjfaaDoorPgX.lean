/-
  The contract of page.Delete.
-/
import Derived.Test.YtaghbkjjindjfaaDoorPgU
namespace Go.Proofs.YtaghbkjjindjfaaDoor
open Go.RowKit Go.Shelf

/-- Slots without the empty ones at the end. -/
def Strips (l l2 : List Slt) : Prop := ∃ k, k ≤ l.length ∧ l2 = l.take k ∧ (∀ i (h : i < l.length), k ≤ i → l[i] = none) ∧ lastOk l2
theorem used_take_le (l : List Slt) (k : Nat) : used (l.take k) ≤ used l := by
  have e := used_append (l.take k) (l.drop k)
  rw [List.take_append_drop] at e
  omega
theorem used_set_none (l : List Slt) : ∀ k, used (l.set k none) ≤ used l := by
  induction l with
  | nil => intro k; simp
  | cons s l ih =>
    intro k
    cases k with
    | zero => simp [used, sb]
    | succ k => have := ih k; simp only [List.set_cons_succ, used]; omega
theorem Strips.fits {l l2 : List Slt} (h : Strips l l2) (hf : Go.Proofs.YtaghbkjjindjfaaDoor.fits l) : Go.Proofs.YtaghbkjjindjfaaDoor.fits l2 := by
  obtain ⟨k, hk, rfl, -⟩ := h
  exact fits_take l k hf
theorem CsR.take {w : World} {cs : List Cn} {l : List Slt} (h : CsR w cs l) (k : Nat) : CsR w (cs.take k) (l.take k) := by
  have e := h.1
  refine ⟨by simp [e], fun i h1 h2 => ?_⟩
  simp only [List.getElem_take]
  exact h.2 i (by simp at h1; omega) (by simp at h2; omega)
theorem Cw.take {w : World} {ao : Option Addr} {cs : List Cn} (h : Cw w ao cs) (k : Nat) : Cw w ao (cs.take k) := by
  intro hp
  obtain ⟨b, off, e, hc⟩ := h (by simp at hp; omega)
  refine ⟨b, off, e, fun i hi => ?_⟩
  simp only [List.getElem_take]
  exact hc i (by simp at hi; omega)
theorem strips_of {w : World} {cs : List Cn} {l : List Slt} (h : CsR w cs l) {k : Nat} (hk : k ≤ cs.length) (hf : ∀ i (h : i < cs.length), k ≤ i → cs[i].t = false) (ht : ∀ j (h : j < cs.length), j + 1 = k → cs[j].t = true) : Strips l (l.take k) := by
  have e := h.1
  refine ⟨k, by omega, rfl, fun i hi hki => ?_, ?_⟩
  · have h2 := (h.2 i (by omega) hi).taken
    rw [hf i (by omega) hki] at h2
    cases hs : l[i] with
    | none => rfl
    | some r => rw [hs] at h2; cases h2
  · refine strip_ok (h.take k) (k := k) (by simp; omega) (fun j hj hjk => ?_)
    simp only [List.getElem_take]
    exact ht j (by simp at hj; omega) hjk

theorem strip_at (ao : Option Addr) (cap : Nat) (cs : List Cn) (w : World) (hc : Cw w ao cs) (hl : cs.length ≤ 1000) (hcap : cs.length ≤ cap) (hm : cap ≤ maxLen) {N : Nat} (hN : cs.length = N) :
    Calls Tryd.prog 36 #[.slice ao N cap] w fun e w' => ∃ k : Nat, k ≤ cs.length ∧ e = .returned (.slice ao k cap) ∧ (∀ i (h : i < cs.length), k ≤ i → cs[i].t = false) ∧ (∀ j (h : j < cs.length), j + 1 = k → cs[j].t = true) ∧ Below w.heap.size w w' := by
  subst hN
  exact strip_any ao cap cs w hc hl hcap hm

set_option maxRecDepth 20000 in
set_option maxHeartbeats 4000000 in
theorem delete_good (ao : Option Addr) (n cap : Nat) (bs : List UInt8) (l : List Slt) (k : Nat) (r0 : List UInt8) (w : World) (hT : Tab w) (hR : Rd w ao n cap bs) (hp : pg bs = some l) (hk : k < l.length) (hlk : l[k] = some r0) :
    Calls Tryd.prog 22 #[.slice ao n cap, .int .i64 (k : Int)] w fun e w' => (∃ v l2, e = .returned (.tuple #[v, .int .i64 0]) ∧ Strips (l.set k none) l2 ∧ Leaves w' w.heap.size v (some l2)) ∧ Below w.heap.size w w' := by
  have C := taken_good ao n cap bs l k r0 w hT hR hp hk hlk
  have hfl : fits l := (pg_some hp).2.1
  have hcnt := fits_count hfl
  have HF : Hid (fits (l.set k none)) := by
    have h0 := used_set_none l k
    unfold fits at *
    rw [List.length_set]
    show _ ≤ _
    omega
  clear hR hp hlk hfl
  go_enter Tryd.func22, Tryd.ntmps22
  go_wp2_with fail
  refine C.mono ?_
  rintro e w4 ⟨⟨g, vc, cs, rfl, hc4, hrel⟩, hB4⟩
  clear C
  have hcl := hrel.1
  have hk3 : k < cs.length := by omega
  have hk3i : (k : Int) < (cs.length : Int) := by omega
  have hl1 : cs.length ≤ 125 := by omega
  clear hcl hcnt
  obtain ⟨⟨x0, y0⟩, ⟨x1, y1⟩, f0, f1, hbg, hgl⟩ := hc4.room k hk3
  have hc5 := hc4.set k hk3 Cn.z
  have hB5 : Below w.heap.size w ((w4.setCell ⟨g, k * 2, none⟩ (.bool false)).setCell ⟨g, k * 2 + 1, none⟩ (.slice none 0 0)) := (hB4.setCell (p := ⟨g, k * 2, none⟩) hbg _).setCell (p := ⟨g, k * 2 + 1, none⟩) hbg _
  dsimp only at hc5
  clear hc4 hB4
  go_wp2_with fail
  generalize (w4.setCell ⟨g, k * 2, none⟩ (.bool false)).setCell ⟨g, k * 2 + 1, none⟩ (.slice none 0 0) = w5 at *
  obtain ⟨va5, vc5, hv5, h51, h52, h53⟩ := hc5.cw
  have hl5 : (cs.set k Cn.z).length = cs.length := List.length_set
  rw [hl5] at hv5
  cases hv5
  have hrel5 : CsR w (cs.set k Cn.z) (l.set k none) := hrel.set k Cn.z none rfl
  have CS := strip_at (some ⟨g, 0, none⟩) vc _ w5 h53 (by omega) h51 h52 hl5
  refine CS.mono ?_
  rintro e w6 ⟨j, hj, rfl, hjf, hjt, b6⟩
  have hstr := strips_of hrel5 hj hjf hjt
  have hB6 := hB5.trans (b6.mono hB5.size)
  have CW := write_any (some ⟨g, 0, none⟩) vc ((cs.set k Cn.z).take j) ((l.set k none).take j) w6 (hT.later hB6 hT.pos) ((h53.take j).later b6) ((hrel5.take j).later hB6) (hstr.fits HF.out)
  rw [List.length_take, Nat.min_eq_left hj] at CW
  have HS : Hid (Strips (l.set k none) ((l.set k none).take j)) := hstr
  clear CS hjf hjt hstr hl5 hrel5 h53 h51 h52 hc5
  go_wp2_with fail
  refine CW.mono ?_
  rintro e w7 ⟨gg, rfl, hg7, hP7, b7⟩
  clear CW
  have hB7 := hB6.trans (b7.mono hB6.size)
  go_wp2
  go_ret2
  exact ⟨⟨_, _, rfl, HS.out, ⟨gg, rfl, Nat.le_trans hB6.size hg7, hP7⟩⟩, hB7⟩

set_option maxRecDepth 20000 in
set_option maxHeartbeats 2000000 in
theorem delete_bad (ao : Option Addr) (n cap : Nat) (bs : List UInt8) (slot : Int) (w : World) (hT : Tab w) (hR : Rd w ao n cap bs) (hE : tkE (pg bs) slot ≠ 0) :
    Calls Tryd.prog 22 #[.slice ao n cap, .int .i64 slot] w fun e w' => e = .returned (.tuple #[.slice none 0 0, .int .i64 (tkE (pg bs) slot)]) ∧ Below w.heap.size w w' := by
  have C := taken_bad ao n cap bs slot w hT hR hE
  generalize tkE (pg bs) slot = er at *
  have hE' : (er == 0) = false := by simpa using hE
  go_enter Tryd.func22, Tryd.ntmps22
  go_wp2_with fail
  refine C.mono ?_
  rintro e w1 ⟨rfl, b1⟩
  go_wp2
  go_ret2
  exact ⟨rfl, b1⟩
end Go.Proofs.YtaghbkjjindjfaaDoor
