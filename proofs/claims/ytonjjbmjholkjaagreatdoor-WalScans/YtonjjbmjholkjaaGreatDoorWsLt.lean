/-
  The contracts of longstoplaw01.Lent and Stays, over the texts of pages.
-/
import Derived.Test.YtonjjbmjholkjaaGreatDoorWlK
import Derived.BigQuiet
namespace Go.Proofs.YtonjjbmjholkjaaGreatDoor
open Go.RowKit

theorem own_block {w : World} {base : Nat} {v : Value} {bs : List UInt8} (h : Own w base v bs) (hne : bs ≠ []) :
    ∃ g cap cur, v = .slice (some ⟨g, 0, none⟩) bs.length cap ∧ base ≤ g ∧ g < w.heap.size ∧ w.heap[g]? = some (.cells cur 5 (0, 0)) ∧
      (∀ W : World, W.heap[g]? = some (.cells cur 5 (0, 0)) → Rd W (some ⟨g, 0, none⟩) bs.length cap bs) := by
  obtain ⟨h1, h2⟩ := h
  rcases h2 with ⟨_, hn⟩ | ⟨g, cap, cur, hv, hb, hg, hrest⟩
  · exact absurd (List.eq_nil_of_length_eq_zero hn) hne
  · refine ⟨g, cap, cur, hv, hb, (Array.getElem?_eq_some_iff.1 hg).1, hg, fun W hW => ?_⟩
    have hO : Own W base v bs := ⟨h1, .inr ⟨g, cap, cur, hv, hb, hW, hrest⟩⟩
    obtain ⟨ao, cap', hv', hr, _⟩ := hO.rd
    rw [hv] at hv'
    cases hv'
    exact hr

/-- The slice at block g reads as bs, and behind it stand the two marks. -/
def Marked (w : World) (g cap : Nat) (bs : List UInt8) : Prop := Rd w (some ⟨g, 0, none⟩) (bs.length + 2) cap (bs ++ [55, 56])

theorem Marked.later {w w' : World} {g cap : Nat} {bs : List UInt8} (h : Marked w g cap bs) (hb : Below w.heap.size w w') : Marked w' g cap bs := Rd.later h hb
theorem Marked.drewN {w : World} {g cap : Nat} {bs : List UInt8} (h : Marked w g cap bs) (q : Nat) : Marked (w.drewN q) g cap bs := Rd.drewN h q
theorem Marked.rd {w : World} {g cap : Nat} {bs : List UInt8} (h : Marked w g cap bs) : Rd w (some ⟨g, 0, none⟩) bs.length cap bs := by
  have := Rd.cut h 0 bs.length (by omega)
  simpa using this

set_option maxHeartbeats 400000 in
theorem lent_any (ao : Option Addr) (n cap : Nat) (bs : List UInt8) (w : World) (h : Rd w ao n cap bs) (hl : n ≤ 140737488351232) :
    Calls Tryz.prog 6 #[.slice ao n cap] w fun e w' => ∃ g c, e = .returned (.slice (some ⟨g, 0, none⟩) n c) ∧ w.heap.size ≤ g ∧ Marked w' g c bs ∧ Below w.heap.size w w' := by
  obtain ⟨i0, hi, hz0, hz1, hz2⟩ := info_parts Tryz.info5
  have hln := h.1
  have A1 : Below w.heap.size w (w.alloc (.cells #[] 5)) := (Below.refl _ _).alloc (Nat.le_refl _) _
  have hra := h.later A1
  have HN : Hid (bs.length = n) := hln
  clear hln
  go_enter Tryz.func6, Tryz.ntmps6
  go_wp2_with (at_builtin; refine wpList_append_from rfl (.tmp 4) (.tmp 5) 22 22 rfl w.heap.size 5 i0 (.int .u8 0) 1 1 Tryz.underlying22 hi hz0 hz1 hz2 rfl _ 0 [] rfl (own_made (base := w.heap.size) w #[] 0 (Nat.le_refl _) (by decide) rfl) _ n (bv bs) rfl (src_of_rd Tryz.underlying22 hra) (by unfold maxLen; omega) (by omega) (by simp) ?_)
  intro v2 w2 ho2 hgrow2
  have hO2 : Own w2 w.heap.size v2 bs := own_of ho2
  have b2 : Below w.heap.size w w2 := A1.grown hgrow2 (by simp) (fun k hk => by cases hk; exact Nat.le_refl _)
  have z2 := b2.size
  have hO2' : w2.ownsRow w.heap.size 5 1 v2 n (bv bs) := by have := hO2; unfold Own at this; rw [HN.out] at this; exact this
  clear ho2 hgrow2 A1 hra h
  go_wp2_with (at_builtin; refine wpList_append_own _ rfl (.tmp 7) (.tmp 8) 22 rfl w.heap.size 5 i0 (.int .u8 0) 1 1 Tryz.underlying22 hi hz0 hz1 hz2 rfl (by decide) _ _ _ rfl (World.ownsRow.alloc hO2' _) ⟨w2.heap.size, 0, none⟩ 2 2 [.int .u8 55, .int .u8 56] rfl rfl ?c1 ?c2 (by unfold maxLen; omega) (by omega) (by simp; omega) ?_)
  case c1 =>
    intro j u hj
    match j, hj with
    | 0, hj => simp at hj; subst hj; simp [Addr.add]
    | 1, hj => simp at hj; subst hj; simp [Addr.add]
  case c2 =>
    intro u hu
    simp at hu
    rcases hu with rfl | rfl <;> rfl
  intro v3 w3 ho3 hgrow3 _
  have b3 : Below w.heap.size w w3 := (b2.alloc (by omega) _).grown hgrow3 (by simp; omega) (fun k hk => (World.ownsRow.lt hO2 k hk).1)
  have hO3 : Own w3 w.heap.size v3 (bs ++ [55, 56]) := own_of (n := n + 2) (by rw [bv_append]; exact ho3)
  obtain ⟨g, c, u, hv3, hg, _, hk, R3⟩ := own_block hO3 (by simp)
  have hR := R3 w3 hk
  have hlen : (bs ++ [55, 56]).length = n + 2 := by simp; exact HN.out
  rw [hlen] at hv3 hR
  rw [hv3]
  have hcc := hR.2.1
  have hc0 : ¬ c = 0 := by omega
  have hn0 : (0 : Int) ≤ (n : Int) := by omega
  have hnc : (n : Int) ≤ (c : Int) := by omega
  clear ho3 hgrow3 hO3 R3 hk hO2 hO2' hv3
  go_wp2
  go_ret
  refine ⟨g, c, rfl, hg, ?_, b3⟩
  unfold Marked
  rw [HN.out]
  exact hR

set_option maxHeartbeats 1000000 in
theorem stays_any (g c n : Nat) (ao : Option Addr) (cap : Nat) (bs : List UInt8) (w : World) (h : Marked w g c bs) (hr : Rd w ao n cap bs) :
    Calls Tryz.prog 10 #[.slice (some ⟨g, 0, none⟩) n c, .slice ao n cap] w fun e w' => e = .returned (.bool true) ∧ ∃ nq, w' = w.drewN nq := by
  obtain rfl := hr.1
  have hcc := h.2.1
  have hcm := h.2.2.1
  unfold maxLen at hcm
  obtain ⟨b', off', hao, hcell⟩ := h.2.2.2.2 (by omega)
  cases hao
  have e1 : ∀ q, (w.drewN q).cell? ⟨g, bs.length, none⟩ = some (.int .u8 55) := by
    intro q
    have := hcell bs.length (by simp)
    simpa using this
  have e2 : ∀ q, (w.drewN q).cell? ⟨g, bs.length + 1, none⟩ = some (.int .u8 56) := by
    intro q
    have := hcell (bs.length + 1) (by simp)
    simpa using this
  have q1 : ∀ q, (convert 22 9 (.slice (some ⟨g, 0, none⟩) bs.length c)).run Tryz.prog (w.drewN q) = .ok (.string ⟨bs.toArray⟩) (w.drewN q) := fun q => run_string_of (P := Tryz.prog) 22 9 5 Tryz.underlying22 Tryz.underlying5 Tryz.underlying9 (h.drewN q).rd
  have q2 : ∀ q, (convert 22 9 (.slice ao bs.length cap)).run Tryz.prog (w.drewN q) = .ok (.string ⟨bs.toArray⟩) (w.drewN q) := fun q => run_string_of (P := Tryz.prog) 22 9 5 Tryz.underlying22 Tryz.underlying5 Tryz.underlying9 (hr.drewN q)
  clear h hr hcell
  generalize hL : bs.length = n at *
  clear hL
  have hc0 : ¬ c = 0 := by omega
  have hn0 : (0 : Int) ≤ (n : Int) := by omega
  have hnc : (n : Int) + 2 ≤ (c : Int) := by omega
  have hnc2 : (n : Int) ≤ (c : Int) := by omega
  have hn2 : (n : Int) < (n : Int) + 2 := by omega
  have hn3 : (n : Int) + 1 < (n : Int) + 2 := by omega
  have hwr : IntKind.i64.wrap ((n : Int) + 1) = (n : Int) + 1 := by rw [IntKind.wrap_i64]; omega
  have htn : ((n : Int) + 1).toNat = n + 1 := by omega
  have htn2 : ((n : Int) + 2).toNat = n + 2 := by omega
  go_enter Tryz.func10, Tryz.ntmps10
  go_wp2
  go_quiet (fail)
  go_wp2
  go_ret
  exact ⟨rfl, nq, rfl⟩
end Go.Proofs.YtonjjbmjholkjaaGreatDoor
