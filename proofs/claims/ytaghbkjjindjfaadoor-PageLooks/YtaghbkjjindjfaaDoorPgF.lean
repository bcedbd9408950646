/-
  The contracts of page.read at any bytes, New, Right, Slots, Room.
-/
import Derived.Test.YtaghbkjjindjfaaDoorPgRd
namespace Go.Proofs.YtaghbkjjindjfaaDoor
open Go.RowKit Go.Shelf

theorem read_any (ao : Option Addr) (n cap : Nat) (bs : List UInt8) (w : World) (hT : Tab w) (hR : Rd w ao n cap bs) :
    Calls Tryd.prog 28 #[.slice ao n cap] w fun e w' => ∃ v, e = .returned (.tuple #[v, .bool (pg bs).isSome]) ∧ RdP w w' w.heap.size v (pg bs) ∧ Below w.heap.size w w' := by
  by_cases hn : n = 512
  · subst hn
    obtain ⟨b, off, rfl, _⟩ := hR.2.2.2.2 (by omega)
    exact read_page b off cap bs w hT hR
  · have hl := hR.1
    have hm : n ≤ 9223372036854775807 := by have h1 := hR.2.1; have h2 := hR.2.2.1; unfold maxLen at h2; omega
    have hp : pg bs = none := by unfold pg; rw [if_neg (fun h => hn (hl.symm.trans h.1))]
    rw [hp]
    refine (read_short ao n cap w hn hm).mono ?_
    rintro e w' ⟨rfl, rfl⟩
    exact ⟨_, rfl, rfl, Below.refl _ _⟩

/-- What a row of contents of no page, or of one, is. -/
theorem RdP.slice {w w' : World} {base : Nat} {v : Value} {o : Option (List Slt)} (h : RdP w w' base v o) : ∃ ao cap cs, v = .slice ao (o.getD []).length cap ∧ (o.getD []).length ≤ cap ∧ cap ≤ maxLen ∧ Cw w' ao cs ∧ CsR w cs (o.getD []) := by
  cases o with
  | none =>
    obtain rfl : v = .slice none 0 0 := h
    exact ⟨none, 0, [], rfl, Nat.le_refl _, Nat.zero_le _, fun hp => by simp at hp, ⟨rfl, fun i h => by simp at h⟩⟩
  | some l =>
    obtain ⟨cs, hc, hr⟩ := h
    obtain ⟨ao, cap, rfl, h1, h2, h3⟩ := hc.cw
    have := hr.1
    exact ⟨ao, cap, cs, by simp [this], by simpa [this] using h1, h2, h3, hr⟩

set_option maxHeartbeats 1000000 in
theorem right_any (ao : Option Addr) (n cap : Nat) (bs : List UInt8) (w : World) (hT : Tab w) (hR : Rd w ao n cap bs) :
    Calls Tryd.prog 8 #[.slice ao n cap] w fun e w' => e = .returned (.bool (pg bs).isSome) ∧ Below w.heap.size w w' := by
  have C := read_any ao n cap bs w hT hR
  clear hR hT
  generalize pg bs = o at *
  go_enter Tryd.func8, Tryd.ntmps8
  go_wp2_with (go_at_call 28; refine C.mono ?_; rintro e w' ⟨v, rfl, hv, b1⟩; obtain ⟨va, vc, cs, rfl, -⟩ := hv.slice)
  go_ret
  exact ⟨rfl, b1⟩

set_option maxHeartbeats 1000000 in
theorem slotsN_any (ao : Option Addr) (n cap : Nat) (bs : List UInt8) (w : World) (hT : Tab w) (hR : Rd w ao n cap bs) :
    Calls Tryd.prog 10 #[.slice ao n cap] w fun e w' => e = .returned (.int .i64 (((pg bs).getD []).length : Int)) ∧ Below w.heap.size w w' := by
  have C := read_any ao n cap bs w hT hR
  clear hR hT
  generalize pg bs = o at *
  go_enter Tryd.func10, Tryd.ntmps10
  go_wp2_with (go_at_call 28; refine C.mono ?_; rintro e w' ⟨v, rfl, hv, b1⟩; obtain ⟨va, vc, cs, rfl, -⟩ := hv.slice)
  go_ret
  exact ⟨rfl, b1⟩

/-- A page's room. -/
def roomP : Option (List Slt) → Int
  | none => 0
  | some l => 502 - 4 * (l.length : Int) - (used l : Int)

set_option maxHeartbeats 1000000 in
theorem roomN_any (ao : Option Addr) (n cap : Nat) (bs : List UInt8) (w : World) (hT : Tab w) (hR : Rd w ao n cap bs) :
    Calls Tryd.prog 12 #[.slice ao n cap] w fun e w' => e = .returned (.int .i64 (roomP (pg bs))) ∧ Below w.heap.size w w' := by
  have C := read_any ao n cap bs w hT hR
  clear hR hT
  have hf : ∀ l, pg bs = some l → fits l := fun l h => (pg_some h).2.1
  generalize pg bs = o at *
  cases o with
  | none =>
    go_enter Tryd.func12, Tryd.ntmps12
    go_wp2_with (go_at_call 28; refine C.mono ?_; rintro e w' ⟨v, rfl, hv, b1⟩; obtain rfl : v = .slice none 0 0 := hv)
    go_ret
    exact ⟨rfl, b1⟩
  | some l =>
    have hfl := hf l rfl
    unfold fits at hfl
    clear hf
    go_enter Tryd.func12, Tryd.ntmps12
    go_wp2_with fail
    refine C.mono ?_
    rintro e w' ⟨v, rfl, ⟨cs, hc, hr⟩, b1⟩
    obtain ⟨va, vc, rfl, h1, h2, h3⟩ := hc.cw
    have hl := hr.1
    have hu := hr.used
    have CR := room_any va vc cs w' h3 (by omega) (by omega)
    clear C hl hu hfl
    go_wp2_with fail
    refine CR.mono ?_
    rintro e w2 ⟨rfl, b2⟩
    go_wp2
    go_ret
    have e1 := hr.1
    have e2 := hr.used
    exact ⟨ret_int (by rw [e1, e2]; rfl), b1.trans (b2.mono b1.size)⟩

set_option maxHeartbeats 1000000 in
theorem new_any (w : World) (hT : Tab w) :
    Calls Tryd.prog 14 #[] w fun e w' => ∃ g, e = .returned (.slice (some ⟨g, 0, none⟩) 512 512) ∧ w.heap.size ≤ g ∧ Pb w' g (pageL []) ∧ Below w.heap.size w w' := by
  have C := write_any none 0 [] [] w hT (fun h => by simp at h) ⟨rfl, fun i h => by simp at h⟩ (by decide)
  go_enter Tryd.func14, Tryd.ntmps14
  go_wp2_with fail
  refine C.mono ?_
  rintro e w' ⟨g, rfl, hg, hP, b1⟩
  go_wp2
  go_ret
  exact ⟨g, rfl, hg, hP, b1⟩
theorem Pb.page {w : World} {g : Nat} {l : List Slt} (h : Pb w g (pageL l)) (hf : fits l) : Rd w (some ⟨g, 0, none⟩) 512 512 (pageL l) := by
  have hl := pageL_len l hf
  have := h.rd 0 512 512 (by omega) (Nat.le_refl _) (by decide)
  rw [List.drop_zero, List.take_of_length_le (by omega)] at this
  exact this
end Go.Proofs.YtaghbkjjindjfaaDoor
