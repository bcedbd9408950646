/-
  Toward the program's Print: passes by induction, the room.
-/
import Derived.Test.YtncpkdgpijempaaDoorDText3
import Derived.Test.YtncpkdgpijempaaDoorDJumps
namespace Go.Proofs.YtncpkdgpijempaaDoor
open Go.RowKit

/-- Passes by induction: each leads to the next, or out. -/
theorem pass_ind {P : Program} {l : Nat} {body : Code} {Q : Exit → Act → World → Prop} (R : Nat → Act → World → Prop) (none0 : ∀ a w, ¬ R 0 a w)
    (step : ∀ (f : Nat) (K : Act → World → Prop), (∀ a w, R f a w → K a w) → ∀ a w, R (f + 1) a w → body.wp P (Exit.jump l K Q) a w) (F : Nat) {a : Act} {w : World} (h : R (F + 1) a w) :
    body.wp P (Exit.jump l (passes P l (Code.skip.seq body) Q F) Q) a w := by
  refine step F _ ?_ a w h
  clear h
  induction F with
  | zero => intro a w h; exact absurd h (none0 a w)
  | succ F ih => intro a w h; exact wp_seq (wp_skip (step F _ ih a w h))

/-- The room: what is written lies at its end. -/
def Room (C : Array Value) (t : List UInt8) (j : Nat) : Prop :=
  C.size = 21 ∧ j + t.length = 21 ∧ (∀ i, i < 21 → ∃ y : UInt8, C[i]? = some (.int .u8 (y.toNat : Int))) ∧ ∀ i (h : i < t.length), C[j + i]? = some (.int .u8 (t[i].toNat : Int))
theorem Room.cons {C : Array Value} {t : List UInt8} {j : Nat} (h : Room C t (j + 1)) (y : UInt8) : Room (C.setIfInBounds j (.int .u8 (y.toNat : Int))) (y :: t) j := by
  obtain ⟨h1, h2, h3, h4⟩ := h
  refine ⟨by simpa using h1, by rw [List.length_cons]; omega, fun i hi => ?_, fun i hi => ?_⟩
  · by_cases e : i = j
    · subst e; exact ⟨y, by rw [Array.getElem?_setIfInBounds_self, if_pos (by omega)]⟩
    · obtain ⟨z, hz⟩ := h3 i hi
      exact ⟨z, by rw [Array.getElem?_setIfInBounds_ne (by omega)]; exact hz⟩
  · cases i with
    | zero => rw [Nat.add_zero, Array.getElem?_setIfInBounds_self, if_pos (by omega)]; rfl
    | succ i =>
      rw [Array.getElem?_setIfInBounds_ne (by omega)]
      have := h4 i (by simpa using hi)
      rw [show j + 1 + i = j + (i + 1) by omega] at this
      exact this

theorem str_room (V : World) (n : Nat) (C : Array Value) (t : List UInt8) (j L : Nat) (h : Room C t j) (hL : L = t.length) :
    (convert 56 9 (.slice (some ⟨V.heap.size, j, none⟩) L L)).run Tryd.prog ((V.alloc (.cells C 54)).drewN n) = .ok (.string ⟨t.toArray⟩) ((V.alloc (.cells C 54)).drewN n) := by
  subst hL
  refine run_convert_bytes_back _ 56 9 5 ⟨V.heap.size, j, none⟩ t.length t Tryd.underlying56 Tryd.underlying5 Tryd.underlying9 fun i hi => ?_
  rw [Addr.add_lit]
  rw [World.cell?_drewN, World.cell?_alloc_at _ _ _ _ rfl]
  exact h.2.2.2 i hi

theorem written_ge (s f : Nat) : ∀ k x t, t.length ≤ (written s f k x t).length := by
  induction f with
  | zero => intro k x t; exact Nat.le_refl _
  | succ f ih =>
    intro k x t
    have h1 : t.length ≤ (told s k x t).length := by unfold told; split <;> simp <;> omega
    unfold written
    split
    · exact Nat.le_trans h1 (ih _ _ _)
    · exact h1
theorem written_told (s f k x : Nat) (t : List UInt8) : (told s k x t).length ≤ (written s (f + 1) k x t).length := by
  unfold written
  split
  · exact written_ge _ _ _ _ _
  · exact Nat.le_refl _

end Go.Proofs.YtncpkdgpijempaaDoor
