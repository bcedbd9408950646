/-
  The contract of the document's two.
-/
import Derived.Test.YtaghbkjjindjfaaDoorPgK
namespace Go.Proofs.YtaghbkjjindjfaaDoor
open Go.RowKit

set_option maxHeartbeats 1000000 in
theorem two_any (n : Nat) (w : World) (hn : n < 65536) :
    Calls Tryd.prog 44 #[.int .i64 (n : Int)] w fun e w' => (∃ cp, e = .returned (.slice (some ⟨w.heap.size, 0, none⟩) 2 cp) ∧ Rd w' (some ⟨w.heap.size, 0, none⟩) 2 cp (two n)) ∧ Below w.heap.size w w' := by
  go_enter Tryd.func44, Tryd.ntmps44
  go_wp2
  go_ret
  refine ⟨⟨2, rfl, ?_⟩, (Below.refl _ _).alloc (Nat.le_refl _) _⟩
  have hP : Pb (w.alloc (.cells #[.int .u8 ((n : Int) / 256), .int .u8 ((n : Int) % 256)] 5)) w.heap.size (two n) := by
    rw [byte_hi n hn, byte_lo n]
    exact heap_alloc_new w _
  have := hP.rd 0 2 2 (by simp [two]) (Nat.le_refl _) (by decide)
  simpa [two] using this
end Go.Proofs.YtaghbkjjindjfaaDoor
