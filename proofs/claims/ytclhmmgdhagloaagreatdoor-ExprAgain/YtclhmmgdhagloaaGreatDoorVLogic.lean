/-
  The contracts of datum's truths: And, Or, Not, Of, and the document's.
-/
import Derived.Test.YtclhmmgdhagloaaGreatDoorProg
import Derived.WalkKit
import Derived.WalkMore
import Derived.WalkSpells
import Derived.WalkLawsBesides
import Derived.RowKit
import Derived.Below
import Derived.Test.YtclhmmgdhagloaaGreatDoorVMath
import Derived.Test.YtclhmmgdhagloaaGreatDoorMeDWide3
namespace Go.Proofs.YtclhmmgdhagloaaGreatDoor
open Go.RowKit
attribute [local go_sem] cell?_more frozen?_more setCell_more more_lt more_more more_drew more_drewN setCell_drewN alloc_drewN

/-- A value as the program has it. -/
abbrev va (k n m : Int) (b : ByteArray) : Value := .agg #[.int .i64 k, .int .i64 n, .int .i64 m, .string b]
/-- The value that stands for a truth. -/
def vof (a : Int) : Value := if a = 0 ∨ a = 1 then va 4 a 0 ⟨#[]⟩ else va 0 0 0 ⟨#[]⟩

theorem of_any (a : Int) (w : World) : Calls Tryz.prog 113 #[.int .i64 a] w fun e w' => e = .returned (vof a) ∧ Grew w w' := by
  by_cases a0 : a = 0
  · subst a0
    rw [show vof 0 = va 4 0 0 ⟨#[]⟩ by simp [vof]]
    go_enter Tryz.func113, Tryz.ntmps113
    go_wp2
    refine bodyPost_ret_by (v := va 4 0 0 ⟨#[]⟩) ?_ rfl ⟨rfl, ?_⟩
    · simp [results, Tryz.results113, go_sem]
    · repeat (first | exact Grew.refl _ | apply Grew.drew | apply Grew.drewN | apply Grew.alloc | apply Grew.more)
  have c0 : (a == 0) = false := by simpa using a0
  by_cases a1 : a = 1
  · subst a1
    rw [show vof 1 = va 4 1 0 ⟨#[]⟩ by simp [vof]]
    go_enter Tryz.func113, Tryz.ntmps113
    go_wp2
    refine bodyPost_ret_by (v := va 4 1 0 ⟨#[]⟩) ?_ rfl ⟨rfl, ?_⟩
    · simp [results, Tryz.results113, go_sem]
    · repeat (first | exact Grew.refl _ | apply Grew.drew | apply Grew.drewN | apply Grew.alloc | apply Grew.more)
  have c1 : (a == 1) = false := by simpa using a1
  rw [show vof a = va 0 0 0 ⟨#[]⟩ by simp [vof, a0, a1]]
  go_enter Tryz.func113, Tryz.ntmps113
  go_wp2
  refine bodyPost_ret_by (v := va 0 0 0 ⟨#[]⟩) ?_ rfl ⟨rfl, ?_⟩
  · simp [results, Tryz.results113, go_sem]
  · repeat (first | exact Grew.refl _ | apply Grew.drew | apply Grew.drewN | apply Grew.alloc | apply Grew.more)

end Go.Proofs.YtclhmmgdhagloaaGreatDoor
