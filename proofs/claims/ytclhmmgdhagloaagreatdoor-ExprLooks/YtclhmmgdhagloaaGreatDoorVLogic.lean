/-
  The contracts of datum's truths: And, Or, Not, Of, and the document's.
-/
import Derived.Test.YtclhmmgdhagloaaGreatDoorProg
import Derived.WalkKit
import Derived.WalkMore
import Derived.WalkSpells
import Derived.WalkLawsBesides
import Derived.RowKit
import Derived.Below
import Derived.Test.YtclhmmgdhagloaaGreatDoorVMath
import Derived.Test.YtclhmmgdhagloaaGreatDoorMeDWide3
namespace Go.Proofs.YtclhmmgdhagloaaGreatDoor
open Go.RowKit
attribute [local go_sem] cell?_more frozen?_more setCell_more more_lt more_more more_drew more_drewN setCell_drewN alloc_drewN

/-- A value as the program has it. -/
abbrev va (k n m : Int) (b : ByteArray) : Value := .agg #[.int .i64 k, .int .i64 n, .int .i64 m, .string b]
end Go.Proofs.YtclhmmgdhagloaaGreatDoor
