/-
  The library's contracts laid at this program: strconv.Itoa, strings.Clone; HasSuffix, TrimSuffix, Index and Contains at one point.
  The contracts of datum.Print and of what it calls, of datum.told and datum.toldNumber: values that a literal can be.
  The contracts of datum.toldNumber, datum.told and datum.Parse at the texts of literals.
  The contract of datum.Parse at the texts of literals.
  The contracts of the lexer's small functions: byteAt, isLetter, isDigit, fitsName, the library's IndexByte, pastBlanks.
-/
import Derived.Test.YtafmchgncahafaaGreatDoorMuDParse
import Derived.Shelf.Strconv.Itoa3
import Derived.Shelf.Strconv.Clone
import Derived.Ground.NamesProg
import Derived.Shelf.Lay
import Derived.Test.YtafmchgncahafaaGreatDoorMAVText
import Derived.Test.YtafmchgncahafaaGreatDoorVQuote
import Derived.Test.YtafmchgncahafaaGreatDoorDText5
import Derived.Test.YtafmchgncahafaaGreatDoorDText6
import Derived.Test.YtafmchgncahafaaGreatDoorMDVCmp
import Derived.Test.YtafmchgncahafaaGreatDoorMgLJumps
import Derived.Test.YtafmchgncahafaaGreatDoorChecked
import Derived.Test.YtafmchgncahafaaGreatDoorMqDWide3
import Derived.WalkKit
import Derived.WalkMore
import Derived.WalkSpells
import Derived.WalkLawsBesides
import Derived.Below
import Derived.Laws.IdiomStrings
namespace Go.Proofs.YtafmchgncahafaaGreatDoor
open Go.RowKit Go.Shelf

shelf_lay LaysM.n171 Nm 171 at Tryz as Tryz.laysItoa
shelf_lay LaysM.n316 Nm 316 at Tryz as Tryz.laysClone

/-- The library's table of powers of ten. -/
def Ptab (w : World) : Prop := Lib.TabIs Tryz.prog w "internal/strconv.uint64pow10" .u64 Lib.pow10Tab
theorem Ptab.later {w w' : World} (h : Ptab w) (hb : Below w.heap.size w w') : Ptab w' := by
  unfold Ptab Lib.TabIs World.var? at *
  cases hg : Tryz.prog.globalNamed "internal/strconv.uint64pow10" with
  | none => rw [hg] at h; cases h
  | some g =>
    rw [hg] at h
    simp only [Option.bind_some] at h ⊢
    have hlt : g < w.heap.size := by
      rcases Nat.lt_or_ge g w.heap.size with h' | h'
      · exact h'
      · rw [Array.getElem?_eq_none h'] at h; cases h
    rw [hb.block g hlt]
    exact h

end Go.Proofs.YtafmchgncahafaaGreatDoor

namespace Go.Proofs.YtafmchgncahafaaGreatDoor
open Go.RowKit Go.Shelf
attribute [local go_sem] cell?_more frozen?_more setCell_more more_lt more_more more_drew more_drewN setCell_drewN alloc_drewN

end Go.Proofs.YtafmchgncahafaaGreatDoor

namespace Go.Proofs.YtafmchgncahafaaGreatDoor
open Go.RowKit Go.Shelf
attribute [local go_sem] cell?_more frozen?_more setCell_more more_lt more_more more_drew more_drewN setCell_drewN alloc_drewN

end Go.Proofs.YtafmchgncahafaaGreatDoor

namespace Go.Proofs.YtafmchgncahafaaGreatDoor
open Go.RowKit Go.Shelf
attribute [local go_sem] cell?_more frozen?_more setCell_more more_lt more_more more_drew more_drewN setCell_drewN alloc_drewN

end Go.Proofs.YtafmchgncahafaaGreatDoor

namespace Go.Proofs.YtafmchgncahafaaGreatDoor
open Go.RowKit

end Go.Proofs.YtafmchgncahafaaGreatDoor
