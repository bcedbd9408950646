/-
  What ops of one and of two come to, as plain data.
  A scope whose gotos are followed one by one, at most n of them: the walk goes on at the label. Nothing of the program is in it.
  The smallest functions of package eval.
  What a call gives in every later world; three boxes.
  eval.Binary, path by path: from kind to kind.
  eval.Binary, path by path: from kind to kind.
  eval.Binary, path by path: from kind to kind.
  eval.Binary, path by path: from kind to kind.
  Ops of two Ints: eval.difference, quotient, rest, ofInts.
  Ops of two numbers: eval.ofNumbers.
-/
import Derived.Test.YtclhmmgdhagloaaGreatDoorVMath
import Derived.Test.YtclhmmgdhagloaaGreatDoorMeDWide3
import Derived.Test.YtclhmmgdhagloaaGreatDoorMQHDeep
import Derived.Test.YtclhmmgdhagloaaGreatDoorMBVTruW
import Derived.Test.YtclhmmgdhagloaaGreatDoorVCmp2
import Derived.Test.YtclhmmgdhagloaaGreatDoorDDivs
import Derived.Test.YtclhmmgdhagloaaGreatDoorMRHTurn
import Derived.Test.YtclhmmgdhagloaaGreatDoorMaLJumps
import Derived.Test.YtclhmmgdhagloaaGreatDoorDInt0
import Derived.Test.YtclhmmgdhagloaaGreatDoorDSub
import Derived.Test.YtclhmmgdhagloaaGreatDoorDAdd
import Derived.Test.YtclhmmgdhagloaaGreatDoorDMul
import Derived.Test.YtclhmmgdhagloaaGreatDoorDDivz
namespace Go.Proofs.YtclhmmgdhagloaaGreatDoor

def nul : Va := ⟨0, 0, 0, []⟩
def vI (z : Int) : Va := ⟨1, z, 0, []⟩
/-- What is answered: a value and an error's number. -/
abbrev rs (r : Va × Int) : Value := .tuple #[vv r.1, .int .i64 r.2]

def wholeR (z e : Int) : Va × Int := if e = 0 then (vI z, 0) else (nul, e)
end Go.Proofs.YtclhmmgdhagloaaGreatDoor

namespace Go.Proofs.YtclhmmgdhagloaaGreatDoor

end Go.Proofs.YtclhmmgdhagloaaGreatDoor

namespace Go.Proofs.YtclhmmgdhagloaaGreatDoor
open Go.RowKit Go.Shelf
attribute [local go_sem] cell?_more frozen?_more setCell_more more_lt more_more more_drew more_drewN setCell_drewN alloc_drewN

theorem qnumber_any (k n m : Int) (b : ByteArray) (w : World) : Calls Tryz.prog 78 #[va k n m b] w fun e w' => e = .returned (.bool (k == 1 || k == 2)) ∧ Grew w w' := by
  by_cases h : k = 1
  · subst h
    go_enter Tryz.func78, Tryz.ntmps78
    go_wp2
    all_goals go_ret
    all_goals exact ⟨rfl, by repeat (first | exact Grew.refl _ | apply Grew.drew | apply Grew.drewN | apply Grew.alloc | apply Grew.more)⟩
  · have h' : (k == 1) = false := by simpa using h
    rw [h', Bool.false_or]
    go_enter Tryz.func78, Tryz.ntmps78
    go_wp2
    all_goals go_ret
    all_goals exact ⟨rfl, by repeat (first | exact Grew.refl _ | apply Grew.drew | apply Grew.drewN | apply Grew.alloc | apply Grew.more)⟩

theorem qunits_any (k n m : Int) (b : ByteArray) (w : World) : Calls Tryz.prog 80 #[va k n m b] w fun e w' => e = .returned (dv n m) ∧ Grew w w' := by
  go_enter Tryz.func80, Tryz.ntmps80
  go_wp2
  refine bodyPost_ret_by (v := dv n m) ?_ rfl ⟨rfl, ?_⟩
  · simp [results, Tryz.results80, go_sem]
  · repeat (first | exact Grew.refl _ | apply Grew.drew | apply Grew.drewN | apply Grew.alloc | apply Grew.more)

theorem qpoint_any (k n m : Int) (b : ByteArray) (w : World) : Calls Tryz.prog 155 #[va k n m b] w fun e w' => e = .returned (dv n m) ∧ Grew w w' := by
  go_enter Tryz.func155, Tryz.ntmps155
  go_wp2
  refine bodyPost_ret_by (v := dv n m) ?_ rfl ⟨rfl, ?_⟩
  · simp [results, Tryz.results155, go_sem]
  · repeat (first | exact Grew.refl _ | apply Grew.drew | apply Grew.drewN | apply Grew.alloc | apply Grew.more)

theorem qwhole_any (n x : Int) (w : World) : Calls Tryz.prog 142 #[.int .i64 n, .int .i64 x] w fun e w' => e = .returned (rs (wholeR n x)) ∧ Grew w w' := by
  unfold wholeR
  by_cases h : x = 0
  · subst h
    rw [if_pos rfl]
    go_enter Tryz.func142, Tryz.ntmps142
    go_wp2
    refine bodyPost_ret_by (v := rs (vI n, 0)) ?_ rfl ⟨rfl, ?_⟩
    · simp [results, Tryz.results142, go_sem, vI]
    · repeat (first | exact Grew.refl _ | apply Grew.drew | apply Grew.drewN | apply Grew.alloc | apply Grew.more)
  · rw [if_neg h]
    have h' : (x == 0) = false := by simpa using h
    go_enter Tryz.func142, Tryz.ntmps142
    go_wp2
    refine bodyPost_ret_by (v := rs (nul, x)) ?_ rfl ⟨rfl, ?_⟩
    · simp [results, Tryz.results142, go_sem, nul]
    · repeat (first | exact Grew.refl _ | apply Grew.drew | apply Grew.drewN | apply Grew.alloc | apply Grew.more)

end Go.Proofs.YtclhmmgdhagloaaGreatDoor

namespace Go.Proofs.YtclhmmgdhagloaaGreatDoor
open Go.RowKit Go.Shelf
attribute [local go_sem] cell?_more frozen?_more setCell_more more_lt more_more more_drew more_drewN setCell_drewN alloc_drewN


/-- A call gives this value in every world that has grown out of that one. -/
abbrev Tells (f : Nat) (args : Array Value) (w : World) (v : Value) : Prop := ∀ W : World, Below w.heap.size w W → Calls Tryz.prog f args W fun e w' => e = .returned v ∧ Below W.heap.size W w'
theorem Tells.later {f : Nat} {args : Array Value} {w w' : World} {v : Value} (h : Tells f args w v) (hb : Below w.heap.size w w') : Tells f args w' v := fun W hW => h W (below_trans hb hW)

end Go.Proofs.YtclhmmgdhagloaaGreatDoor

namespace Go.Proofs.YtclhmmgdhagloaaGreatDoor
open Go.RowKit Go.Shelf
attribute [local go_sem] cell?_more frozen?_more setCell_more more_lt more_more more_drew more_drewN setCell_drewN alloc_drewN


end Go.Proofs.YtclhmmgdhagloaaGreatDoor

namespace Go.Proofs.YtclhmmgdhagloaaGreatDoor
open Go.RowKit Go.Shelf
attribute [local go_sem] cell?_more frozen?_more setCell_more more_lt more_more more_drew more_drewN setCell_drewN alloc_drewN


end Go.Proofs.YtclhmmgdhagloaaGreatDoor

namespace Go.Proofs.YtclhmmgdhagloaaGreatDoor
open Go.RowKit Go.Shelf
attribute [local go_sem] cell?_more frozen?_more setCell_more more_lt more_more more_drew more_drewN setCell_drewN alloc_drewN


end Go.Proofs.YtclhmmgdhagloaaGreatDoor

namespace Go.Proofs.YtclhmmgdhagloaaGreatDoor
open Go.RowKit Go.Shelf
attribute [local go_sem] cell?_more frozen?_more setCell_more more_lt more_more more_drew more_drewN setCell_drewN alloc_drewN


end Go.Proofs.YtclhmmgdhagloaaGreatDoor

namespace Go.Proofs.YtclhmmgdhagloaaGreatDoor
open Go.RowKit Go.Shelf
attribute [local go_sem] cell?_more frozen?_more setCell_more more_lt more_more more_drew more_drewN setCell_drewN alloc_drewN

end Go.Proofs.YtclhmmgdhagloaaGreatDoor

namespace Go.Proofs.YtclhmmgdhagloaaGreatDoor
open Go.RowKit Go.Shelf
attribute [local go_sem] cell?_more frozen?_more setCell_more more_lt more_more more_drew more_drewN setCell_drewN alloc_drewN

end Go.Proofs.YtclhmmgdhagloaaGreatDoor
