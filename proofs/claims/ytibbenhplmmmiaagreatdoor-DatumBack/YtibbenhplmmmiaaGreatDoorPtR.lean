/-
  The document's side of points' texts: Right, digits, Print, number, Parse.
-/
import Derived.Test.YtibbenhplmmmiaaGreatDoorPtP
namespace Go.Proofs.YtibbenhplmmmiaaGreatDoor.Pt
open Go.RowKit Go.Shelf
attribute [local go_sem] cell?_more frozen?_more setCell_more more_lt more_more more_drew more_drewN setCell_drewN alloc_drewN

/-- The byte at a place. -/
def bat (l : List UInt8) (k : Nat) : UInt8 := l.getD k 0
def intOf : Value → Int
  | .int _ n => n
  | _ => 0
theorem cast1 (k : Nat) : ((k + 1 : Nat) : Int) = (k : Int) + 1 := by omega
theorem rright_any (x y : Int) (w : World) : Calls Tryz.prog 47 #[.agg #[.int .i64 x, .int .i64 y]] w fun e w' => e = .returned (.bool ((ok1 x && ok1 y))) ∧ Grew w w' := by
  by_cases h1 : -1048576 ≤ x
  · by_cases h2 : x ≤ 1048576
    · by_cases h3 : -1048576 ≤ y
      · by_cases h4 : y ≤ 1048576
        · have hr : (ok1 x && ok1 y) = true := by simp [ok1, h1, h2, h3, h4]
          rw [hr]
          go_enter Tryz.func47, Tryz.ntmps47
          go_wp2
          all_goals go_ret
          all_goals exact ⟨rfl, by repeat (first | exact Grew.refl _ | apply Grew.drew | apply Grew.drewN | apply Grew.alloc | apply Grew.more)⟩
        · have hr : (ok1 x && ok1 y) = false := by simp [ok1, h4]
          rw [hr]
          go_enter Tryz.func47, Tryz.ntmps47
          go_wp2
          all_goals go_ret
          all_goals exact ⟨rfl, by repeat (first | exact Grew.refl _ | apply Grew.drew | apply Grew.drewN | apply Grew.alloc | apply Grew.more)⟩
      · have hr : (ok1 x && ok1 y) = false := by simp [ok1, h3]
        rw [hr]
        go_enter Tryz.func47, Tryz.ntmps47
        go_wp2
        all_goals go_ret
        all_goals exact ⟨rfl, by repeat (first | exact Grew.refl _ | apply Grew.drew | apply Grew.drewN | apply Grew.alloc | apply Grew.more)⟩
    · have hr : (ok1 x && ok1 y) = false := by simp [ok1, h2]
      rw [hr]
      go_enter Tryz.func47, Tryz.ntmps47
      go_wp2
      all_goals go_ret
      all_goals exact ⟨rfl, by repeat (first | exact Grew.refl _ | apply Grew.drew | apply Grew.drewN | apply Grew.alloc | apply Grew.more)⟩
  · have hr : (ok1 x && ok1 y) = false := by simp [ok1, h1]
    rw [hr]
    go_enter Tryz.func47, Tryz.ntmps47
    go_wp2
    all_goals go_ret
    all_goals exact ⟨rfl, by repeat (first | exact Grew.refl _ | apply Grew.drew | apply Grew.drewN | apply Grew.alloc | apply Grew.more)⟩

theorem ba_app (a b : List UInt8) : (⟨a.toArray⟩ : ByteArray) ++ ⟨b.toArray⟩ = ⟨(a ++ b).toArray⟩ := by
  apply ByteArray.ext
  simp
end Go.Proofs.YtibbenhplmmmiaaGreatDoor.Pt
