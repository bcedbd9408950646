/-
  The contracts of package decimal's sums and orders: rightScale, Right, raised, ofScale, Add, Sub, Neg, Compare: for every decimal.
-/
import Derived.Test.YtibbenhplmmmiaaGreatDoorMiDWide3
import Derived.Deep.RegionWith
import Derived.Deep.RegionHeld
import Derived.Deep.DrawnRows
namespace Go.Proofs.YtibbenhplmmmiaaGreatDoor
open Go.RowKit
attribute [local go_sem] cell?_more frozen?_more setCell_more more_lt more_drew more_drewN setCell_drewN alloc_drewN

/-- The table of powers as it lies in memory. -/
def Pw (w : World) : Prop := ∀ k : Nat, k < 13 → w.cell? ⟨2, k, none⟩ = some (.int .i64 (10 ^ k : Nat))
theorem Pw.pos {w : World} (h : Pw w) : 2 < w.heap.size := World.block_lt_of_cell? w _ (h 0 (by decide))
theorem Pw.later {w w' : World} (h : Pw w) (hb : Grew w w') : Pw w' := fun k hk => by rw [hb.below.cell (p := ⟨2, k, none⟩) h.pos]; exact h k hk

/-- A decimal as a value. -/
abbrev dv (u s : Int) : Value := .agg #[.int .i64 u, .int .i64 s]
def rightS (s : Int) : Bool := decide (0 ≤ s ∧ s ≤ 6)
theorem rightS_iff (s : Int) : rightS s = true ↔ (0 ≤ s ∧ s ≤ 6) := by simp [rightS]
set_option maxHeartbeats 400000 in
theorem rightScale_any (s : Int) (w : World) : Calls Tryz.prog 215 #[.int .i64 s] w fun e w' => e = .returned (.bool (rightS s)) ∧ w = w' := by
  go_enter Tryz.func215, Tryz.ntmps215
  go_wp2
  all_goals go_ret
  all_goals refine ⟨ret_bool ?_, rfl⟩
  all_goals rw [Bool.eq_iff_iff, rightS_iff]
  all_goals simp
  all_goals omega

set_option maxHeartbeats 400000 in
theorem right_any (u s : Int) (w : World) : Calls Tryz.prog 146 #[dv u s] w fun e w' => e = .returned (.bool (rightS s)) ∧ Grew w w' := by
  go_enter Tryz.func146, Tryz.ntmps146
  go_wp2_with (go_at_call 215; refine (rightScale_any _ _).mono ?_; rintro e w' ⟨rfl, rfl⟩)
  go_ret
  exact ⟨rfl, (Grew.refl _).alloc _⟩

/-- What is answered of a number: a decimal of that scale, or an error. -/
def fs (z s : Int) : Int := if fits z then s else 0
abbrev dres (z s : Int) : Value := .tuple #[dv (nz z) (fs z s), .int .i64 (nErr z)]
set_option maxHeartbeats 1000000 in
theorem ofScale_any (b : Bool) (h l : Nat) (s : Int) (w : World) (hl : l < 18446744073709551616) :
    Calls Tryz.prog 212 #[wd b h l, .int .i64 s] w fun e w' => e = .returned (dres (sval b (h * 18446744073709551616 + l)) s) ∧ Grew w w' := by
  have S := fun W => narrowed_any b h l W hl
  generalize sval b (h * 18446744073709551616 + l) = z at *
  by_cases hf : fits z = true
  · have e1 : nErr z = 0 := by simp [nErr, hf]
    have e3 : fs z s = s := by simp [fs, hf]
    rw [dres, e3, e1]
    rw [e1] at S
    clear e1 e3 hf
    go_enter Tryz.func212, Tryz.ntmps212
    go_wp2_with (go_at_call 222; refine (S _).mono ?_; rintro e w' ⟨rfl, os, n, rfl⟩)
    refine bodyPost_ret_by (v := .tuple #[dv (nz z) s, .int .i64 0]) ?_ rfl ⟨rfl, (((((Grew.refl _).alloc _).alloc _).more _).drewN _)⟩
    simp [results, Tryz.results212, go_sem]
  · have e1 : nErr z = 32 := by simp [nErr, hf]
    have e2 : nz z = 0 := by simp [nz, hf]
    have e3 : fs z s = 0 := by simp [fs, hf]
    rw [dres, e3, e1, e2]
    rw [e1, e2] at S
    clear e1 e2 e3 hf
    go_enter Tryz.func212, Tryz.ntmps212
    go_wp2_with (go_at_call 222; refine (S _).mono ?_; rintro e w' ⟨rfl, os, n, rfl⟩)
    refine bodyPost_ret_by (v := .tuple #[dv 0 0, .int .i64 32]) ?_ rfl ⟨rfl, (((((Grew.refl _).alloc _).alloc _).more _).drewN _)⟩
    simp [results, Tryz.results212, go_sem]
end Go.Proofs.YtibbenhplmmmiaaGreatDoor
