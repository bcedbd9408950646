/-
  datum.takeValue of a value's bytes, datum.Get of a row's bytes.
-/
import Derived.Test.YtafmchgncahafaaGreatDoorBkT
import Derived.Test.YtafmchgncahafaaGreatDoorMHVOrd1
import Derived.Laws.MakeOwn
namespace Go.Proofs.YtafmchgncahafaaGreatDoor.Bk
open Go.RowKit Go.Proofs.YtafmchgncahafaaGreatDoor.Co
attribute [local go_sem] cell?_more frozen?_more setCell_more more_lt more_more more_drew more_drewN setCell_drewN alloc_drewN

/-- The cells of a row of zero values. -/
def mz (n : Nat) : Array Value := madeCells #[.int .i64 0, .int .i64 0, .int .i64 0, .string ⟨#[]⟩] (n * 4)
theorem mz_get (n i : Nat) (h : i < n * 4) : (mz n)[i]? = some ((#[.int .i64 0, .int .i64 0, .int .i64 0, .string ⟨#[]⟩] : Array Value)[i % 4]!) := by
  unfold mz madeCells
  rw [Array.getElem?_map, Array.getElem?_range, if_pos h]
  rfl
theorem mz_at (w : World) (n j : Nat) (h : j < n) : At4 (w.alloc (.cells (mz n) 47)) w.heap.size (j * 4) ⟨0, 0, 0, []⟩ := by
  have C := Cbox.new w (mz n) 47
  refine ⟨?_, ?_, ?_, ?_⟩
  · rw [C.at, mz_get n _ (by omega), show j * 4 % 4 = 0 by omega]; rfl
  · rw [C.at, mz_get n _ (by omega), show (j * 4 + 1) % 4 = 1 by omega]; rfl
  · rw [C.at, mz_get n _ (by omega), show (j * 4 + 2) % 4 = 2 by omega]; rfl
  · rw [C.at, mz_get n _ (by omega), show (j * 4 + 3) % 4 = 3 by omega]; rfl
theorem make_run (n : Nat) (hn : n ≤ 64) (wx : World) : (Instr.makeSlice 22 (.int .i64 (n : Int)) (.int .i64 (n : Int))).run Tryz.prog wx = .ok (.slice (some ⟨wx.heap.size, 0, none⟩) n n) (wx.alloc (.cells (mz n) 47)) := by
  obtain ⟨i0, hi, hz, hs, hb⟩ := info_parts Tryz.info47
  have h := run_make (P := Tryz.prog) wx 22 47 i0 _ Tryz.underlying22 hi hz .i64 .i64 (n : Int) (n : Int) (by omega) (Int.le_refl _) (by rw [hb]; omega) (by omega)
  rw [hs, Int.toNat_natCast] at h
  exact h
def intOf : Value → Int
  | .int _ n => n
  | _ => 0
theorem cast1 (k : Nat) : ((k + 1 : Nat) : Int) = (k : Int) + 1 := by omega
/-- What stands at a place of the row while it is read. -/
def pick (l : List Va) (i j : Nat) : Va := if j < i then l.getD j ⟨0, 0, 0, []⟩ else ⟨0, 0, 0, []⟩
end Go.Proofs.YtafmchgncahafaaGreatDoor.Bk
