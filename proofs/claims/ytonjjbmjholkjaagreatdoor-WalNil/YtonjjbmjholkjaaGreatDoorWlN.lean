/-
  No log, and one that nobody made, and what Open answers for no disk, or for one that nobody made.
-/
import Derived.Test.YtonjjbmjholkjaaGreatDoorWlK
namespace Go.Proofs.YtonjjbmjholkjaaGreatDoor
open Go.RowKit

/-- No log, or one that nobody made. -/
def BareW (w : World) (v : Value) : Prop := v = .pointer none ∨ ∃ B, v = .pointer (some ⟨B, 0, none⟩) ∧ w.heap[B]? = some (.cells #[.pointer none] 54 (0, 0))

theorem wmade_bare (v : Value) (w : World) (hv : BareW w v) :
    Calls Tryz.prog 25 #[v] w fun e w' => e = .returned (.bool false) ∧ w' = w := by
  rcases hv with rfl | ⟨B, rfl, hB⟩
  · go_enter Tryz.func25, Tryz.ntmps25
    go_wp2
    go_ret
    exact ⟨rfl, rfl⟩
  · have c0 : w.cell? ⟨B, 0, none⟩ = some (.pointer none) := bl_cell hB 0 _ rfl
    clear hB
    go_enter Tryz.func25, Tryz.ntmps25
    go_wp2
    go_ret
    exact ⟨rfl, rfl⟩

theorem base_bare (v : Value) (w : World) (hv : Bare w v) :
    Calls Tryz.prog 44 #[v] w fun e w' => e = .returned (.int .i64 0) ∧ w' = w := by
  have CW := wasMade_bare v w hv
  obtain ⟨x, rfl⟩ : ∃ x, v = .pointer x := by rcases hv with rfl | ⟨B, rfl, _⟩; · exact ⟨_, rfl⟩
                                              · exact ⟨_, rfl⟩
  clear hv
  go_enter Tryz.func44, Tryz.ntmps44
  go_wp2_with (go_at_call 34; refine CW.mono ?_; rintro e w' ⟨rfl, hw⟩; obtain rfl : w = w' := hw.symm)
  go_ret
  exact ⟨rfl, rfl⟩

theorem read_bare (v : Value) (w : World) (hv : Bare w v) (k : Int) :
    Calls Tryz.prog 43 #[v, .int .i64 k] w fun e w' => e = .returned (.tuple #[.slice none 0 0, .int .i64 1]) ∧ w' = w := by
  have CF := fault_bare v w hv
  obtain ⟨x, rfl⟩ : ∃ x, v = .pointer x := by rcases hv with rfl | ⟨B, rfl, _⟩; · exact ⟨_, rfl⟩
                                              · exact ⟨_, rfl⟩
  clear hv
  go_enter Tryz.func43, Tryz.ntmps43
  go_wp2_with (go_at_call 71; refine CF.mono ?_; rintro e w' ⟨rfl, hw⟩; obtain rfl : w = w' := hw.symm)
  go_ret2
  exact ⟨rfl, rfl⟩

theorem openLog_bare (v : Value) (w : World) (hv : Bare w v) :
    Calls Tryz.prog 23 #[v] w fun e w' => e = .returned (.tuple #[.pointer none, .int .i64 1]) ∧ w' = w := by
  have CB := base_bare v w hv
  have CR := read_bare v w hv
  obtain ⟨x, rfl⟩ : ∃ x, v = .pointer x := by rcases hv with rfl | ⟨B, rfl, _⟩; · exact ⟨_, rfl⟩
                                              · exact ⟨_, rfl⟩
  clear hv
  go_enter Tryz.func23, Tryz.ntmps23
  go_wp2_with (first | (go_at_call 44; refine CB.mono ?_; rintro e w' ⟨rfl, hw⟩; obtain rfl : w = w' := hw.symm) | (go_at_call 43; refine (CR _).mono ?_; rintro e w' ⟨rfl, hw⟩; obtain rfl : w = w' := hw.symm))
  go_ret2
  exact ⟨rfl, rfl⟩

theorem open_bare' (v : Value) (w : World) (hv : Bare w v) :
    Calls Tryz.prog 11 #[v] w fun e w' => e = .returned (.tuple #[.pointer none, .slice none 0 0, .int .i64 1]) ∧ w' = w := by
  have CO := openLog_bare v w hv
  obtain ⟨x, rfl⟩ : ∃ x, v = .pointer x := by rcases hv with rfl | ⟨B, rfl, _⟩; · exact ⟨_, rfl⟩
                                              · exact ⟨_, rfl⟩
  clear hv
  go_enter Tryz.func11, Tryz.ntmps11
  go_wp2_with (go_at_call 23; refine CO.mono ?_; rintro e w' ⟨rfl, hw⟩; obtain rfl : w = w' := hw.symm)
  go_ret3
  exact ⟨rfl, rfl⟩

/-- The methods of no log, and of one that nobody made. -/
theorem bare_log (v : Value) (w : World) (hv : BareW w v) :
    (∀ a n c, Calls Tryz.prog 12 #[v, .slice a n c] w fun e w' => e = .returned (.tuple #[.int .i64 0, .int .i64 1]) ∧ w' = w) ∧
    (∀ k, Calls Tryz.prog 13 #[v, .int .i64 k] w fun e w' => e = .returned (.tuple #[.slice none 0 0, .int .i64 1]) ∧ w' = w) ∧
    (Calls Tryz.prog 15 #[v] w fun e w' => e = .returned (.int .i64 1) ∧ w' = w) ∧
    (∀ k, Calls Tryz.prog 16 #[v, .int .i64 k] w fun e w' => e = .returned (.int .i64 1) ∧ w' = w) ∧
    (∀ k, Calls Tryz.prog 17 #[v, .int .i64 k] w fun e w' => e = .returned (.int .i64 1) ∧ w' = w) ∧
    (Calls Tryz.prog 18 #[v] w fun e w' => e = .returned (.int .i64 0) ∧ w' = w) := by
  have CW := wmade_bare v w hv
  obtain ⟨x, rfl⟩ : ∃ x, v = .pointer x := by rcases hv with rfl | ⟨B, rfl, _⟩; · exact ⟨_, rfl⟩
                                              · exact ⟨_, rfl⟩
  clear hv
  refine ⟨fun a n c => ?_, fun k => ?_, ?_, fun k => ?_, fun k => ?_, ?_⟩
  · go_enter Tryz.func12, Tryz.ntmps12
    go_wp2_with (go_at_call 25; refine CW.mono ?_; rintro e w' ⟨rfl, hw⟩; obtain rfl : w = w' := hw.symm)
    go_ret2
    exact ⟨rfl, rfl⟩
  · go_enter Tryz.func13, Tryz.ntmps13
    go_wp2_with (go_at_call 25; refine CW.mono ?_; rintro e w' ⟨rfl, hw⟩; obtain rfl : w = w' := hw.symm)
    go_ret2
    exact ⟨rfl, rfl⟩
  · go_enter Tryz.func15, Tryz.ntmps15
    go_wp2_with (go_at_call 25; refine CW.mono ?_; rintro e w' ⟨rfl, hw⟩; obtain rfl : w = w' := hw.symm)
    go_ret
    exact ⟨rfl, rfl⟩
  · go_enter Tryz.func16, Tryz.ntmps16
    go_wp2_with (go_at_call 25; refine CW.mono ?_; rintro e w' ⟨rfl, hw⟩; obtain rfl : w = w' := hw.symm)
    go_ret
    exact ⟨rfl, rfl⟩
  · go_enter Tryz.func17, Tryz.ntmps17
    go_wp2_with (go_at_call 25; refine CW.mono ?_; rintro e w' ⟨rfl, hw⟩; obtain rfl : w = w' := hw.symm)
    go_ret
    exact ⟨rfl, rfl⟩
  · go_enter Tryz.func18, Tryz.ntmps18
    go_wp2_with (go_at_call 25; refine CW.mono ?_; rintro e w' ⟨rfl, hw⟩; obtain rfl : w = w' := hw.symm)
    go_ret
    exact ⟨rfl, rfl⟩
end Go.Proofs.YtonjjbmjholkjaaGreatDoor
