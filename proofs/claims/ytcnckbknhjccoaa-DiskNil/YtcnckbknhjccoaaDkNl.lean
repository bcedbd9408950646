/-
  The walk of DiskNil.
-/
import Derived.Test.YtcnckbknhjccoaaDkW
import Derived.Deep.Cut
namespace Go.Proofs.Ytcnckbknhjccoaa
open Go.RowKit Go.Maps

set_option maxRecDepth 20000 in
set_option maxHeartbeats 2000000 in
theorem nil_any (kd n : Int) (ao : Option Addr) (m cap : Nat) (torn : Bool) (f : Value) (w : World) :
    Calls Try.prog 4 #[.agg #[.int .i64 kd, .int .i64 n, .slice ao m cap, .bool torn, f]] w fun e w' => e = .returned (.bool true) ∧ Below w.heap.size w w' := by
  obtain ⟨W0, hW0⟩ : ∃ W0, W0 = w.alloc (.cells #[.int .i64 kd, .int .i64 n, .slice ao m cap, .bool torn, f] 35) := ⟨_, rfl⟩
  have b0 : Below w.heap.size w W0 := by rw [hW0]; exact (Below.refl _ _).alloc (Nat.le_refl _) _
  obtain ⟨ACrash, AAppend, ARead, ALoad, ASync, ACut, ARetire, AWrite, ABase, AEnd, ADown, AFuse⟩ := bare_calls (.pointer none) (w.alloc (.cells #[.int .i64 kd, .int .i64 n, .slice ao m cap, .bool torn, f] 35)) (.inl rfl)
  go_enter Try.func4, Try.ntmps4
  go_wp2
  refine wp_loop_rounds 3 ?_
  rw [rounds_succ]
  go_wp2_with (first
    | (go_at_call 12; refine (ACrash _ _ _).mono ?_; rintro e w' ⟨⟨v, rfl⟩, rfl⟩)
    | (go_at_call 13; refine (AAppend _ _ _).mono ?_; rintro e w' ⟨rfl, rfl⟩)
    | (go_at_call 14; refine (ARead _).mono ?_; rintro e w' ⟨rfl, rfl⟩)
    | (go_at_call 15; refine (ALoad _).mono ?_; rintro e w' ⟨rfl, rfl⟩)
    | (go_at_call 16; refine ASync.mono ?_; rintro e w' ⟨rfl, rfl⟩)
    | (go_at_call 17; refine (ACut _).mono ?_; rintro e w' ⟨rfl, rfl⟩)
    | (go_at_call 18; refine (ARetire _).mono ?_; rintro e w' ⟨rfl, rfl⟩)
    | (go_at_call 19; refine (AWrite _ _ _ _).mono ?_; rintro e w' ⟨rfl, rfl⟩)
    | (go_at_call 20; refine ABase.mono ?_; rintro e w' ⟨rfl, rfl⟩)
    | (go_at_call 21; refine AEnd.mono ?_; rintro e w' ⟨rfl, rfl⟩)
    | (go_at_call 22; refine ADown.mono ?_; rintro e w' ⟨rfl, rfl⟩)
    | (go_at_call 23; refine (AFuse _).mono ?_; rintro e w' ⟨⟨v, rfl⟩, rfl⟩)
    | (go_at_call 9; refine (num_any _ _).mono ?_; rintro e w' ⟨rfl, rfl⟩))
  clear ACrash AAppend ARead ALoad ASync ACut ARetire AWrite ABase AEnd ADown AFuse
  rw [rounds_succ]
  obtain ⟨BCrash, BAppend, BRead, BLoad, BSync, BCut, BRetire, BWrite, BBase, BEnd, BDown, BFuse⟩ := bare_calls (.pointer (some ⟨w.heap.size + 1, 0, none⟩)) ((w.alloc (.cells #[.int .i64 kd, .int .i64 n, .slice ao m cap, .bool torn, f] 35)).alloc (.cells #[.pointer none, .pointer none, .pointer none] 51)) (.inr ⟨_, rfl, by have h := heap_alloc_new (w.alloc (.cells #[.int .i64 kd, .int .i64 n, .slice ao m cap, .bool torn, f] 35)) (.cells #[.pointer none, .pointer none, .pointer none] 51); simpa using h⟩)
  go_wp2_with (first
    | (go_at_call 12; refine (BCrash _ _ _).mono ?_; rintro e w' ⟨⟨v, rfl⟩, rfl⟩)
    | (go_at_call 13; refine (BAppend _ _ _).mono ?_; rintro e w' ⟨rfl, rfl⟩)
    | (go_at_call 14; refine (BRead _).mono ?_; rintro e w' ⟨rfl, rfl⟩)
    | (go_at_call 15; refine (BLoad _).mono ?_; rintro e w' ⟨rfl, rfl⟩)
    | (go_at_call 16; refine BSync.mono ?_; rintro e w' ⟨rfl, rfl⟩)
    | (go_at_call 17; refine (BCut _).mono ?_; rintro e w' ⟨rfl, rfl⟩)
    | (go_at_call 18; refine (BRetire _).mono ?_; rintro e w' ⟨rfl, rfl⟩)
    | (go_at_call 19; refine (BWrite _ _ _ _).mono ?_; rintro e w' ⟨rfl, rfl⟩)
    | (go_at_call 20; refine BBase.mono ?_; rintro e w' ⟨rfl, rfl⟩)
    | (go_at_call 21; refine BEnd.mono ?_; rintro e w' ⟨rfl, rfl⟩)
    | (go_at_call 22; refine BDown.mono ?_; rintro e w' ⟨rfl, rfl⟩)
    | (go_at_call 23; refine (BFuse _).mono ?_; rintro e w' ⟨⟨v, rfl⟩, rfl⟩)
    | (go_at_call 9; refine (num_any _ _).mono ?_; rintro e w' ⟨rfl, rfl⟩))
  clear BCrash BAppend BRead BLoad BSync BCut BRetire BWrite BBase BEnd BDown BFuse
  rw [rounds_succ]
  go_wp2_with (go_at_call 10; refine (knows_any _).mono ?_; rintro e w9 ⟨rfl, b9⟩)
  go_ret
  subst hW0
  refine ⟨rfl, ?_⟩
  have b1 : Below w.heap.size w _ := (b0.alloc b0.size (.cells #[.pointer none, .pointer none, .pointer none] 51)).alloc (by simp; omega) (.cells #[.pointer none, .pointer none, .pointer none] 51)
  exact b1.trans (b9.mono b1.size)
end Go.Proofs.Ytcnckbknhjccoaa
