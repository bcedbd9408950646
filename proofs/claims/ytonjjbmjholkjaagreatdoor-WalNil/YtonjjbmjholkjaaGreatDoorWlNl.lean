/-
  The walk of WalNil.
-/
import Derived.Test.YtonjjbmjholkjaaGreatDoorWlN
import Derived.Deep.Cut
namespace Go.Proofs.YtonjjbmjholkjaaGreatDoor
open Go.RowKit Go.Maps

set_option maxRecDepth 20000 in
set_option maxHeartbeats 2000000 in
theorem wnil_any (ao : Option Addr) (m cap : Nat) (w : World) (hT : Tab w) :
    Calls Tryz.prog 4 #[.slice ao m cap] w fun e w' => e = .returned (.bool true) ∧ Below w.heap.size w w' := by
  have HT : Hid (Tab w) := hT
  clear hT
  have AOpen := open_bare' (.pointer none) w (.inl rfl)
  obtain ⟨AAppend, ASince, ASync, ATruncate, ARetire, ASure⟩ := bare_log (.pointer none) w (.inl rfl)
  go_enter Tryz.func4, Tryz.ntmps4
  go_wp2
  refine wp_loop_rounds 3 ?_
  rw [rounds_succ]
  go_wp2_with (first
    | (go_at_call 11; refine AOpen.mono ?_; rintro e w' ⟨rfl, hw⟩; obtain rfl : w = w' := hw.symm)
    | (go_at_call 12; refine (AAppend _ _ _).mono ?_; rintro e w' ⟨rfl, hw⟩; obtain rfl : w = w' := hw.symm)
    | (go_at_call 13; refine (ASince _).mono ?_; rintro e w' ⟨rfl, hw⟩; obtain rfl : w = w' := hw.symm)
    | (go_at_call 15; refine ASync.mono ?_; rintro e w' ⟨rfl, hw⟩; obtain rfl : w = w' := hw.symm)
    | (go_at_call 16; refine (ATruncate _).mono ?_; rintro e w' ⟨rfl, hw⟩; obtain rfl : w = w' := hw.symm)
    | (go_at_call 17; refine (ARetire _).mono ?_; rintro e w' ⟨rfl, hw⟩; obtain rfl : w = w' := hw.symm)
    | (go_at_call 18; refine ASure.mono ?_; rintro e w' ⟨rfl, hw⟩; obtain rfl : w = w' := hw.symm)
    | (go_at_call 14; refine (wnum_any _ _).mono ?_; rintro e w' ⟨rfl, hw⟩; obtain rfl : w = w' := hw.symm))
  clear AOpen AAppend ASince ASync ATruncate ARetire ASure
  rw [rounds_succ]
  have e1 : (w.alloc (.cells #[.pointer none, .pointer none, .pointer none] 51)).heap[w.heap.size]? = some (.cells #[.pointer none, .pointer none, .pointer none] 51 (0, 0)) := heap_alloc_new _ _
  have b1 : Below w.heap.size w (w.alloc (.cells #[.pointer none, .pointer none, .pointer none] 51)) := (Below.refl _ _).alloc (Nat.le_refl _) _
  have e2 : ((w.alloc (.cells #[.pointer none, .pointer none, .pointer none] 51)).alloc (.cells #[.pointer none] 54)).heap[w.heap.size + 1]? = some (.cells #[.pointer none] 54 (0, 0)) := by
    have h := heap_alloc_new (w.alloc (.cells #[.pointer none, .pointer none, .pointer none] 51)) (.cells #[.pointer none] 54)
    simpa using h
  have b2 : Below (w.alloc (.cells #[.pointer none, .pointer none, .pointer none] 51)).heap.size (w.alloc (.cells #[.pointer none, .pointer none, .pointer none] 51)) ((w.alloc (.cells #[.pointer none, .pointer none, .pointer none] 51)).alloc (.cells #[.pointer none] 54)) := (Below.refl _ _).alloc (Nat.le_refl _) _
  have e1' : ((w.alloc (.cells #[.pointer none, .pointer none, .pointer none] 51)).alloc (.cells #[.pointer none] 54)).heap[w.heap.size]? = some (.cells #[.pointer none, .pointer none, .pointer none] 51 (0, 0)) := by
    rw [b2.block w.heap.size (by simp)]; exact e1
  have HB : Hid (Below w.heap.size w _) := b1.trans (b2.mono b1.size)
  obtain ⟨BAppend, BSince, BSync, BTruncate, BRetire, BSure⟩ := bare_log (.pointer (some ⟨w.heap.size + 1, 0, none⟩)) _ (.inr ⟨_, rfl, e2⟩)
  have BOpen := open_bare' (.pointer (some ⟨w.heap.size, 0, none⟩)) _ (.inr ⟨_, rfl, e1'⟩)
  clear e1 e2 e1' b1 b2
  go_wp2_with (first
    | (go_at_call 11; refine BOpen.mono ?_; rintro e w' ⟨rfl, rfl⟩)
    | (go_at_call 12; refine (BAppend _ _ _).mono ?_; rintro e w' ⟨rfl, rfl⟩)
    | (go_at_call 13; refine (BSince _).mono ?_; rintro e w' ⟨rfl, rfl⟩)
    | (go_at_call 15; refine BSync.mono ?_; rintro e w' ⟨rfl, rfl⟩)
    | (go_at_call 16; refine (BTruncate _).mono ?_; rintro e w' ⟨rfl, rfl⟩)
    | (go_at_call 17; refine (BRetire _).mono ?_; rintro e w' ⟨rfl, rfl⟩)
    | (go_at_call 18; refine BSure.mono ?_; rintro e w' ⟨rfl, rfl⟩)
    | (go_at_call 14; refine (wnum_any _ _).mono ?_; rintro e w' ⟨rfl, rfl⟩))
  clear BOpen BAppend BSince BSync BTruncate BRetire BSure
  rw [rounds_succ]
  have HB3 : Hid (Below w.heap.size w (((w.alloc (.cells #[.pointer none, .pointer none, .pointer none] 51)).alloc (.cells #[.pointer none] 54)).alloc (.cells #[.pointer none, .pointer none, .pointer none] 51) |>.alloc (.cells #[.pointer none] 54))) := (HB.out.alloc HB.out.size _).alloc (by have := HB.out.size; simp; omega) _
  have CK := wknows_any _ (HT.out.later HB3.out HT.out.pos)
  go_wp2_with (go_at_call 5; refine CK.mono ?_; rintro e w9 ⟨rfl, b9⟩)
  go_ret
  exact ⟨rfl, HB3.out.trans (b9.mono HB3.out.size)⟩
end Go.Proofs.YtonjjbmjholkjaaGreatDoor
