/-
  The walk of TreeNil.
-/
import Derived.Test.YtmdembfnpmlmaaaTnG
namespace Go.Proofs.Ytmdembfnpmlmaaa
open Go.RowKit

theorem Bare.later {w w' : World} {v : Value} (h : Bare w v) (hb : Below w.heap.size w w') : Bare w' v := by
  rcases h with rfl | ⟨T, rfl, hT⟩
  · exact .inl rfl
  · exact .inr ⟨T, rfl, (hb.block T (lt_of_some hT)).trans hT⟩

set_option maxRecDepth 20000 in
set_option maxHeartbeats 4000000 in
theorem nil_any (key : ByteArray) (n : Int) (w : World) :
    Calls Try.prog 4 #[.string key, .int .i64 n] w fun e w' => e = .returned (.bool true) ∧ Below w.heap.size w w' := by
  go_enter Try.func4, Try.ntmps4
  go_wp2
  go_loopw [5, 6] (fun s5 s6 wr => ∃ (k : Nat) (x : Option Addr), s6 = .int .i64 (k : Int) ∧ s5 = .pointer x ∧ Hid (k ≤ 2 ∧ Bare wr (.pointer x) ∧ Below w.heap.size w wr)) (fun _ i _ => 2 - (RowKit.intOf i).toNat)
  case atStart => exact ⟨0, none, rfl, rfl, by omega, .inl rfl, Below.refl _ _⟩
  case round =>
    obtain ⟨k, x, rfl, rfl, hH⟩ := hrel
    by_cases hlt : k < 2
    · have hlt' : (k : Int) < 2 := by omega
      have hwi : IntKind.i64.wrap ((k : Int) + 1) = ((k + 1 : Nat) : Int) := by rw [IntKind.wrap_i64]; omega
      have HME : Hid (k + 1 ≤ 2 ∧ 2 - ((k : Int) + 1).toNat < 2 - ((k : Int)).toNat) := ⟨hlt, by omega⟩
      obtain ⟨APut, AGet, ADel, -, -, -⟩ := bare_calls (.pointer x) wr hH.out.2.1
      have AN := next_bare (.pointer x) key wr hH.out.2.1
      clear hlt
      go_upto_region 8 with (first
        | (go_at_call 14; refine (APut _ _).mono ?_; rintro e w' ⟨rfl, hw⟩; obtain rfl : wr = w' := hw.symm)
        | (go_at_call 15; refine (AGet _).mono ?_; rintro e w' ⟨rfl, hw⟩; obtain rfl : wr = w' := hw.symm)
        | (go_at_call 16; refine (ADel _).mono ?_; rintro e w' ⟨rfl, hw⟩; obtain rfl : wr = w' := hw.symm))
      clear APut AGet ADel
      go_upto_region 9 with (go_at_call 17; refine AN.mono ?_; rintro e w1 ⟨rfl, b1⟩)
      obtain ⟨W1, hW1⟩ : ∃ W1, W1 = w1.alloc (.cells #[.string ⟨#[]⟩, .int .i64 0] 42) := ⟨_, rfl⟩
      have c1 : Below wr.heap.size wr W1 := b1.trans (by rw [hW1]; exact (Below.refl wr.heap.size w1).alloc b1.size _)
      rw [← hW1]
      have AB := back_bare (.pointer x) key W1 (hH.out.2.1.later c1)
      have H1 : Hid (Below wr.heap.size wr W1) := c1
      clear hW1 c1 b1 AN
      go_upto_region 10 with (go_at_call 18; refine AB.mono ?_; rintro e w2 ⟨rfl, b2⟩)
      obtain ⟨W2, hW2⟩ : ∃ W2, W2 = w2.alloc (.cells #[.string ⟨#[]⟩, .int .i64 0] 42) := ⟨_, rfl⟩
      have c2 : Below wr.heap.size wr W2 := (H1.out.trans (b2.mono H1.out.size)).trans (by rw [hW2]; exact (Below.refl wr.heap.size w2).alloc (Nat.le_trans H1.out.size b2.size) _)
      rw [← hW2]
      obtain ⟨-, -, -, ASh, AAll, ALen⟩ := bare_calls (.pointer x) W2 (hH.out.2.1.later c2)
      have H2 : Hid (Below w.heap.size w W2) := hH.out.2.2.trans (c2.mono hH.out.2.2.size)
      clear hW2 c2 b2 AB
      go_upto_region 11 with (go_at_call 19; refine ASh.mono ?_; rintro e w' ⟨rfl, hw⟩; obtain rfl : W2 = w' := hw.symm)
      clear ASh
      go_wp2_with (first
        | (go_at_call 12; refine AAll.mono ?_; rintro e w' ⟨rfl, hw⟩; obtain rfl : W2 = w' := hw.symm)
        | (go_at_call 13; refine ALen.mono ?_; rintro e w' ⟨rfl, hw⟩; obtain rfl : W2 = w' := hw.symm))
      go_roundw
      case rel =>
        refine ⟨k + 1, _, rfl, rfl, HME.out.1, .inr ⟨_, rfl, heap_alloc_new W2 _⟩, H2.out.trans ?_⟩
        exact (Below.refl _ W2).alloc H2.out.size _
      case measure => exact HME.out.2
    · have hlt' : ¬ (k : Int) < 2 := by omega
      have CK := knows_any wr
      have HB : Hid (Below w.heap.size w wr) := hH.out.2.2
      clear hlt
      go_wp2_with (go_at_call 9; refine CK.mono ?_; rintro e w9 ⟨rfl, b9⟩)
      go_ret
      exact ⟨rfl, HB.out.trans (b9.mono HB.out.size)⟩
end Go.Proofs.Ytmdembfnpmlmaaa
