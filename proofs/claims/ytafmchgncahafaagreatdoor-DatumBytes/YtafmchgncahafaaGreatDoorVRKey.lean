/-
  The contracts of the document's four and wide.
-/
import Derived.Test.YtafmchgncahafaaGreatDoorVKeyA
namespace Go.Proofs.YtafmchgncahafaaGreatDoor
open Go.RowKit
attribute [local go_sem] cell?_more frozen?_more setCell_more more_lt more_more more_drew more_drewN setCell_drewN alloc_drewN

theorem byte256 (n d : Nat) : (n : Int) / (d : Int) % 256 = ((UInt8.ofNat (n / d % 256)).toNat : Int) := by
  have : (UInt8.ofNat (n / d % 256)).toNat = n / d % 256 := UInt8.toNat_ofNat_of_lt' (Nat.mod_lt _ (by decide))
  rw [this]
  omega
theorem bigE4 (n : Nat) : bigE 4 n = [UInt8.ofNat (n / 16777216 % 256), UInt8.ofNat (n / 65536 % 256), UInt8.ofNat (n / 256 % 256), UInt8.ofNat (n / 1 % 256)] := rfl

set_option maxHeartbeats 1000000 in
theorem four_any (n : Int) (w : World) (h0 : -1048576 ≤ n) (h1 : n ≤ 1048576) :
    Calls Tryz.prog 33 #[.int .i64 n] w fun e w' => ∃ v', e = .returned v' ∧ Own w' w.heap.size v' (bigE 4 (n + 2 ^ 31).toNat) ∧ Below w.heap.size w w' := by
  obtain ⟨q, hq⟩ : ∃ q : Nat, q = (n + 2 ^ 31).toNat := ⟨_, rfl⟩
  have e1 : n + 2147483648 = (q : Int) := by omega
  rw [← hq]
  have q1 : (q : Int) ≤ 4294967295 := by omega
  have q0 : (0 : Int) ≤ (q : Int) := by omega
  have y0 := byte256 q 16777216
  have y1 := byte256 q 65536
  have y2 := byte256 q 256
  have y3 := byte256 q 1
  have HO : Hid (Own (w.alloc (.cells #[.int .u8 ((UInt8.ofNat (q / 16777216 % 256)).toNat : Int), .int .u8 ((UInt8.ofNat (q / 65536 % 256)).toNat : Int), .int .u8 ((UInt8.ofNat (q / 256 % 256)).toNat : Int), .int .u8 ((UInt8.ofNat (q / 1 % 256)).toNat : Int)] 5)) w.heap.size (.slice (some ⟨w.heap.size, 0, none⟩) 4 4) (bigE 4 q)) := by
    show Own _ _ _ _
    rw [bigE4]
    refine ⟨rfl, .inr ⟨w.heap.size, 4, #[.int .u8 ((UInt8.ofNat (q / 16777216 % 256)).toNat : Int), .int .u8 ((UInt8.ofNat (q / 65536 % 256)).toNat : Int), .int .u8 ((UInt8.ofNat (q / 256 % 256)).toNat : Int), .int .u8 ((UInt8.ofNat (q / 1 % 256)).toNat : Int)], rfl, Nat.le_refl _, ?_, Nat.le_refl _, by decide, rfl, rfl⟩⟩
    show (w.heap.push _)[w.heap.size]? = _
    simp
  clear hq
  go_enter Tryz.func33, Tryz.ntmps33
  go_wp2
  go_ret
  refine ⟨_, rfl, ?_, (Below.refl _ _).alloc (Nat.le_refl _) _⟩
  have z0 : (q : Int) / 16777216 = ((UInt8.ofNat (q / 16777216 % 256)).toNat : Int) := by rw [← y0]; omega
  have z3 : (q : Int) % 256 = ((UInt8.ofNat (q / 1 % 256)).toNat : Int) := by rw [← y3]; omega
  have z1 : (q : Int) / 65536 % 256 = ((UInt8.ofNat (q / 65536 % 256)).toNat : Int) := y1
  have z2 : (q : Int) / 256 % 256 = ((UInt8.ofNat (q / 256 % 256)).toNat : Int) := y2
  rw [z0, z1, z2, z3]
  exact HO.out
end Go.Proofs.YtafmchgncahafaaGreatDoor
