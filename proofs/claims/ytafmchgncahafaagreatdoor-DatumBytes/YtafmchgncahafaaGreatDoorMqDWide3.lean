/-
  A world with some blocks more and some draws behind it: how its cells read and how a store into an older block goes inward. Nothing of the program is in it.
  Plain facts on numbers that the walks of package decimal lean on: signs and magnitudes, rounding to the nearest and to the even one, and the school's division of two words by one. Nothing of the program is in it.
  The contracts of math/bits.Add64, Sub64 and Mul64, as the walks of package decimal meet them: for every word.
  The contracts of package decimal's wide numbers: magnitude, widened, product, nearerZero, sum, difference, sign, narrowed: for every number.
  The contracts of package decimal's wide numbers, gone on: a sum of unlike signs, difference, sign, narrowed.
  The contracts of package decimal's wide numbers, gone on: difference, sign, narrowed.
-/
import Derived.WalkKit
import Derived.WalkSmall
import Derived.Laws.NewBlocks
import Derived.Deep.Draws
import Derived.WalkSpells
import Derived.Test.YtafmchgncahafaaGreatDoorProg
import Derived.WalkLawsBesides
import Derived.Lib.Mul64
import Derived.Laws.Bits64b
import Derived.Laws.Externs
import Derived.RowKit3
import Derived.StillTactics
namespace Go.Proofs.YtafmchgncahafaaGreatDoor
open Go.RowKit

def more (w : World) : List Obj → World
  | [] => w
  | o :: os => more (w.alloc o) os

theorem more_size (os : List Obj) : ∀ w : World, w.heap.size ≤ (more w os).heap.size := by
  induction os with
  | nil => intro w; exact Nat.le_refl _
  | cons o os ih => intro w; exact Nat.le_trans (by simp) (ih (w.alloc o))
theorem more_lt {n : Nat} {w : World} (h : n < w.heap.size) (os : List Obj) : n < (more w os).heap.size := Nat.lt_of_lt_of_le h (more_size os w)
theorem cell?_more (os : List Obj) (n i : Nat) : ∀ (w : World) (_ : n < w.heap.size), (more w os).cell? ⟨n, i, none⟩ = w.cell? ⟨n, i, none⟩ := by
  induction os with
  | nil => intro w _; rfl
  | cons o os ih => intro w h; exact (ih (w.alloc o) (by simp; omega)).trans (World.cell?_alloc_past o n i h)
theorem frozen?_more (os : List Obj) (n i : Nat) : ∀ (w : World) (_ : n < w.heap.size), (more w os).frozen? ⟨n, i, none⟩ = w.frozen? ⟨n, i, none⟩ := by
  induction os with
  | nil => intro w _; rfl
  | cons o os ih => intro w h; exact (ih (w.alloc o) (by simp; omega)).trans (World.frozen?_alloc_past o n i h)
theorem setCell_more (os : List Obj) (n i : Nat) (v : Value) : ∀ (w : World) (_ : n < w.heap.size), (more w os).setCell ⟨n, i, none⟩ v = more (w.setCell ⟨n, i, none⟩ v) os := by
  induction os with
  | nil => intro w _; rfl
  | cons o os ih =>
    intro w h
    show (more (w.alloc o) os).setCell _ v = more ((w.setCell _ v).alloc o) os
    rw [ih (w.alloc o) (by simp; omega), World.setCell_alloc_past o n i v h]
theorem more_snoc (os : List Obj) (o : Obj) : ∀ w : World, more w (os ++ [o]) = (more w os).alloc o := by
  induction os with
  | nil => intro w; rfl
  | cons p os ih => intro w; exact ih (w.alloc p)
theorem more_more (a b : List Obj) : ∀ w : World, more (more w a) b = more w (a ++ b) := by
  induction a with
  | nil => intro w; rfl
  | cons p a ih => intro w; exact ih (w.alloc p)
theorem more_drewN (os : List Obj) (n : Nat) : ∀ w : World, more (w.drewN n) os = (more w os).drewN n := by
  induction os with
  | nil => intro w; rfl
  | cons p a ih => intro w; exact ih (w.alloc p)
theorem more_drew (os : List Obj) (w : World) : more w.drew os = (more w os).drew := more_drewN os 1 w
theorem setCell_drewN (w : World) (n : Nat) (a : Addr) (v : Value) : (w.drewN n).setCell a v = (w.setCell a v).drewN n := by
  have : ∀ n, w.drewN n = { w with drawn := w.drawn + n } := fun _ => rfl
  unfold World.setCell World.drewN
  split <;> rfl
theorem alloc_drewN (w : World) (n : Nat) (o : Obj) : (w.drewN n).alloc o = (w.alloc o).drewN n := rfl

/-- Some blocks more, some draws. -/
def Grew (w w' : World) : Prop := ∃ (os : List Obj) (n : Nat), w' = (more w os).drewN n
theorem Grew.refl (w : World) : Grew w w := ⟨[], 0, rfl⟩
theorem Grew.alloc {a w : World} (h : Grew a w) (o : Obj) : Grew a (w.alloc o) := by
  obtain ⟨os, n, rfl⟩ := h
  exact ⟨os ++ [o], n, by rw [more_snoc, alloc_drewN]⟩
theorem Grew.drewN {a w : World} (h : Grew a w) (m : Nat) : Grew a (w.drewN m) := by
  obtain ⟨os, n, rfl⟩ := h
  exact ⟨os, n + m, by rw [World.drewN_drewN]⟩
theorem Grew.drew {a w : World} (h : Grew a w) : Grew a w.drew := h.drewN 1
theorem Grew.trans {a b c : World} (h : Grew a b) (k : Grew b c) : Grew a c := by
  obtain ⟨os, n, rfl⟩ := h
  obtain ⟨ps, m, rfl⟩ := k
  exact ⟨os ++ ps, n + m, by rw [more_drewN, more_more, World.drewN_drewN]⟩
theorem Grew.more {a w : World} (h : Grew a w) (os : List Obj) : Grew a (more w os) := h.trans ⟨os, 0, rfl⟩
theorem more_below (os : List Obj) : ∀ (w a : World) (B : Nat), Below B a w → B ≤ w.heap.size → Below B a (more w os) := by
  induction os with
  | nil => intro w a B h _; exact h
  | cons o os ih => intro w a B h hB; exact ih (w.alloc o) a B (h.alloc hB o) (by simp; omega)
theorem Grew.below {w w' : World} (h : Grew w w') : Below w.heap.size w w' := by
  obtain ⟨os, n, rfl⟩ := h
  exact below_drewN (more_below os w w _ (Below.refl _ _) (Nat.le_refl _)) n
theorem Grew.size {w w' : World} (h : Grew w w') : w.heap.size ≤ w'.heap.size := h.below.size
end Go.Proofs.YtafmchgncahafaaGreatDoor

namespace Go.Proofs.YtafmchgncahafaaGreatDoor
open Go.RowKit

/-! ### the school's division: one digit -/
end Go.Proofs.YtafmchgncahafaaGreatDoor

namespace Go.Proofs.YtafmchgncahafaaGreatDoor
open Go.RowKit

namespace M64
theorem maskN (a : Nat) (ha : a < 18446744073709551616) : bits .and .u64 (a : Int) 4294967295 = ((a % 4294967296 : Nat) : Int) := by
  have h := bits_and_u64_nat a 4294967295 ha (by omega)
  have e : a &&& 4294967295 = a % 4294967296 := Nat.and_two_pow_sub_one_eq_mod a 32
  rw [e] at h
  exact h
theorem divN (a : Nat) : (a : Int) / 4294967296 = ((a / 4294967296 : Nat) : Int) := by omega
theorem mulN (a b : Nat) : (a : Int) * (b : Int) = ((a * b : Nat) : Int) := (Int.natCast_mul a b).symm
theorem addN (a b : Nat) : (a : Int) + (b : Int) = ((a + b : Nat) : Int) := (Int.natCast_add a b).symm
theorem wrapN (a : Nat) (ha : a < 18446744073709551616) : IntKind.u64.wrap (a : Int) = (a : Int) := by rw [IntKind.wrap_u64]; omega
theorem wrapM (a : Nat) : IntKind.u64.wrap (a : Int) = ((a % 18446744073709551616 : Nat) : Int) := by rw [IntKind.wrap_u64]; omega
end M64

set_option maxHeartbeats 1000000 in
theorem mul64_any (x y : Nat) (hx : x < 18446744073709551616) (hy : y < 18446744073709551616) (w : World) :
    Calls Tryz.prog 75 #[.int .u64 (x : Int), .int .u64 (y : Int)] w fun e w' => e = .returned (.tuple #[.int .u64 ((x * y / 18446744073709551616 : Nat) : Int), .int .u64 ((x * y % 18446744073709551616 : Nat) : Int)]) ∧ w' = w := by
  obtain ⟨bd, bt, bw, hhi⟩ := Lib.mul64_hi x y hx hy
  have ba := Lib.half_mul_le (a := x / 4294967296) (b := y / 4294967296) (by omega) (by omega)
  have bb := Lib.half_mul_le (a := x / 4294967296) (b := y % 4294967296) (by omega) (by omega)
  have bc := Lib.half_mul_le (a := x % 4294967296) (b := y / 4294967296) (by omega) (by omega)
  have ba' : x / 4294967296 * (y / 4294967296) < 18446744073709551616 := by omega
  have bb' : x / 4294967296 * (y % 4294967296) < 18446744073709551616 := by omega
  have bc' : x % 4294967296 * (y / 4294967296) < 18446744073709551616 := by omega
  have bh1 : x / 4294967296 * (y / 4294967296) + (x / 4294967296 * (y % 4294967296) + x % 4294967296 * (y % 4294967296) / 4294967296) / 4294967296 < 18446744073709551616 := by omega
  have bh : x / 4294967296 * (y / 4294967296) + (x / 4294967296 * (y % 4294967296) + x % 4294967296 * (y % 4294967296) / 4294967296) / 4294967296 + ((x / 4294967296 * (y % 4294967296) + x % 4294967296 * (y % 4294967296) / 4294967296) % 4294967296 + x % 4294967296 * (y / 4294967296)) / 4294967296 < 18446744073709551616 := by omega
  go_enter Tryz.func75, Tryz.ntmps75
  go_wp2
  simp only [M64.maskN x hx, M64.maskN y hy, M64.divN, M64.mulN, M64.addN, M64.wrapN _ bd, M64.wrapN _ bb', M64.wrapN _ bt, M64.maskN _ bt, M64.wrapN _ bc', M64.wrapN _ bw, M64.wrapN _ ba', M64.wrapN _ bh1, M64.wrapN _ bh, M64.wrapM (x * y)]
  rw [hhi]
  go_ret2
  exact ⟨rfl, rfl⟩
end Go.Proofs.YtafmchgncahafaaGreatDoor

namespace Go.Proofs.YtafmchgncahafaaGreatDoor
open Go.RowKit

theorem ret_int {k : IntKind} {a b : Int} (h : a = b) : Ending.returned (.int k a) = .returned (.int k b) := by rw [h]

theorem ret_bool {a b : Bool} (h : a = b) : Ending.returned (.bool a) = .returned (.bool b) := by rw [h]

end Go.Proofs.YtafmchgncahafaaGreatDoor

namespace Go.Proofs.YtafmchgncahafaaGreatDoor
open Go.RowKit

end Go.Proofs.YtafmchgncahafaaGreatDoor

namespace Go.Proofs.YtafmchgncahafaaGreatDoor
open Go.RowKit
attribute [local go_sem] cell?_more frozen?_more setCell_more more_lt more_drew more_drewN setCell_drewN alloc_drewN

end Go.Proofs.YtafmchgncahafaaGreatDoor
