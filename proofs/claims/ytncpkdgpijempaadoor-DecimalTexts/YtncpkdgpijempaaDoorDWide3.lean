/-
  The contracts of package decimal's wide numbers, gone on: difference, sign, narrowed.
-/
import Derived.Test.YtncpkdgpijempaaDoorDWide2
namespace Go.Proofs.YtncpkdgpijempaaDoor
open Go.RowKit
attribute [local go_sem] cell?_more frozen?_more setCell_more more_lt more_drew more_drewN setCell_drewN alloc_drewN

theorem ret_two {j k : IntKind} {a b c d : Int} (h : a = b) (h' : c = d) : Ending.returned (.tuple #[.int j a, .int k c]) = .returned (.tuple #[.int j b, .int k d]) := by rw [h, h']
theorem nz_in {z : Int} (h0 : -9223372036854775808 ≤ z) (h1 : z ≤ 9223372036854775807) : nz z = z ∧ nErr z = 0 := by
  have : fits z = true := (fits_iff z).2 ⟨h0, h1⟩
  simp [nz, nErr, this]
theorem nz_out {z : Int} (h : z < -9223372036854775808 ∨ 9223372036854775807 < z) : nz z = 0 ∧ nErr z = 32 := by
  have : fits z = false := by
    cases hf : fits z
    · rfl
    · have := (fits_iff z).1 hf; omega
  simp [nz, nErr, this]

set_option maxHeartbeats 1000000 in
theorem narrowed_any (b : Bool) (h l : Nat) (w : World) (hl : l < 18446744073709551616) :
    Calls Tryd.prog 33 #[wd b h l] w fun e w' => e = .returned (.tuple #[.int .i64 (nz (sval b (h * 18446744073709551616 + l))), .int .i64 (nErr (sval b (h * 18446744073709551616 + l)))]) ∧ Grew w w' := by
  go_enter Tryd.func33, Tryd.ntmps33
  cases b
  · rw [sval_false]
    go_wp2
    all_goals go_ret2
    all_goals refine ⟨?_, (Grew.refl _).alloc _⟩
    · have := nz_out (z := ((h * 18446744073709551616 + l : Nat) : Int)) (by omega)
      exact ret_two this.1.symm this.2.symm
    · have := nz_in (z := ((h * 18446744073709551616 + l : Nat) : Int)) (by omega) (by omega)
      exact ret_two (by rw [this.1]; omega) this.2.symm
    · have := nz_out (z := ((h * 18446744073709551616 + l : Nat) : Int)) (by omega)
      exact ret_two this.1.symm this.2.symm
  · rw [sval_true]
    go_wp2
    all_goals go_ret2
    all_goals refine ⟨?_, (Grew.refl _).alloc _⟩
    · have := nz_out (z := -((h * 18446744073709551616 + l : Nat) : Int)) (by omega)
      exact ret_two this.1.symm this.2.symm
    · have := nz_in (z := -((h * 18446744073709551616 + l : Nat) : Int)) (by omega) (by omega)
      refine ret_two (by rw [this.1]; simp only [wrap64, IntKind.wrap_u64]; omega) this.2.symm
    · have := nz_out (z := -((h * 18446744073709551616 + l : Nat) : Int)) (by omega)
      exact ret_two this.1.symm this.2.symm
end Go.Proofs.YtncpkdgpijempaaDoor
