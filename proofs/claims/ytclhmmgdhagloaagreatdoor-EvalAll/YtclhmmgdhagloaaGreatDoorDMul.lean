/-
  The contract of decimal.Mul: for every two decimals.
-/
import Derived.Test.YtclhmmgdhagloaaGreatDoorDDivs
namespace Go.Proofs.YtclhmmgdhagloaaGreatDoor
open Go.RowKit
attribute [local go_sem] cell?_more frozen?_more setCell_more more_lt more_more more_drew more_drewN setCell_drewN alloc_drewN

set_option maxHeartbeats 2000000 in
theorem mul_good (ua sa ub sb t : Int) (k : Nat) (w : World) (hP : Pw w) (ha : rightS sa = true) (hb : rightS sb = true) (ht : (t = sa + sb ∧ sa + sb ≤ 6) ∨ (t = 6 ∧ 6 < sa + sb)) (hk : sa + sb - t = (k : Int))
    (a0 : -9223372036854775808 ≤ ua) (a1 : ua ≤ 9223372036854775807) (b0 : -9223372036854775808 ≤ ub) (b1 : ub ≤ 9223372036854775807) :
    Calls Tryz.prog 152 #[dv ua sa, dv ub sb] w fun e w' => e = .returned (dres (rq (ua * ub) (10 ^ k : Nat)) t) ∧ Grew w w' := by
  have Ra := fun W => right_any ua sa W
  have Rb := fun W => right_any ub sb W
  rw [ha] at Ra
  rw [hb] at Rb
  rw [rightS_iff] at ha hb
  obtain ⟨ex, hex⟩ : ∃ ex : Int, ex = sa + sb := ⟨_, rfl⟩
  have E1 : IntKind.i64.wrap (sa + sb) = ex := by rw [IntKind.wrap_i64]; omega
  have E2 : IntKind.i64.wrap (ex - t) = (k : Int) := by rw [IntKind.wrap_i64]; omega
  have c := hP k (by omega)
  have hpos := hP.pos
  have hz2 : 0 < w.heap.size := by omega
  have d1 : (k : Int) < 13 := by omega
  have hpw := pow10_bd k (by omega)
  generalize ((10 ^ k : Nat) : Int) = p at *
  have S1 := fun W => product_ex ua ub W a0 a1 b0 b1
  have S2 := fun W => widened_any p W (by omega) (by omega)
  have Hp0 : Hid (p ≠ 0) := (by omega : p ≠ 0)
  have Hpb : Hid (p.natAbs < 18446744073709551616) := (by omega : p.natAbs < 18446744073709551616)
  have T := fun b h l W (hl : l < 18446744073709551616) => ofScale_any b h l t W hl
  have E3 : min ex 6 = t := by omega
  clear hP a0 a1 b0 b1 ha hb hpw ht hk hex
  go_enter Tryz.func152, Tryz.ntmps152
  go_wp2_with fail
  refine (Ra _).mono ?_
  rintro e w' ⟨rfl, os, n, rfl⟩
  go_wp2_with fail
  refine (Rb _).mono ?_
  rintro e w' ⟨rfl, os', n', rfl⟩
  go_wp2_with fail
  go_region_held (fun W => W.cell? ⟨w.heap.size, 0, none⟩ = some (.int .i64 ua) ∧ W.cell? ⟨w.heap.size + 1, 0, none⟩ = some (.int .i64 ub) ∧ W.cell? ⟨1, k, none⟩ = some (.int .i64 p)) (simp [go_sem, ← more_snoc, hpos, hz2, c])
    ((first
      | (go_at_call 207; refine (S1 _).mono ?_; rintro e w1 ⟨c1, h1, l1, rfl, v1, kl1, kh1, os1, n1, rfl⟩)
      | (go_at_call 206; refine (S2 _).mono ?_; rintro e w2 ⟨rfl, os2, n2, rfl⟩)
      | (go_at_call 212; refine (quotient_any c1 (decide (p < 0)) h1 l1 0 p.natAbs _ _ _ v1 (by rw [Nat.zero_mul, Nat.zero_add]; exact sval_of p) Hp0.out kl1 Hpb.out kh1 (.inl rfl)).mono ?_; rintro e w3 ⟨c3, h3, l3, rfl, v3, kl3, os3, n3, rfl⟩)))
  all_goals go_wp2_with (go_at_call 209; refine (T c3 h3 l3 _ kl3).mono ?_; rw [v3]; rintro e w4 ⟨rfl, os4, n4, rfl⟩)
  all_goals refine bodyPost_ret_by (v := dres _ _) ?_ rfl ⟨rfl, ?_⟩
  all_goals first
    | (simp [results, Tryz.results152, go_sem]; done)
    | (repeat (first | exact Grew.refl _ | apply Grew.drew | apply Grew.drewN | apply Grew.alloc | apply Grew.more))
end Go.Proofs.YtclhmmgdhagloaaGreatDoor
