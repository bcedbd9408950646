/-
  The document's wide numbers: times by a number of one part, of numbers of two parts.
-/
import Derived.Test.YtibbenhplmmmiaaGreatDoorDRef1
namespace Go.Proofs.YtibbenhplmmmiaaGreatDoor
open Go.RowKit

theorem one_names (c o a b : Nat) (hc : c < 4294967296) (ho : o < 4294967296) (ha : a < 4294967296) (hb : b < 4294967296) : ∃ p t s o' c' : Nat, IntKind.u64.wrap ((a : Int) * (b : Int)) = (p : Int) ∧ IntKind.u64.wrap ((c : Int) + (o : Int)) = (t : Int) ∧ IntKind.u64.wrap ((t : Int) + (p : Int)) = (s : Int) ∧ (s : Int) % 4294967296 = (o' : Int) ∧ (s : Int) / 4294967296 = (c' : Int) ∧ IntKind.u64.wrap (c' : Int) = (c' : Int) ∧ Hid (o' < 4294967296) ∧ Hid (c' < 4294967296) ∧ Hid (c' * 4294967296 + o' = c + o + p) ∧ Hid (p = a * b) := by
  have hp : a * b ≤ 4294967295 * 4294967295 := Nat.mul_le_mul (by omega) (by omega)
  have e : ((a : Int) * (b : Int)) = ((a * b : Nat) : Int) := by rw [Int.natCast_mul]
  rw [e]
  obtain ⟨p, hpe⟩ : ∃ p, p = a * b := ⟨_, rfl⟩
  rw [← hpe] at hp ⊢
  refine ⟨p, c + o, c + o + p, (c + o + p) % 4294967296, (c + o + p) / 4294967296, ?_, ?_, ?_, ?_, ?_, ?_, (show (c + o + p) % 4294967296 < 4294967296 by omega), (show (c + o + p) / 4294967296 < 4294967296 by omega), (show (c + o + p) / 4294967296 * 4294967296 + (c + o + p) % 4294967296 = c + o + p by omega), rfl⟩
  all_goals first | (rw [IntKind.wrap_u64]; omega) | omega

set_option maxRecDepth 5000 in
set_option maxHeartbeats 8000000 in
theorem times_one (a0 a1 a2 a3 a4 a5 b0 b1 b2 b3 b4 b5 : Nat) (sa sb : Bool) (w : World) (ha : Low6 a0 a1 a2 a3 a4 a5) (hb : Low6 b0 b1 b2 b3 b4 b5) (za : Hid ((val6 a0 a1 a2 a3 a4 a5) * b0 < 6277101735386680763835789423207666416102355444464034512896)) (zb : Hid (b1 = 0 ∧ b2 = 0 ∧ b3 = 0 ∧ b4 = 0 ∧ b5 = 0)) :
    Calls Tryz.prog 79 #[wv a0 a1 a2 a3 a4 a5 sa, wv b0 b1 b2 b3 b4 b5 sb] w fun e w' => ∃ o0 o1 o2 o3 o4 o5 : Nat, e = .returned (wv o0 o1 o2 o3 o4 o5 false) ∧ Low6 o0 o1 o2 o3 o4 o5 ∧ Hid (val6 o0 o1 o2 o3 o4 o5 = val6 a0 a1 a2 a3 a4 a5 * b0) ∧ Grew w w' := by
  have HA : Hid (Low6 a0 a1 a2 a3 a4 a5) := ha
  have HB : Hid (Low6 b0 b1 b2 b3 b4 b5) := hb
  clear ha hb
  have i0 : IntKind.i64.wrap 0 = 0 := rfl
  have u0 : IntKind.u64.wrap 0 = 0 := rfl
  have i1 : IntKind.i64.wrap 1 = 1 := rfl
  have i2 : IntKind.i64.wrap 2 = 2 := rfl
  have i3 : IntKind.i64.wrap 3 = 3 := rfl
  have i4 : IntKind.i64.wrap 4 = 4 := rfl
  have i5 : IntKind.i64.wrap 5 = 5 := rfl
  go_enter Tryz.func79, Tryz.ntmps79
  go_wp2_with fail
  refine wp_loop_rounds 7 ?_
  rw [rounds_succ]
  go_wp2_with fail
  refine wp_loop_rounds 7 ?_
  obtain ⟨p00, t00, s00, o00, c00, e1, e2, e3, e4, e5, e6, lo00, lc00, v00, w00⟩ := one_names 0 0 a0 b0 (by decide) (by decide) HA.out.1 HB.out.1
  have et : (t00 : Int) = 0 := by rw [← e2]; rfl
  rw [et] at e3
  have e7 := e3
  rw [Int.zero_add] at e7
  clear et e2
  rw [rounds_succ]
  go_wp2_with fail
  go_region_held2 (fun W => W.cell? ⟨w.heap.size + 1 + 1 + 1, 0, none⟩ = some (.int .u64 0) ∧ W.cell? ⟨w.heap.size, 0, none⟩ = some (.int .u64 (a0 : Int)) ∧ W.cell? ⟨w.heap.size + 1, 0, none⟩ = some (.int .u64 (b0 : Int))) (simp [go_sem]) (fail)
  go_wp2_with fail
  clear e1 e3 e4 e5 e6 e7
  obtain ⟨p01, t01, s01, o01, c01, e1, e2, e3, e4, e5, e6, lo01, lc01, v01, w01⟩ := one_names c00 0 a0 b1 lc00.out (by decide) HA.out.1 HB.out.2.1
  rw [Int.natCast_zero] at e2
  have e7 := e2
  rw [Int.add_zero] at e7
  rw [rounds_succ]
  go_wp2_with fail
  go_region_held2 (fun W => W.cell? ⟨w.heap.size + 1 + 1 + 1, 1, none⟩ = some (.int .u64 0) ∧ W.cell? ⟨w.heap.size, 0, none⟩ = some (.int .u64 (a0 : Int)) ∧ W.cell? ⟨w.heap.size + 1, 1, none⟩ = some (.int .u64 (b1 : Int))) (simp [go_sem]) (fail)
  go_wp2_with fail
  clear e1 e2 e3 e4 e5 e6 e7
  obtain ⟨p02, t02, s02, o02, c02, e1, e2, e3, e4, e5, e6, lo02, lc02, v02, w02⟩ := one_names c01 0 a0 b2 lc01.out (by decide) HA.out.1 HB.out.2.2.1
  rw [Int.natCast_zero] at e2
  have e7 := e2
  rw [Int.add_zero] at e7
  rw [rounds_succ]
  go_wp2_with fail
  go_region_held2 (fun W => W.cell? ⟨w.heap.size + 1 + 1 + 1, 2, none⟩ = some (.int .u64 0) ∧ W.cell? ⟨w.heap.size, 0, none⟩ = some (.int .u64 (a0 : Int)) ∧ W.cell? ⟨w.heap.size + 1, 2, none⟩ = some (.int .u64 (b2 : Int))) (simp [go_sem]) (fail)
  go_wp2_with fail
  clear e1 e2 e3 e4 e5 e6 e7
  obtain ⟨p03, t03, s03, o03, c03, e1, e2, e3, e4, e5, e6, lo03, lc03, v03, w03⟩ := one_names c02 0 a0 b3 lc02.out (by decide) HA.out.1 HB.out.2.2.2.1
  rw [Int.natCast_zero] at e2
  have e7 := e2
  rw [Int.add_zero] at e7
  rw [rounds_succ]
  go_wp2_with fail
  go_region_held2 (fun W => W.cell? ⟨w.heap.size + 1 + 1 + 1, 3, none⟩ = some (.int .u64 0) ∧ W.cell? ⟨w.heap.size, 0, none⟩ = some (.int .u64 (a0 : Int)) ∧ W.cell? ⟨w.heap.size + 1, 3, none⟩ = some (.int .u64 (b3 : Int))) (simp [go_sem]) (fail)
  go_wp2_with fail
  clear e1 e2 e3 e4 e5 e6 e7
  obtain ⟨p04, t04, s04, o04, c04, e1, e2, e3, e4, e5, e6, lo04, lc04, v04, w04⟩ := one_names c03 0 a0 b4 lc03.out (by decide) HA.out.1 HB.out.2.2.2.2.1
  rw [Int.natCast_zero] at e2
  have e7 := e2
  rw [Int.add_zero] at e7
  rw [rounds_succ]
  go_wp2_with fail
  go_region_held2 (fun W => W.cell? ⟨w.heap.size + 1 + 1 + 1, 4, none⟩ = some (.int .u64 0) ∧ W.cell? ⟨w.heap.size, 0, none⟩ = some (.int .u64 (a0 : Int)) ∧ W.cell? ⟨w.heap.size + 1, 4, none⟩ = some (.int .u64 (b4 : Int))) (simp [go_sem]) (fail)
  go_wp2_with fail
  clear e1 e2 e3 e4 e5 e6 e7
  obtain ⟨p05, t05, s05, o05, c05, e1, e2, e3, e4, e5, e6, lo05, lc05, v05, w05⟩ := one_names c04 0 a0 b5 lc04.out (by decide) HA.out.1 HB.out.2.2.2.2.2
  rw [Int.natCast_zero] at e2
  have e7 := e2
  rw [Int.add_zero] at e7
  rw [rounds_succ]
  go_wp2_with fail
  go_region_held2 (fun W => W.cell? ⟨w.heap.size + 1 + 1 + 1, 5, none⟩ = some (.int .u64 0) ∧ W.cell? ⟨w.heap.size, 0, none⟩ = some (.int .u64 (a0 : Int)) ∧ W.cell? ⟨w.heap.size + 1, 5, none⟩ = some (.int .u64 (b5 : Int))) (simp [go_sem]) (fail)
  go_wp2_with fail
  clear e1 e2 e3 e4 e5 e6 e7
  rw [rounds_succ]
  go_wp2_with fail
  rw [rounds_succ]
  go_wp2_with fail
  refine wp_loop_rounds 6 ?_
  obtain ⟨p10, t10, s10, o10, c10, e1, e2, e3, e4, e5, e6, lo10, lc10, v10, w10⟩ := one_names 0 o01 a1 b0 (by decide) lo01.out HA.out.2.1 HB.out.1
  rw [Int.natCast_zero] at e2
  have e7 := e2
  rw [Int.zero_add] at e7
  rw [rounds_succ]
  go_wp2_with fail
  go_region_held2 (fun W => W.cell? ⟨w.heap.size + 1 + 1 + 1, 1, none⟩ = some (.int .u64 (o01 : Int)) ∧ W.cell? ⟨w.heap.size, 1, none⟩ = some (.int .u64 (a1 : Int)) ∧ W.cell? ⟨w.heap.size + 1, 0, none⟩ = some (.int .u64 (b0 : Int))) (simp [go_sem]) (fail)
  go_wp2_with fail
  clear e1 e2 e3 e4 e5 e6 e7
  obtain ⟨p11, t11, s11, o11, c11, e1, e2, e3, e4, e5, e6, lo11, lc11, v11, w11⟩ := one_names c10 o02 a1 b1 lc10.out lo02.out HA.out.2.1 HB.out.2.1
  rw [rounds_succ]
  go_wp2_with fail
  go_region_held2 (fun W => W.cell? ⟨w.heap.size + 1 + 1 + 1, 2, none⟩ = some (.int .u64 (o02 : Int)) ∧ W.cell? ⟨w.heap.size, 1, none⟩ = some (.int .u64 (a1 : Int)) ∧ W.cell? ⟨w.heap.size + 1, 1, none⟩ = some (.int .u64 (b1 : Int))) (simp [go_sem]) (fail)
  go_wp2_with fail
  clear e1 e2 e3 e4 e5 e6
  obtain ⟨p12, t12, s12, o12, c12, e1, e2, e3, e4, e5, e6, lo12, lc12, v12, w12⟩ := one_names c11 o03 a1 b2 lc11.out lo03.out HA.out.2.1 HB.out.2.2.1
  rw [rounds_succ]
  go_wp2_with fail
  go_region_held2 (fun W => W.cell? ⟨w.heap.size + 1 + 1 + 1, 3, none⟩ = some (.int .u64 (o03 : Int)) ∧ W.cell? ⟨w.heap.size, 1, none⟩ = some (.int .u64 (a1 : Int)) ∧ W.cell? ⟨w.heap.size + 1, 2, none⟩ = some (.int .u64 (b2 : Int))) (simp [go_sem]) (fail)
  go_wp2_with fail
  clear e1 e2 e3 e4 e5 e6
  obtain ⟨p13, t13, s13, o13, c13, e1, e2, e3, e4, e5, e6, lo13, lc13, v13, w13⟩ := one_names c12 o04 a1 b3 lc12.out lo04.out HA.out.2.1 HB.out.2.2.2.1
  rw [rounds_succ]
  go_wp2_with fail
  go_region_held2 (fun W => W.cell? ⟨w.heap.size + 1 + 1 + 1, 4, none⟩ = some (.int .u64 (o04 : Int)) ∧ W.cell? ⟨w.heap.size, 1, none⟩ = some (.int .u64 (a1 : Int)) ∧ W.cell? ⟨w.heap.size + 1, 3, none⟩ = some (.int .u64 (b3 : Int))) (simp [go_sem]) (fail)
  go_wp2_with fail
  clear e1 e2 e3 e4 e5 e6
  obtain ⟨p14, t14, s14, o14, c14, e1, e2, e3, e4, e5, e6, lo14, lc14, v14, w14⟩ := one_names c13 o05 a1 b4 lc13.out lo05.out HA.out.2.1 HB.out.2.2.2.2.1
  rw [rounds_succ]
  go_wp2_with fail
  go_region_held2 (fun W => W.cell? ⟨w.heap.size + 1 + 1 + 1, 5, none⟩ = some (.int .u64 (o05 : Int)) ∧ W.cell? ⟨w.heap.size, 1, none⟩ = some (.int .u64 (a1 : Int)) ∧ W.cell? ⟨w.heap.size + 1, 4, none⟩ = some (.int .u64 (b4 : Int))) (simp [go_sem]) (fail)
  go_wp2_with fail
  clear e1 e2 e3 e4 e5 e6
  rw [rounds_succ]
  go_wp2_with fail
  rw [rounds_succ]
  go_wp2_with fail
  refine wp_loop_rounds 5 ?_
  obtain ⟨p20, t20, s20, o20, c20, e1, e2, e3, e4, e5, e6, lo20, lc20, v20, w20⟩ := one_names 0 o11 a2 b0 (by decide) lo11.out HA.out.2.2.1 HB.out.1
  rw [Int.natCast_zero] at e2
  have e7 := e2
  rw [Int.zero_add] at e7
  rw [rounds_succ]
  go_wp2_with fail
  go_region_held2 (fun W => W.cell? ⟨w.heap.size + 1 + 1 + 1, 2, none⟩ = some (.int .u64 (o11 : Int)) ∧ W.cell? ⟨w.heap.size, 2, none⟩ = some (.int .u64 (a2 : Int)) ∧ W.cell? ⟨w.heap.size + 1, 0, none⟩ = some (.int .u64 (b0 : Int))) (simp [go_sem]) (fail)
  go_wp2_with fail
  clear e1 e2 e3 e4 e5 e6 e7
  obtain ⟨p21, t21, s21, o21, c21, e1, e2, e3, e4, e5, e6, lo21, lc21, v21, w21⟩ := one_names c20 o12 a2 b1 lc20.out lo12.out HA.out.2.2.1 HB.out.2.1
  rw [rounds_succ]
  go_wp2_with fail
  go_region_held2 (fun W => W.cell? ⟨w.heap.size + 1 + 1 + 1, 3, none⟩ = some (.int .u64 (o12 : Int)) ∧ W.cell? ⟨w.heap.size, 2, none⟩ = some (.int .u64 (a2 : Int)) ∧ W.cell? ⟨w.heap.size + 1, 1, none⟩ = some (.int .u64 (b1 : Int))) (simp [go_sem]) (fail)
  go_wp2_with fail
  clear e1 e2 e3 e4 e5 e6
  obtain ⟨p22, t22, s22, o22, c22, e1, e2, e3, e4, e5, e6, lo22, lc22, v22, w22⟩ := one_names c21 o13 a2 b2 lc21.out lo13.out HA.out.2.2.1 HB.out.2.2.1
  rw [rounds_succ]
  go_wp2_with fail
  go_region_held2 (fun W => W.cell? ⟨w.heap.size + 1 + 1 + 1, 4, none⟩ = some (.int .u64 (o13 : Int)) ∧ W.cell? ⟨w.heap.size, 2, none⟩ = some (.int .u64 (a2 : Int)) ∧ W.cell? ⟨w.heap.size + 1, 2, none⟩ = some (.int .u64 (b2 : Int))) (simp [go_sem]) (fail)
  go_wp2_with fail
  clear e1 e2 e3 e4 e5 e6
  obtain ⟨p23, t23, s23, o23, c23, e1, e2, e3, e4, e5, e6, lo23, lc23, v23, w23⟩ := one_names c22 o14 a2 b3 lc22.out lo14.out HA.out.2.2.1 HB.out.2.2.2.1
  rw [rounds_succ]
  go_wp2_with fail
  go_region_held2 (fun W => W.cell? ⟨w.heap.size + 1 + 1 + 1, 5, none⟩ = some (.int .u64 (o14 : Int)) ∧ W.cell? ⟨w.heap.size, 2, none⟩ = some (.int .u64 (a2 : Int)) ∧ W.cell? ⟨w.heap.size + 1, 3, none⟩ = some (.int .u64 (b3 : Int))) (simp [go_sem]) (fail)
  go_wp2_with fail
  clear e1 e2 e3 e4 e5 e6
  rw [rounds_succ]
  go_wp2_with fail
  rw [rounds_succ]
  go_wp2_with fail
  refine wp_loop_rounds 4 ?_
  obtain ⟨p30, t30, s30, o30, c30, e1, e2, e3, e4, e5, e6, lo30, lc30, v30, w30⟩ := one_names 0 o21 a3 b0 (by decide) lo21.out HA.out.2.2.2.1 HB.out.1
  rw [Int.natCast_zero] at e2
  have e7 := e2
  rw [Int.zero_add] at e7
  rw [rounds_succ]
  go_wp2_with fail
  go_region_held2 (fun W => W.cell? ⟨w.heap.size + 1 + 1 + 1, 3, none⟩ = some (.int .u64 (o21 : Int)) ∧ W.cell? ⟨w.heap.size, 3, none⟩ = some (.int .u64 (a3 : Int)) ∧ W.cell? ⟨w.heap.size + 1, 0, none⟩ = some (.int .u64 (b0 : Int))) (simp [go_sem]) (fail)
  go_wp2_with fail
  clear e1 e2 e3 e4 e5 e6 e7
  obtain ⟨p31, t31, s31, o31, c31, e1, e2, e3, e4, e5, e6, lo31, lc31, v31, w31⟩ := one_names c30 o22 a3 b1 lc30.out lo22.out HA.out.2.2.2.1 HB.out.2.1
  rw [rounds_succ]
  go_wp2_with fail
  go_region_held2 (fun W => W.cell? ⟨w.heap.size + 1 + 1 + 1, 4, none⟩ = some (.int .u64 (o22 : Int)) ∧ W.cell? ⟨w.heap.size, 3, none⟩ = some (.int .u64 (a3 : Int)) ∧ W.cell? ⟨w.heap.size + 1, 1, none⟩ = some (.int .u64 (b1 : Int))) (simp [go_sem]) (fail)
  go_wp2_with fail
  clear e1 e2 e3 e4 e5 e6
  obtain ⟨p32, t32, s32, o32, c32, e1, e2, e3, e4, e5, e6, lo32, lc32, v32, w32⟩ := one_names c31 o23 a3 b2 lc31.out lo23.out HA.out.2.2.2.1 HB.out.2.2.1
  rw [rounds_succ]
  go_wp2_with fail
  go_region_held2 (fun W => W.cell? ⟨w.heap.size + 1 + 1 + 1, 5, none⟩ = some (.int .u64 (o23 : Int)) ∧ W.cell? ⟨w.heap.size, 3, none⟩ = some (.int .u64 (a3 : Int)) ∧ W.cell? ⟨w.heap.size + 1, 2, none⟩ = some (.int .u64 (b2 : Int))) (simp [go_sem]) (fail)
  go_wp2_with fail
  clear e1 e2 e3 e4 e5 e6
  rw [rounds_succ]
  go_wp2_with fail
  rw [rounds_succ]
  go_wp2_with fail
  refine wp_loop_rounds 3 ?_
  obtain ⟨p40, t40, s40, o40, c40, e1, e2, e3, e4, e5, e6, lo40, lc40, v40, w40⟩ := one_names 0 o31 a4 b0 (by decide) lo31.out HA.out.2.2.2.2.1 HB.out.1
  rw [Int.natCast_zero] at e2
  have e7 := e2
  rw [Int.zero_add] at e7
  rw [rounds_succ]
  go_wp2_with fail
  go_region_held2 (fun W => W.cell? ⟨w.heap.size + 1 + 1 + 1, 4, none⟩ = some (.int .u64 (o31 : Int)) ∧ W.cell? ⟨w.heap.size, 4, none⟩ = some (.int .u64 (a4 : Int)) ∧ W.cell? ⟨w.heap.size + 1, 0, none⟩ = some (.int .u64 (b0 : Int))) (simp [go_sem]) (fail)
  go_wp2_with fail
  clear e1 e2 e3 e4 e5 e6 e7
  obtain ⟨p41, t41, s41, o41, c41, e1, e2, e3, e4, e5, e6, lo41, lc41, v41, w41⟩ := one_names c40 o32 a4 b1 lc40.out lo32.out HA.out.2.2.2.2.1 HB.out.2.1
  rw [rounds_succ]
  go_wp2_with fail
  go_region_held2 (fun W => W.cell? ⟨w.heap.size + 1 + 1 + 1, 5, none⟩ = some (.int .u64 (o32 : Int)) ∧ W.cell? ⟨w.heap.size, 4, none⟩ = some (.int .u64 (a4 : Int)) ∧ W.cell? ⟨w.heap.size + 1, 1, none⟩ = some (.int .u64 (b1 : Int))) (simp [go_sem]) (fail)
  go_wp2_with fail
  clear e1 e2 e3 e4 e5 e6
  rw [rounds_succ]
  go_wp2_with fail
  rw [rounds_succ]
  go_wp2_with fail
  refine wp_loop_rounds 2 ?_
  obtain ⟨p50, t50, s50, o50, c50, e1, e2, e3, e4, e5, e6, lo50, lc50, v50, w50⟩ := one_names 0 o41 a5 b0 (by decide) lo41.out HA.out.2.2.2.2.2 HB.out.1
  rw [Int.natCast_zero] at e2
  have e7 := e2
  rw [Int.zero_add] at e7
  rw [rounds_succ]
  go_wp2_with fail
  go_region_held2 (fun W => W.cell? ⟨w.heap.size + 1 + 1 + 1, 5, none⟩ = some (.int .u64 (o41 : Int)) ∧ W.cell? ⟨w.heap.size, 5, none⟩ = some (.int .u64 (a5 : Int)) ∧ W.cell? ⟨w.heap.size + 1, 0, none⟩ = some (.int .u64 (b0 : Int))) (simp [go_sem]) (fail)
  go_wp2_with fail
  clear e1 e2 e3 e4 e5 e6 e7
  rw [rounds_succ]
  go_wp2_with fail
  rw [rounds_succ]
  go_wp2_with fail
  refine bodyPost_ret_by (v := wv o00 o10 o20 o30 o40 o50 false) ?_ rfl ⟨o00, o10, o20, o30, o40, o50, rfl, ⟨lo00.out, lo10.out, lo20.out, lo30.out, lo40.out, lo50.out⟩, ?_, ?_⟩
  · simp [results, Tryz.results79, go_sem]
  · obtain ⟨zb1, zb2, zb3, zb4, zb5⟩ := zb.out
    have za' := za.out
    subst zb1; subst zb2; subst zb3; subst zb4; subst zb5
    show val6 o00 o10 o20 o30 o40 o50 = val6 a0 a1 a2 a3 a4 a5 * b0
    have E : val6 a0 a1 a2 a3 a4 a5 * b0 = p00 + 4294967296 * p10 + 18446744073709551616 * p20 + 79228162514264337593543950336 * p30 + 340282366920938463463374607431768211456 * p40 + 1461501637330902918203684832716283019655932542976 * p50 := by
      rw [w00.out, w10.out, w20.out, w30.out, w40.out, w50.out]
      unfold val6
      grind
    rw [E] at za' ⊢
    have q01 : p01 = 0 := by have h := w01.out; simpa using h
    have q02 : p02 = 0 := by have h := w02.out; simpa using h
    have q03 : p03 = 0 := by have h := w03.out; simpa using h
    have q04 : p04 = 0 := by have h := w04.out; simpa using h
    have q05 : p05 = 0 := by have h := w05.out; simpa using h
    have q11 : p11 = 0 := by have h := w11.out; simpa using h
    have q12 : p12 = 0 := by have h := w12.out; simpa using h
    have q13 : p13 = 0 := by have h := w13.out; simpa using h
    have q14 : p14 = 0 := by have h := w14.out; simpa using h
    have q21 : p21 = 0 := by have h := w21.out; simpa using h
    have q22 : p22 = 0 := by have h := w22.out; simpa using h
    have q23 : p23 = 0 := by have h := w23.out; simpa using h
    have q31 : p31 = 0 := by have h := w31.out; simpa using h
    have q32 : p32 = 0 := by have h := w32.out; simpa using h
    have q41 : p41 = 0 := by have h := w41.out; simpa using h
    have V00 := v00.out; have V01 := v01.out; have V02 := v02.out; have V03 := v03.out; have V04 := v04.out; have V05 := v05.out; have V10 := v10.out; have V11 := v11.out; have V12 := v12.out; have V13 := v13.out; have V14 := v14.out; have V20 := v20.out; have V21 := v21.out; have V22 := v22.out; have V23 := v23.out; have V30 := v30.out; have V31 := v31.out; have V32 := v32.out; have V40 := v40.out; have V41 := v41.out; have V50 := v50.out
    have L00 := lo00.out; have C00 := lc00.out; have L01 := lo01.out; have C01 := lc01.out; have L02 := lo02.out; have C02 := lc02.out; have L03 := lo03.out; have C03 := lc03.out; have L04 := lo04.out; have C04 := lc04.out; have L05 := lo05.out; have C05 := lc05.out; have L10 := lo10.out; have C10 := lc10.out; have L11 := lo11.out; have C11 := lc11.out; have L12 := lo12.out; have C12 := lc12.out; have L13 := lo13.out; have C13 := lc13.out; have L14 := lo14.out; have C14 := lc14.out; have L20 := lo20.out; have C20 := lc20.out; have L21 := lo21.out; have C21 := lc21.out; have L22 := lo22.out; have C22 := lc22.out; have L23 := lo23.out; have C23 := lc23.out; have L30 := lo30.out; have C30 := lc30.out; have L31 := lo31.out; have C31 := lc31.out; have L32 := lo32.out; have C32 := lc32.out; have L40 := lo40.out; have C40 := lc40.out; have L41 := lo41.out; have C41 := lc41.out; have L50 := lo50.out; have C50 := lc50.out
    clear w00 v00 lo00 lc00 w01 v01 lo01 lc01 w02 v02 lo02 lc02 w03 v03 lo03 lc03 w04 v04 lo04 lc04 w05 v05 lo05 lc05 w10 v10 lo10 lc10 w11 v11 lo11 lc11 w12 v12 lo12 lc12 w13 v13 lo13 lc13 w14 v14 lo14 lc14 w20 v20 lo20 lc20 w21 v21 lo21 lc21 w22 v22 lo22 lc22 w23 v23 lo23 lc23 w30 v30 lo30 lc30 w31 v31 lo31 lc31 w32 v32 lo32 lc32 w40 v40 lo40 lc40 w41 v41 lo41 lc41 w50 v50 lo50 lc50 za zb HA HB
    unfold val6
    omega
  · repeat (first | exact Grew.refl _ | apply Grew.drew | apply Grew.drewN | apply Grew.alloc)
end Go.Proofs.YtibbenhplmmmiaaGreatDoor
