/-
  The document's wide numbers: of, plus.
-/
import Derived.Test.YtibbenhplmmmiaaGreatDoorDArith
import Derived.Deep.RegionHeld2
import Derived.LoopN
namespace Go.Proofs.YtibbenhplmmmiaaGreatDoor
open Go.RowKit

/-- A wide number of the document, as a value: six parts, the lowest first, and the sign. -/
abbrev wv (a b c d e f : Nat) (s : Bool) : Value := .agg #[.int .u64 (a : Int), .int .u64 (b : Int), .int .u64 (c : Int), .int .u64 (d : Int), .int .u64 (e : Int), .int .u64 (f : Int), .bool s]
/-- What six parts are. -/
def val6 (a b c d e f : Nat) : Nat := a + 4294967296 * (b + 4294967296 * (c + 4294967296 * (d + 4294967296 * (e + 4294967296 * f))))
/-- Each part is of 32 bits. -/
def Low6 (a b c d e f : Nat) : Prop := a < 4294967296 ∧ b < 4294967296 ∧ c < 4294967296 ∧ d < 4294967296 ∧ e < 4294967296 ∧ f < 4294967296

set_option maxHeartbeats 1000000 in
theorem wof_any (n : Int) (u q r : Nat) (w : World) (h0 : -9223372036854775808 ≤ n) (h1 : n ≤ 9223372036854775807) (hu : u = n.natAbs) (hq : q = u / 4294967296) (hr : r = u % 4294967296) :
    Calls Tryz.prog 80 #[.int .i64 n] w fun e w' => e = .returned (wv r q 0 0 0 0 (decide (n < 0))) ∧ Grew w w' := by
  have er : ((u : Int) % 4294967296) = (r : Int) := by omega
  have eq1 : ((u : Int) / 4294967296) = (q : Int) := by omega
  have eq2 : IntKind.u64.wrap (q : Int) = (q : Int) := by rw [IntKind.wrap_u64]; omega
  by_cases hn : n < 0
  · have e1 : IntKind.u64.wrap (-(IntKind.u64.wrap n)) = (u : Int) := by rw [IntKind.wrap_u64, IntKind.wrap_u64]; omega
    clear hu hq hr
    go_enter Tryz.func80, Tryz.ntmps80
    go_wp2
    refine bodyPost_ret_by (v := wv r q 0 0 0 0 true) ?_ rfl ⟨by simp [hn], (Grew.refl _).alloc _⟩
    simp [results, Tryz.results80, go_sem]
  · have e1 : IntKind.u64.wrap n = (u : Int) := by rw [IntKind.wrap_u64]; omega
    clear hu hq hr
    go_enter Tryz.func80, Tryz.ntmps80
    go_wp2
    refine bodyPost_ret_by (v := wv r q 0 0 0 0 false) ?_ rfl ⟨by simp [hn], (Grew.refl _).alloc _⟩
    simp [results, Tryz.results80, go_sem]

theorem plus_names (c a b : Nat) (hc : c ≤ 1) (ha : a < 4294967296) (hb : b < 4294967296) : ∃ t s o c' : Nat, IntKind.u64.wrap ((c : Int) + (a : Int)) = (t : Int) ∧ IntKind.u64.wrap ((t : Int) + (b : Int)) = (s : Int) ∧ (s : Int) % 4294967296 = (o : Int) ∧ (s : Int) / 4294967296 = (c' : Int) ∧ IntKind.u64.wrap (c' : Int) = (c' : Int) ∧ o < 4294967296 ∧ c' ≤ 1 ∧ c' * 4294967296 + o = c + a + b := by
  refine ⟨c + a, c + a + b, (c + a + b) % 4294967296, (c + a + b) / 4294967296, ?_, ?_, ?_, ?_, ?_, ?_, ?_, ?_⟩
  all_goals first | (rw [IntKind.wrap_u64]; omega) | omega

set_option maxRecDepth 5000 in
set_option maxHeartbeats 4000000 in
theorem plus_any (a0 a1 a2 a3 a4 a5 b0 b1 b2 b3 b4 b5 : Nat) (sa sb : Bool) (w : World) (ha : Low6 a0 a1 a2 a3 a4 a5) (hb : Low6 b0 b1 b2 b3 b4 b5) :
    Calls Tryz.prog 78 #[wv a0 a1 a2 a3 a4 a5 sa, wv b0 b1 b2 b3 b4 b5 sb] w fun e w' => ∃ o0 o1 o2 o3 o4 o5 c : Nat, e = .returned (wv o0 o1 o2 o3 o4 o5 false) ∧ Low6 o0 o1 o2 o3 o4 o5 ∧ val6 o0 o1 o2 o3 o4 o5 + 6277101735386680763835789423207666416102355444464034512896 * c = val6 a0 a1 a2 a3 a4 a5 + val6 b0 b1 b2 b3 b4 b5 ∧ Grew w w' := by
  obtain ⟨ha0, ha1, ha2, ha3, ha4, ha5⟩ := ha
  obtain ⟨hb0, hb1, hb2, hb3, hb4, hb5⟩ := hb
  obtain ⟨t0, s0, o0, c1, x0, y0, m0, d0, z0, lo0, lc1, v0⟩ := plus_names 0 a0 b0 (by decide) ha0 hb0
  obtain ⟨t1, s1, o1, c2, x1, y1, m1, d1, z1, lo1, lc2, v1⟩ := plus_names c1 a1 b1 lc1 ha1 hb1
  obtain ⟨t2, s2, o2, c3, x2, y2, m2, d2, z2, lo2, lc3, v2⟩ := plus_names c2 a2 b2 lc2 ha2 hb2
  obtain ⟨t3, s3, o3, c4, x3, y3, m3, d3, z3, lo3, lc4, v3⟩ := plus_names c3 a3 b3 lc3 ha3 hb3
  obtain ⟨t4, s4, o4, c5, x4, y4, m4, d4, z4, lo4, lc5, v4⟩ := plus_names c4 a4 b4 lc4 ha4 hb4
  obtain ⟨t5, s5, o5, c6, x5, y5, m5, d5, z5, lo5, lc6, v5⟩ := plus_names c5 a5 b5 lc5 ha5 hb5
  rw [Int.natCast_zero, Int.zero_add] at x0
  have V0 : Hid (c1 * 4294967296 + o0 = 0 + a0 + b0) := v0
  have V1 : Hid (c2 * 4294967296 + o1 = c1 + a1 + b1) := v1
  have V2 : Hid (c3 * 4294967296 + o2 = c2 + a2 + b2) := v2
  have V3 : Hid (c4 * 4294967296 + o3 = c3 + a3 + b3) := v3
  have V4 : Hid (c5 * 4294967296 + o4 = c4 + a4 + b4) := v4
  have V5 : Hid (c6 * 4294967296 + o5 = c5 + a5 + b5) := v5
  have LO : Hid (Low6 o0 o1 o2 o3 o4 o5) := ⟨lo0, lo1, lo2, lo3, lo4, lo5⟩
  clear v0 lo0 lc1 ha0 hb0 v1 lo1 lc2 ha1 hb1 v2 lo2 lc3 ha2 hb2 v3 lo3 lc4 ha3 hb3 v4 lo4 lc5 ha4 hb4 v5 lo5 lc6 ha5 hb5
  go_enter Tryz.func78, Tryz.ntmps78
  go_wp2_with fail
  refine wp_loop_rounds 7 ?_
  rw [rounds_succ]
  go_wp2_with fail
  go_region_held2 (fun W => W.cell? ⟨w.heap.size, 0, none⟩ = some (.int .u64 (a0 : Int)) ∧ W.cell? ⟨w.heap.size + 1, 0, none⟩ = some (.int .u64 (b0 : Int))) (simp [go_sem]) (fail)
  go_wp2_with fail
  rw [rounds_succ]
  go_wp2_with fail
  go_region_held2 (fun W => W.cell? ⟨w.heap.size, 1, none⟩ = some (.int .u64 (a1 : Int)) ∧ W.cell? ⟨w.heap.size + 1, 1, none⟩ = some (.int .u64 (b1 : Int))) (simp [go_sem]) (fail)
  go_wp2_with fail
  rw [rounds_succ]
  go_wp2_with fail
  go_region_held2 (fun W => W.cell? ⟨w.heap.size, 2, none⟩ = some (.int .u64 (a2 : Int)) ∧ W.cell? ⟨w.heap.size + 1, 2, none⟩ = some (.int .u64 (b2 : Int))) (simp [go_sem]) (fail)
  go_wp2_with fail
  rw [rounds_succ]
  go_wp2_with fail
  go_region_held2 (fun W => W.cell? ⟨w.heap.size, 3, none⟩ = some (.int .u64 (a3 : Int)) ∧ W.cell? ⟨w.heap.size + 1, 3, none⟩ = some (.int .u64 (b3 : Int))) (simp [go_sem]) (fail)
  go_wp2_with fail
  rw [rounds_succ]
  go_wp2_with fail
  go_region_held2 (fun W => W.cell? ⟨w.heap.size, 4, none⟩ = some (.int .u64 (a4 : Int)) ∧ W.cell? ⟨w.heap.size + 1, 4, none⟩ = some (.int .u64 (b4 : Int))) (simp [go_sem]) (fail)
  go_wp2_with fail
  rw [rounds_succ]
  go_wp2_with fail
  go_region_held2 (fun W => W.cell? ⟨w.heap.size, 5, none⟩ = some (.int .u64 (a5 : Int)) ∧ W.cell? ⟨w.heap.size + 1, 5, none⟩ = some (.int .u64 (b5 : Int))) (simp [go_sem]) (fail)
  go_wp2_with fail
  rw [rounds_succ]
  go_wp2_with fail
  refine bodyPost_ret_by (v := wv o0 o1 o2 o3 o4 o5 false) ?_ rfl ⟨o0, o1, o2, o3, o4, o5, c6, rfl, LO.out, ?_, ?_⟩
  · simp [results, Tryz.results78, go_sem]
  · have h0 := V0.out; have h1 := V1.out; have h2 := V2.out; have h3 := V3.out; have h4 := V4.out; have h5 := V5.out
    unfold val6; omega
  · repeat (first | exact Grew.refl _ | apply Grew.drew | apply Grew.drewN | apply Grew.alloc)
end Go.Proofs.YtibbenhplmmmiaaGreatDoor
