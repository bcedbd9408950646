/-
  The walk of DatumOrder: of values that may be there is one order.
-/
import Derived.Test.YtkfnmblfaaabkabGreatDoorVCmp2
import Derived.Test.YtkfnmblfaaabkabGreatDoorVRef
import Derived.Test.YtkfnmblfaaabkabGreatDoorVKnows
namespace Go.Proofs.YtkfnmblfaaabkabGreatDoor
open Go.RowKit Go.Shelf

theorem eqBool (x y : Bool) (w : World) : (binOp BinOp.eql 4 (Value.bool x) (Value.bool y)).run Tryz.prog w = .ok (Value.bool (x == y)) w := by
  cases x <;> cases y <;> kernel_rfl
attribute [local go_sem high] eqBool

theorem three_boxes (w : World) (a b c : Va) : Box (((w.alloc (.cells #[.int .i64 a.k, .int .i64 a.n, .int .i64 a.m, .string ⟨a.b.toArray⟩] 23)).alloc (.cells #[.int .i64 b.k, .int .i64 b.n, .int .i64 b.m, .string ⟨b.b.toArray⟩] 23)).alloc (.cells #[.int .i64 c.k, .int .i64 c.n, .int .i64 c.m, .string ⟨c.b.toArray⟩] 23)) w.heap.size a ∧ Box (((w.alloc (.cells #[.int .i64 a.k, .int .i64 a.n, .int .i64 a.m, .string ⟨a.b.toArray⟩] 23)).alloc (.cells #[.int .i64 b.k, .int .i64 b.n, .int .i64 b.m, .string ⟨b.b.toArray⟩] 23)).alloc (.cells #[.int .i64 c.k, .int .i64 c.n, .int .i64 c.m, .string ⟨c.b.toArray⟩] 23)) (w.heap.size + 1) b ∧ Box (((w.alloc (.cells #[.int .i64 a.k, .int .i64 a.n, .int .i64 a.m, .string ⟨a.b.toArray⟩] 23)).alloc (.cells #[.int .i64 b.k, .int .i64 b.n, .int .i64 b.m, .string ⟨b.b.toArray⟩] 23)).alloc (.cells #[.int .i64 c.k, .int .i64 c.n, .int .i64 c.m, .string ⟨c.b.toArray⟩] 23)) (w.heap.size + 1 + 1) c ∧ Below w.heap.size w (((w.alloc (.cells #[.int .i64 a.k, .int .i64 a.n, .int .i64 a.m, .string ⟨a.b.toArray⟩] 23)).alloc (.cells #[.int .i64 b.k, .int .i64 b.n, .int .i64 b.m, .string ⟨b.b.toArray⟩] 23)).alloc (.cells #[.int .i64 c.k, .int .i64 c.n, .int .i64 c.m, .string ⟨c.b.toArray⟩] 23)) := by
  obtain ⟨h1, h2, h3⟩ := two_boxes w a b
  have h4 := Box.new ((w.alloc (.cells #[.int .i64 a.k, .int .i64 a.n, .int .i64 a.m, .string ⟨a.b.toArray⟩] 23)).alloc (.cells #[.int .i64 b.k, .int .i64 b.n, .int .i64 b.m, .string ⟨b.b.toArray⟩] 23)) c.k c.n c.m c.b
  refine ⟨h1.later ((Below.refl _ _).alloc (Nat.le_refl _) _), h2.later ((Below.refl _ _).alloc (Nat.le_refl _) _), ?_, h3.alloc (by simp; omega) _⟩
  simp only [World.size_alloc] at h4
  exact h4

theorem same_eq {a b : Va} (ha : vr a = true) (hb : vr b = true) : (a.k == b.k && (a.n == b.n && (a.m == b.m && (ByteArray.mk a.b.toArray).toList == (ByteArray.mk b.b.toArray).toList))) = (vcmp a b == 0) := by
  have h := vcmp_zero Lib.validD ((vr_iff a).1 ha) ((vr_iff b).1 hb)
  rw [Lib.toList_data, Lib.toList_data]
  by_cases he : a = b
  · rw [beq_iff_eq.2 (h.2 he)]
    subst he
    simp
  · rw [beq_eq_false_iff_ne.2 (fun h' => he (h.1 h'))]
    obtain ⟨k, n, m, l⟩ := a
    obtain ⟨k', n', m', l'⟩ := b
    simp only [Va.mk.injEq, not_and] at he
    simp only [Bool.and_eq_false_iff, beq_eq_false_iff_ne]
    by_cases h1 : k = k'
    · by_cases h2 : n = n'
      · by_cases h3 : m = m'
        · exact .inr (.inr (.inr (he h1 h2 h3)))
        · exact .inr (.inr (.inl h3))
      · exact .inr (.inl h2)
    · exact .inl h1

set_option maxRecDepth 20000 in
set_option maxHeartbeats 4000000 in
theorem order_walk (a b c : Va) (w : World) (hT : Tabs w) (hP : Pw w) (va : vin a) (vb : vin b) (vc : vin c) :
    Calls Tryz.prog 3 #[vv a, vv b, vv c] w fun e w' => e = .returned (.bool true) ∧ Below w.heap.size w w' := by
  obtain ⟨bxa, bxb, bxc, Bw⟩ := three_boxes w a b c
  have W0 : ∀ w0, Tabs w0 → Pw w0 → (∀ W, Below w0.heap.size w0 W → Calls Tryz.prog 5 #[vv a] W fun e w' => e = .returned (.bool (vr a)) ∧ Below W.heap.size W w') ∧ (∀ W, Below w0.heap.size w0 W → Calls Tryz.prog 5 #[vv b] W fun e w' => e = .returned (.bool (vr b)) ∧ Below W.heap.size W w') ∧ (∀ W, Below w0.heap.size w0 W → Calls Tryz.prog 5 #[vv c] W fun e w' => e = .returned (.bool (vr c)) ∧ Below W.heap.size W w') ∧
      (∀ W, Below w0.heap.size w0 W → Calls Tryz.prog 7 #[vv a, vv b] W fun e w' => e = .returned (.int .i64 (pcmp a b)) ∧ Below W.heap.size W w') ∧ (∀ W, Below w0.heap.size w0 W → Calls Tryz.prog 7 #[vv b, vv c] W fun e w' => e = .returned (.int .i64 (pcmp b c)) ∧ Below W.heap.size W w') ∧ (∀ W, Below w0.heap.size w0 W → Calls Tryz.prog 7 #[vv a, vv c] W fun e w' => e = .returned (.int .i64 (pcmp a c)) ∧ Below W.heap.size W w') ∧ (∀ W, Below w0.heap.size w0 W → Calls Tryz.prog 7 #[vv b, vv a] W fun e w' => e = .returned (.int .i64 (pcmp b a)) ∧ Below W.heap.size W w') ∧
      (∀ W, Below w0.heap.size w0 W → Calls Tryz.prog 8 #[vv a, vv b] W fun e w' => e = .returned (.bool (a.k == b.k && (a.n == b.n && (a.m == b.m && (ByteArray.mk a.b.toArray).toList == (ByteArray.mk b.b.toArray).toList)))) ∧ Below W.heap.size W w') ∧ (∀ W, Below w0.heap.size w0 W → Calls Tryz.prog 6 #[] W fun e w' => e = .returned (.bool true) ∧ Below W.heap.size W w') := by
    intro w0 t0 p0
    exact ⟨fun W _ => rright_any _ _ _ _ W, fun W _ => rright_any _ _ _ _ W, fun W _ => rright_any _ _ _ _ W, fun W h => compare_any a b W (t0.later h) (p0.below h) va vb, fun W h => compare_any b c W (t0.later h) (p0.below h) vb vc,
      fun W h => compare_any a c W (t0.later h) (p0.below h) va vc, fun W h => compare_any b a W (t0.later h) (p0.below h) vb va, fun W _ => (rsame_any _ _ _ _ _ _ _ _ W).mono fun _ _ h => ⟨h.1, h.2.below⟩, fun W h => knows_any W (t0.later h)⟩
  obtain ⟨Ra, Rb, Rc, Cab, Cbc, Cac, Cba, Sm, K⟩ := W0 _ (hT.later Bw) (hP.below Bw)
  clear W0 hT hP
  by_cases ha : vr a = true
  · rw [ha] at Ra
    by_cases hb : vr b = true
    · rw [hb] at Rb
      by_cases hc : vr c = true
      · rw [hc] at Rc
        rw [pcmp_vcmp ha hb] at Cab
        rw [pcmp_vcmp hb hc] at Cbc
        rw [pcmp_vcmp ha hc] at Cac
        rw [pcmp_vcmp hb ha] at Cba
        rw [same_eq ha hb] at Sm
        obtain ⟨f1, _, f3, f4⟩ := vcmp_order Lib.validD a b c ⟨(vr_iff a).1 ha, va.1⟩ ⟨(vr_iff b).1 hb, vb.1⟩ ⟨(vr_iff c).1 hc, vc.1⟩
        rw [f1] at Cba
        have r1 : Hid _ := vcmp_range a b
        have r2 : Hid _ := vcmp_range b c
        have r3 : Hid _ := vcmp_range a c
        generalize vcmp a b = x at *
        generalize vcmp b c = y at *
        generalize vcmp a c = z at *
        have q1 : -1 ≤ x ∧ x ≤ 1 := by have := r1.out; omega
        obtain ⟨q1, q2⟩ := q1
        clear f1 ha hb hc va vb vc
        go_enter Tryz.func3, Tryz.ntmps3
        go_upto_region 1 with fail
        generalize ((w.alloc (.cells #[.int .i64 a.k, .int .i64 a.n, .int .i64 a.m, .string ⟨a.b.toArray⟩] 23)).alloc (.cells #[.int .i64 b.k, .int .i64 b.n, .int .i64 b.m, .string ⟨b.b.toArray⟩] 23)).alloc (.cells #[.int .i64 c.k, .int .i64 c.n, .int .i64 c.m, .string ⟨c.b.toArray⟩] 23) = w0 at *
        have B0 : Below w0.heap.size w0 w0 := Below.refl _ _
        obtain ⟨a0, a1, a2, a3⟩ := (bxa.later B0).at4
        obtain ⟨b0, b1, b2, b3⟩ := (bxb.later B0).at4
        obtain ⟨d0, d1, d2, d3⟩ := (bxc.later B0).at4
        go_wp2_with fail
        refine (Ra _ B0).mono ?_
        rintro e w1 ⟨rfl, c0⟩
        have B1 := below_trans B0 c0
        clear a0 a1 a2 a3 b0 b1 b2 b3 d0 d1 d2 d3 c0
        obtain ⟨a0, a1, a2, a3⟩ := (bxa.later B1).at4
        obtain ⟨b0, b1, b2, b3⟩ := (bxb.later B1).at4
        obtain ⟨d0, d1, d2, d3⟩ := (bxc.later B1).at4
        go_wp2_with fail
        refine (Rb _ B1).mono ?_
        rintro e w2 ⟨rfl, c1⟩
        have B2 := below_trans B1 c1
        clear a0 a1 a2 a3 b0 b1 b2 b3 d0 d1 d2 d3 c1
        obtain ⟨a0, a1, a2, a3⟩ := (bxa.later B2).at4
        obtain ⟨b0, b1, b2, b3⟩ := (bxb.later B2).at4
        obtain ⟨d0, d1, d2, d3⟩ := (bxc.later B2).at4
        go_wp2_with fail
        refine (Rc _ B2).mono ?_
        rintro e w3 ⟨rfl, c2⟩
        have B3 := below_trans B2 c2
        clear a0 a1 a2 a3 b0 b1 b2 b3 d0 d1 d2 d3 c2
        obtain ⟨a0, a1, a2, a3⟩ := (bxa.later B3).at4
        obtain ⟨b0, b1, b2, b3⟩ := (bxb.later B3).at4
        obtain ⟨d0, d1, d2, d3⟩ := (bxc.later B3).at4
        go_wp2_with fail
        refine (Cab _ B3).mono ?_
        rintro e w4 ⟨rfl, c3⟩
        have B4 := below_trans B3 c3
        clear a0 a1 a2 a3 b0 b1 b2 b3 d0 d1 d2 d3 c3
        obtain ⟨a0, a1, a2, a3⟩ := (bxa.later B4).at4
        obtain ⟨b0, b1, b2, b3⟩ := (bxb.later B4).at4
        obtain ⟨d0, d1, d2, d3⟩ := (bxc.later B4).at4
        go_wp2_with fail
        refine (Cbc _ B4).mono ?_
        rintro e w5 ⟨rfl, c4⟩
        have B5 := below_trans B4 c4
        clear a0 a1 a2 a3 b0 b1 b2 b3 d0 d1 d2 d3 c4
        obtain ⟨a0, a1, a2, a3⟩ := (bxa.later B5).at4
        obtain ⟨b0, b1, b2, b3⟩ := (bxb.later B5).at4
        obtain ⟨d0, d1, d2, d3⟩ := (bxc.later B5).at4
        go_wp2_with fail
        refine (Cac _ B5).mono ?_
        rintro e w6 ⟨rfl, c5⟩
        have B6 := below_trans B5 c5
        clear a0 a1 a2 a3 b0 b1 b2 b3 d0 d1 d2 d3 c5
        obtain ⟨a0, a1, a2, a3⟩ := (bxa.later B6).at4
        obtain ⟨b0, b1, b2, b3⟩ := (bxb.later B6).at4
        obtain ⟨d0, d1, d2, d3⟩ := (bxc.later B6).at4
        go_wp2_with fail
        refine (Cba _ B6).mono ?_
        rintro e w7 ⟨rfl, c6⟩
        have B7 := below_trans B6 c6
        clear a0 a1 a2 a3 b0 b1 b2 b3 d0 d1 d2 d3 c6
        obtain ⟨a0, a1, a2, a3⟩ := (bxa.later B7).at4
        obtain ⟨b0, b1, b2, b3⟩ := (bxb.later B7).at4
        obtain ⟨d0, d1, d2, d3⟩ := (bxc.later B7).at4
        go_wp2_with fail
        refine (Sm _ B7).mono ?_
        rintro e w8 ⟨rfl, c7⟩
        have B8 := below_trans B7 c7
        clear a0 a1 a2 a3 b0 b1 b2 b3 d0 d1 d2 d3 c7
        obtain ⟨a0, a1, a2, a3⟩ := (bxa.later B8).at4
        obtain ⟨b0, b1, b2, b3⟩ := (bxb.later B8).at4
        obtain ⟨d0, d1, d2, d3⟩ := (bxc.later B8).at4
        clear r1 r2 r3
        by_cases p1 : 0 < x <;> by_cases p2 : 0 < y <;> by_cases p3 : z ≤ 0 <;> by_cases p4 : x < 0 <;> by_cases p5 : y < 0 <;> by_cases p6 : 0 ≤ z
        all_goals first
          | (exfalso; omega)
          | (clear f3 f4
             go_wp2_with (go_at_call 6; refine (K _ B8).mono ?_; rintro e w9 ⟨rfl, c8⟩)
             go_ret
             exact ⟨rfl, below_trans Bw (below_trans B8 c8)⟩)
      · rw [Bool.not_eq_true] at hc
        rw [hc] at Rc
        clear Cab Cbc Cac Cba Sm ha hb hc va vb vc
        go_enter Tryz.func3, Tryz.ntmps3
        go_upto_region 1 with fail
        generalize ((w.alloc (.cells #[.int .i64 a.k, .int .i64 a.n, .int .i64 a.m, .string ⟨a.b.toArray⟩] 23)).alloc (.cells #[.int .i64 b.k, .int .i64 b.n, .int .i64 b.m, .string ⟨b.b.toArray⟩] 23)).alloc (.cells #[.int .i64 c.k, .int .i64 c.n, .int .i64 c.m, .string ⟨c.b.toArray⟩] 23) = w0 at *
        have B0 : Below w0.heap.size w0 w0 := Below.refl _ _
        obtain ⟨a0, a1, a2, a3⟩ := (bxa.later B0).at4
        obtain ⟨b0, b1, b2, b3⟩ := (bxb.later B0).at4
        obtain ⟨d0, d1, d2, d3⟩ := (bxc.later B0).at4
        go_wp2_with fail
        refine (Ra _ B0).mono ?_
        rintro e w1 ⟨rfl, c0⟩
        have B1 := below_trans B0 c0
        clear a0 a1 a2 a3 b0 b1 b2 b3 d0 d1 d2 d3 c0
        obtain ⟨a0, a1, a2, a3⟩ := (bxa.later B1).at4
        obtain ⟨b0, b1, b2, b3⟩ := (bxb.later B1).at4
        obtain ⟨d0, d1, d2, d3⟩ := (bxc.later B1).at4
        go_wp2_with fail
        refine (Rb _ B1).mono ?_
        rintro e w2 ⟨rfl, c1⟩
        have B2 := below_trans B1 c1
        clear a0 a1 a2 a3 b0 b1 b2 b3 d0 d1 d2 d3 c1
        obtain ⟨a0, a1, a2, a3⟩ := (bxa.later B2).at4
        obtain ⟨b0, b1, b2, b3⟩ := (bxb.later B2).at4
        obtain ⟨d0, d1, d2, d3⟩ := (bxc.later B2).at4
        go_wp2_with fail
        refine (Rc _ B2).mono ?_
        rintro e w3 ⟨rfl, c2⟩
        have B3 := below_trans B2 c2
        clear a0 a1 a2 a3 b0 b1 b2 b3 d0 d1 d2 d3 c2
        obtain ⟨a0, a1, a2, a3⟩ := (bxa.later B3).at4
        obtain ⟨b0, b1, b2, b3⟩ := (bxb.later B3).at4
        obtain ⟨d0, d1, d2, d3⟩ := (bxc.later B3).at4
        go_wp2_with fail
        refine (K _ B3).mono ?_
        rintro e w4 ⟨rfl, c3⟩
        have B4 := below_trans B3 c3
        clear a0 a1 a2 a3 b0 b1 b2 b3 d0 d1 d2 d3 c3
        obtain ⟨a0, a1, a2, a3⟩ := (bxa.later B4).at4
        obtain ⟨b0, b1, b2, b3⟩ := (bxb.later B4).at4
        obtain ⟨d0, d1, d2, d3⟩ := (bxc.later B4).at4
        go_wp2
        all_goals go_ret
        all_goals exact ⟨rfl, below_trans Bw B4⟩
    · rw [Bool.not_eq_true] at hb
      rw [hb] at Rb
      clear Cab Cbc Cac Cba Sm ha hb va vb vc
      go_enter Tryz.func3, Tryz.ntmps3
      go_upto_region 1 with fail
      generalize ((w.alloc (.cells #[.int .i64 a.k, .int .i64 a.n, .int .i64 a.m, .string ⟨a.b.toArray⟩] 23)).alloc (.cells #[.int .i64 b.k, .int .i64 b.n, .int .i64 b.m, .string ⟨b.b.toArray⟩] 23)).alloc (.cells #[.int .i64 c.k, .int .i64 c.n, .int .i64 c.m, .string ⟨c.b.toArray⟩] 23) = w0 at *
      have B0 : Below w0.heap.size w0 w0 := Below.refl _ _
      obtain ⟨a0, a1, a2, a3⟩ := (bxa.later B0).at4
      obtain ⟨b0, b1, b2, b3⟩ := (bxb.later B0).at4
      obtain ⟨d0, d1, d2, d3⟩ := (bxc.later B0).at4
      go_wp2_with fail
      refine (Ra _ B0).mono ?_
      rintro e w1 ⟨rfl, c0⟩
      have B1 := below_trans B0 c0
      clear a0 a1 a2 a3 b0 b1 b2 b3 d0 d1 d2 d3 c0
      obtain ⟨a0, a1, a2, a3⟩ := (bxa.later B1).at4
      obtain ⟨b0, b1, b2, b3⟩ := (bxb.later B1).at4
      obtain ⟨d0, d1, d2, d3⟩ := (bxc.later B1).at4
      go_wp2_with fail
      refine (Rb _ B1).mono ?_
      rintro e w2 ⟨rfl, c1⟩
      have B2 := below_trans B1 c1
      clear a0 a1 a2 a3 b0 b1 b2 b3 d0 d1 d2 d3 c1
      obtain ⟨a0, a1, a2, a3⟩ := (bxa.later B2).at4
      obtain ⟨b0, b1, b2, b3⟩ := (bxb.later B2).at4
      obtain ⟨d0, d1, d2, d3⟩ := (bxc.later B2).at4
      go_wp2_with fail
      refine (K _ B2).mono ?_
      rintro e w3 ⟨rfl, c2⟩
      have B3 := below_trans B2 c2
      clear a0 a1 a2 a3 b0 b1 b2 b3 d0 d1 d2 d3 c2
      obtain ⟨a0, a1, a2, a3⟩ := (bxa.later B3).at4
      obtain ⟨b0, b1, b2, b3⟩ := (bxb.later B3).at4
      obtain ⟨d0, d1, d2, d3⟩ := (bxc.later B3).at4
      go_wp2
      all_goals go_ret
      all_goals exact ⟨rfl, below_trans Bw B3⟩
  · rw [Bool.not_eq_true] at ha
    rw [ha] at Ra
    clear Cab Cbc Cac Cba Sm ha va vb vc
    go_enter Tryz.func3, Tryz.ntmps3
    go_upto_region 1 with fail
    generalize ((w.alloc (.cells #[.int .i64 a.k, .int .i64 a.n, .int .i64 a.m, .string ⟨a.b.toArray⟩] 23)).alloc (.cells #[.int .i64 b.k, .int .i64 b.n, .int .i64 b.m, .string ⟨b.b.toArray⟩] 23)).alloc (.cells #[.int .i64 c.k, .int .i64 c.n, .int .i64 c.m, .string ⟨c.b.toArray⟩] 23) = w0 at *
    have B0 : Below w0.heap.size w0 w0 := Below.refl _ _
    obtain ⟨a0, a1, a2, a3⟩ := (bxa.later B0).at4
    obtain ⟨b0, b1, b2, b3⟩ := (bxb.later B0).at4
    obtain ⟨d0, d1, d2, d3⟩ := (bxc.later B0).at4
    go_wp2_with fail
    refine (Ra _ B0).mono ?_
    rintro e w1 ⟨rfl, c0⟩
    have B1 := below_trans B0 c0
    clear a0 a1 a2 a3 b0 b1 b2 b3 d0 d1 d2 d3 c0
    obtain ⟨a0, a1, a2, a3⟩ := (bxa.later B1).at4
    obtain ⟨b0, b1, b2, b3⟩ := (bxb.later B1).at4
    obtain ⟨d0, d1, d2, d3⟩ := (bxc.later B1).at4
    go_wp2_with fail
    refine (K _ B1).mono ?_
    rintro e w2 ⟨rfl, c1⟩
    have B2 := below_trans B1 c1
    clear a0 a1 a2 a3 b0 b1 b2 b3 d0 d1 d2 d3 c1
    obtain ⟨a0, a1, a2, a3⟩ := (bxa.later B2).at4
    obtain ⟨b0, b1, b2, b3⟩ := (bxb.later B2).at4
    obtain ⟨d0, d1, d2, d3⟩ := (bxc.later B2).at4
    go_wp2
    all_goals go_ret
    all_goals exact ⟨rfl, below_trans Bw B2⟩
end Go.Proofs.YtkfnmblfaaabkabGreatDoor
