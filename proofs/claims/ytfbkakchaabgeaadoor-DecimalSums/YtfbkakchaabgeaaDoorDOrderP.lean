/-
  What DecimalOrder asks of Compare and Rescale: one order, which a greater scale does not change: for every three decimals of a right scale.
-/
import Derived.Test.YtfbkakchaabgeaaDoorDGives
import Derived.Test.YtfbkakchaabgeaaDoorDResc
import Derived.Test.YtfbkakchaabgeaaDoorDCmp
namespace Go.Proofs.YtfbkakchaabgeaaDoor

theorem sgn3 (x : Int) : (x < 0 ∧ x.sign = -1) ∨ (x = 0 ∧ x.sign = 0) ∨ (0 < x ∧ x.sign = 1) := by
  rcases Int.lt_trichotomy x 0 with h | h | h
  · exact .inl ⟨h, Int.sign_eq_neg_one_of_neg h⟩
  · exact .inr (.inl ⟨h, by rw [h]; rfl⟩)
  · exact .inr (.inr ⟨h, Int.sign_eq_one_of_pos h⟩)
theorem sgn_pos_mul (x p : Int) (h : 0 < p) : (x * p).sign = x.sign := by rw [Int.sign_mul, Int.sign_eq_one_of_pos h, Int.mul_one]
theorem at10_at10 (u s t r : Int) (h1 : s ≤ t) (h2 : t ≤ r) : at10 (at10 u s t) t r = at10 u s r := by
  unfold at10
  rw [show (r - s).toNat = (t - s).toNat + (r - t).toNat by omega, Nat.pow_add, Int.natCast_mul, Int.mul_assoc]
theorem at10_pos (t r : Int) : (0 : Int) < (10 ^ (r - t).toNat : Nat) := by have : 0 < 10 ^ (r - t).toNat := Nat.pow_pos (by decide); omega
theorem sgn_six (ua sa ub sb t : Int) (h1 : sa ≤ t) (h2 : sb ≤ t) (h3 : t ≤ 6) : (at10 ua sa t - at10 ub sb t).sign = (at10 ua sa 6 - at10 ub sb 6).sign := by
  rw [← at10_at10 ua sa t 6 h1 h3, ← at10_at10 ub sb t 6 h2 h3]
  have e : at10 (at10 ua sa t) t 6 - at10 (at10 ub sb t) t 6 = (at10 ua sa t - at10 ub sb t) * (10 ^ (6 - t).toNat : Nat) := by
    unfold at10; rw [Int.sub_mul]
  rw [e, sgn_pos_mul _ _ (at10_pos t 6)]

/-- The order, at the greatest scale. -/
theorem cmp_six (ua sa ub sb : Int) (w : World) (hP : Pw w) (ha : rightS sa = true) (hb : rightS sb = true) (a0 : -9223372036854775808 ≤ ua) (a1 : ua ≤ 9223372036854775807) (b0 : -9223372036854775808 ≤ ub) (b1 : ub ≤ 9223372036854775807) :
    Gives 17 #[dv ua sa, dv ub sb] w (.int .i64 (at10 ua sa 6 - at10 ub sb 6).sign) := by
  intro W h
  have ha' := (rightS_iff sa).1 ha
  have hb' := (rightS_iff sb).1 hb
  by_cases hs : sb ≤ sa
  · rw [← sgn_six ua sa ub sb sa (Int.le_refl _) hs ha'.2]
    exact cmp_good ua sa ub sb sa W (hP.later h) ha hb (.inl ⟨rfl, hs⟩) a0 a1 b0 b1
  · rw [← sgn_six ua sa ub sb sb (by omega) (Int.le_refl _) hb'.2]
    exact cmp_good ua sa ub sb sb W (hP.later h) ha hb (.inr ⟨rfl, by omega⟩) a0 a1 b0 b1

theorem order_facts (ua sa ub sb uc sc scl : Int) (w : World) (hP : Pw w) (ha : rightS sa = true) (hb : rightS sb = true) (hc : rightS sc = true) (a0 : -9223372036854775808 ≤ ua) (a1 : ua ≤ 9223372036854775807) (b0 : -9223372036854775808 ≤ ub) (b1 : ub ≤ 9223372036854775807) (c0 : -9223372036854775808 ≤ uc) (c1 : uc ≤ 9223372036854775807) :
    ∃ ab bc ac du ds ee : Int, Gives 17 #[dv ua sa, dv ub sb] w (.int .i64 ab) ∧ Gives 17 #[dv ub sb, dv uc sc] w (.int .i64 bc) ∧ Gives 17 #[dv ua sa, dv uc sc] w (.int .i64 ac) ∧ Gives 17 #[dv ub sb, dv ua sa] w (.int .i64 (-ab)) ∧
      (ab = -1 ∨ ab = 0 ∨ ab = 1) ∧ (bc = -1 ∨ bc = 0 ∨ bc = 1) ∧ (ab ≤ 0 → bc ≤ 0 → ac ≤ 0) ∧ (0 ≤ ab → 0 ≤ bc → 0 ≤ ac) ∧ (ua = ub → sa = sb → ab = 0) ∧
      Gives 26 #[dv ua sa, .int .i64 scl] w (.tuple #[dv du ds, .int .i64 ee]) ∧
      (ee = 0 → sa ≤ scl → Gives 17 #[dv du ds, dv ua sa] w (.int .i64 0)) ∧ (ee = 0 → sa ≤ scl → Gives 17 #[dv du ds, dv ub sb] w (.int .i64 ab)) := by
  have k1 := sgn3 (at10 ua sa 6 - at10 ub sb 6)
  have k2 := sgn3 (at10 ub sb 6 - at10 uc sc 6)
  have k3 := sgn3 (at10 ua sa 6 - at10 uc sc 6)
  refine ⟨_, _, _, rU ua sa scl, rS ua sa scl, rE ua sa scl, cmp_six ua sa ub sb w hP ha hb a0 a1 b0 b1, cmp_six ub sb uc sc w hP hb hc b0 b1 c0 c1, cmp_six ua sa uc sc w hP ha hc a0 a1 c0 c1, ?_, by omega, by omega, fun _ _ => by omega, fun _ _ => by omega, ?_, fun W h => rescale_any ua sa scl W (hP.later h) a0 a1, ?_, ?_⟩
  · rw [← Int.sign_neg, Int.neg_sub]
    exact cmp_six ub sb ua sa w hP hb ha b0 b1 a0 a1
  · rintro rfl rfl
    rw [Int.sub_self]; rfl
  · intro he hs
    obtain ⟨_, ht, x0, x1, e1, e2⟩ := rescale_ok ua sa scl he
    have ht' := (rightS_iff scl).1 ht
    have e3 : dq ua sa 1 0 scl = at10 ua sa scl := by rw [dq_up _ _ _ hs]; rfl
    have := cmp_six (dq ua sa 1 0 scl) scl ua sa w hP ht ha x0 x1 a0 a1
    rw [e1, e2]
    rw [e3, at10_at10 ua sa scl 6 hs ht'.2, Int.sub_self] at this
    rw [e3]; exact this
  · intro he hs
    obtain ⟨_, ht, x0, x1, e1, e2⟩ := rescale_ok ua sa scl he
    have ht' := (rightS_iff scl).1 ht
    have e3 : dq ua sa 1 0 scl = at10 ua sa scl := by rw [dq_up _ _ _ hs]; rfl
    have := cmp_six (dq ua sa 1 0 scl) scl ub sb w hP ht hb x0 x1 b0 b1
    rw [e1, e2]
    rw [e3, at10_at10 ua sa scl 6 hs ht'.2] at this
    rw [e3]; exact this
end Go.Proofs.YtfbkakchaabgeaaDoor
