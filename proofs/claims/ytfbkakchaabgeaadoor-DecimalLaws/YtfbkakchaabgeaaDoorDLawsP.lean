/-
  What DecimalLaws asks of Add, Sub, Compare, Mul and Div: sums and products turned round are the same, what is added is taken away again, a product is parted again: for every two decimals.
-/
import Derived.Test.YtfbkakchaabgeaaDoorDNeg
import Derived.Test.YtfbkakchaabgeaaDoorDGives
import Derived.Test.YtfbkakchaabgeaaDoorDResc
import Derived.Test.YtfbkakchaabgeaaDoorDAdd
import Derived.Test.YtfbkakchaabgeaaDoorDMul
import Derived.Test.YtfbkakchaabgeaaDoorDCmp
namespace Go.Proofs.YtfbkakchaabgeaaDoor

theorem rq_mul_self (a b : Int) (h : b ≠ 0) : rq (a * b) b = a := by
  unfold rq
  rw [Int.natAbs_mul, rnd_mul _ _ (by omega)]
  by_cases h0 : a = 0
  · subst h0; simp [sval]
  · have hb : decide (a * b < 0) = !(decide (a < 0) == decide (b < 0)) := by
      rcases Int.lt_or_gt_of_ne h0 with ha | ha <;> rcases Int.lt_or_gt_of_ne h with hb | hb
      · have := Int.mul_pos_of_neg_of_neg ha hb
        simp [ha, hb]; omega
      · have := Int.mul_neg_of_neg_of_pos ha hb
        have h2 : ¬ b < 0 := by omega
        simp [ha, h2]; omega
      · have := Int.mul_neg_of_pos_of_neg ha hb
        have h2 : ¬ a < 0 := by omega
        simp [hb, h2]; omega
      · have := Int.mul_pos ha hb
        have h2 : ¬ b < 0 := by omega
        have h3 : ¬ a < 0 := by omega
        simp [h2, h3]; omega
    have e : (!(decide (a * b < 0) == decide (b < 0))) = decide (a < 0) := by
      rw [hb]; cases decide (a < 0) <;> cases decide (b < 0) <;> rfl
    rw [e]; exact sval_of a

theorem ok_in (z : Int) (h : nErr z = 0) : -9223372036854775808 ≤ z ∧ z ≤ 9223372036854775807 ∧ nz z = z ∧ ∀ s, fs z s = s := by
  unfold nErr at h
  by_cases hf : fits z = true
  · have := (fits_iff z).1 hf
    exact ⟨this.1, this.2, by simp [nz, hf], fun s => by simp [fs, hf]⟩
  · simp [hf] at h

theorem add_both (ua sa ub sb : Int) (w : World) (hP : Pw w) (a0 : -9223372036854775808 ≤ ua) (a1 : ua ≤ 9223372036854775807) (b0 : -9223372036854775808 ≤ ub) (b1 : ub ≤ 9223372036854775807) :
    ∃ pu ps pe du ds ie : Int, Gives 9 #[dv ua sa, dv ub sb] w (.tuple #[dv pu ps, .int .i64 pe]) ∧ Gives 9 #[dv ub sb, dv ua sa] w (.tuple #[dv pu ps, .int .i64 pe]) ∧
      (pe = 0 → Gives 12 #[dv pu ps, dv ub sb] w (.tuple #[dv du ds, .int .i64 ie])) ∧ (pe = 0 → ie = 0 → Gives 17 #[dv du ds, dv ua sa] w (.int .i64 0)) := by
  by_cases hr : (rightS sa && rightS sb) = true
  · have h' := Bool.and_eq_true_iff.1 hr
    obtain ⟨t, ht⟩ : ∃ t, (t = sa ∧ sb ≤ sa) ∨ (t = sb ∧ sa < sb) := by
      by_cases h : sb ≤ sa
      · exact ⟨sa, .inl ⟨rfl, h⟩⟩
      · exact ⟨sb, .inr ⟨rfl, by omega⟩⟩
    have rt : rightS t = true := by
      rcases ht with h | h
      · rw [h.1]; exact h'.1
      · rw [h.1]; exact h'.2
    refine ⟨_, _, _, nz (at10 ua sa t), fs (at10 ua sa t) t, nErr (at10 ua sa t), fun W h => add_good ua sa ub sb t W (hP.later h) h'.1 h'.2 ht a0 a1 b0 b1, fun W h => ?_, fun he W h => ?_, fun he hi W h => ?_⟩
    · rw [Int.add_comm (at10 ua sa t)]
      exact add_good ub sb ua sa t W (hP.later h) h'.2 h'.1 (by omega) b0 b1 a0 a1
    · obtain ⟨x0, x1, e1, e2⟩ := ok_in _ he
      rw [e1, e2]
      have := sub_good (at10 ua sa t + at10 ub sb t) t ub sb t W (hP.later h) rt h'.2 (.inl ⟨rfl, by omega⟩) x0 x1 b0 b1
      rw [at10_same, show at10 ua sa t + at10 ub sb t - at10 ub sb t = at10 ua sa t by omega] at this
      exact this
    · obtain ⟨x0, x1, e1, e2⟩ := ok_in _ hi
      rw [e1, e2]
      have := cmp_good (at10 ua sa t) t ua sa t W (hP.later h) rt h'.1 (.inl ⟨rfl, by omega⟩) x0 x1 a0 a1
      rw [at10_same, Int.sub_self] at this
      exact this
  · have hr' : (rightS sa && rightS sb) = false := by simpa using hr
    refine ⟨0, 0, 1, 0, 0, 0, fun W _ => add_bad ua sa ub sb W hr', fun W _ => add_bad ub sb ua sa W (by rw [Bool.and_comm]; exact hr'), fun h => absurd h (by decide), fun h => absurd h (by decide)⟩

theorem mul_both (ua sa ub sb : Int) (w : World) (hP : Pw w) (a0 : -9223372036854775808 ≤ ua) (a1 : ua ≤ 9223372036854775807) (b0 : -9223372036854775808 ≤ ub) (b1 : ub ≤ 9223372036854775807) :
    ∃ ru rs re : Int, Gives 22 #[dv ua sa, dv ub sb] w (.tuple #[dv ru rs, .int .i64 re]) ∧ Gives 22 #[dv ub sb, dv ua sa] w (.tuple #[dv ru rs, .int .i64 re]) ∧
      (re = 0 → IntKind.i64.wrap (sa + sb) = sa + sb) ∧ (re = 0 → ¬ ub = 0 → sa + sb ≤ 6 → Gives 24 #[dv ru rs, dv ub sb, .int .i64 sa] w (.tuple #[dv ua sa, .int .i64 0])) := by
  by_cases hr : (rightS sa && rightS sb) = true
  · have h' := Bool.and_eq_true_iff.1 hr
    have ha := (rightS_iff sa).1 h'.1
    have hb := (rightS_iff sb).1 h'.2
    obtain ⟨t, k, ht, hk⟩ : ∃ (t : Int) (k : Nat), ((t = sa + sb ∧ sa + sb ≤ 6) ∨ (t = 6 ∧ 6 < sa + sb)) ∧ sa + sb - t = (k : Int) := by
      by_cases h : sa + sb ≤ 6
      · exact ⟨sa + sb, 0, .inl ⟨rfl, h⟩, by omega⟩
      · exact ⟨6, (sa + sb - 6).toNat, .inr ⟨rfl, by omega⟩, by omega⟩
    refine ⟨_, _, _, fun W h => mul_good ua sa ub sb t k W (hP.later h) h'.1 h'.2 ht hk a0 a1 b0 b1, fun W h => ?_, fun _ => ?_, fun he hu hs W h => ?_⟩
    · rw [Int.mul_comm ua ub]
      exact mul_good ub sb ua sa t k W (hP.later h) h'.2 h'.1 (by rw [Int.add_comm]; exact ht) (by rw [Int.add_comm]; exact hk) b0 b1 a0 a1
    · rw [IntKind.wrap_i64]; omega
    · obtain ⟨x0, x1, e1, e2⟩ := ok_in _ he
      rw [e1, e2]
      obtain rfl : t = sa + sb := by omega
      obtain rfl : k = 0 := by omega
      have e3 : rq (ua * ub) (10 ^ 0 : Nat) = ua * ub := by rw [Nat.pow_zero]; exact rq_one _
      rw [e3] at x0 x1 ⊢
      have := div_good (ua * ub) (sa + sb) ub sb sa W (hP.later h) ((rightS_iff _).2 (by omega)) h'.2 h'.1 x0 x1 b0 b1 hu
      have e4 : dq (ua * ub) (sa + sb) ub sb sa = ua := by
        unfold dq
        rw [if_pos (Int.le_refl _), Int.sub_self, Int.toNat_zero, Nat.pow_zero, Int.natCast_one, Int.mul_one, rq_mul_self _ _ hu]
      rw [e4] at this
      obtain ⟨f1, f2⟩ := nz_in a0 a1
      have f3 : fs ua sa = sa := by simp [fs, (fits_iff ua).2 ⟨a0, a1⟩]
      rw [dres, f1, f2, f3] at this
      exact this
  · have hr' : (rightS sa && rightS sb) = false := by simpa using hr
    refine ⟨0, 0, 1, fun W _ => mul_bad ua sa ub sb W hr', fun W _ => mul_bad ub sb ua sa W (by rw [Bool.and_comm]; exact hr'), fun h => absurd h (by decide), fun h => absurd h (by decide)⟩
end Go.Proofs.YtfbkakchaabgeaaDoor
