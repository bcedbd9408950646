/-
  The numbers of a common divisor: it divides both, is nought only of two noughts, and stays small. Nothing of the program is in it.
-/
import Derived.Test.YtidknbdckdinlaaGGcd2
namespace Go.Proofs.Ytidknbdckdinlaa

/-- A point divides another one. -/
def Dv (g h x y : Int) : Prop := ∃ s t : Int, x = g * s - h * t ∧ y = g * t + h * s
theorem Dv.self (g h : Int) : Dv g h g h := ⟨1, 0, by omega, by omega⟩
theorem Dv.zero (g h : Int) : Dv g h 0 0 := ⟨0, 0, by omega, by omega⟩

theorem rest_back (x y u v : Int) : x = (u * qX x y u v - v * qY x y u v) + rX x y u v ∧ y = (u * qY x y u v + v * qX x y u v) + rY x y u v := by
  unfold rX rY
  constructor <;> omega

theorem gl_facts (n : Nat) : ∀ x y u v : Int, (u * u + v * v).toNat ≤ n → Dv (gl x y u v).1 (gl x y u v).2 x y ∧ Dv (gl x y u v).1 (gl x y u v).2 u v ∧ (gl x y u v = (0, 0) → (x = 0 ∧ y = 0) ∧ u = 0 ∧ v = 0) ∧
    ((-1048576 ≤ x ∧ x ≤ 1048576 ∧ -1048576 ≤ y ∧ y ≤ 1048576) → (-1048576 ≤ u ∧ u ≤ 1048576 ∧ -1048576 ≤ v ∧ v ≤ 1048576) →
      -1048576 ≤ (gl x y u v).1 ∧ (gl x y u v).1 ≤ 1048576 ∧ -1048576 ≤ (gl x y u v).2 ∧ (gl x y u v).2 ≤ 1048576) := by
  induction n with
  | zero =>
    intro x y u v h
    have hz : u = 0 ∧ v = 0 := by
      have h1 := sq_nn u
      have h2 := sq_nn v
      exact norm_zero (by omega)
    obtain ⟨rfl, rfl⟩ := hz
    rw [gl_zero]
    exact ⟨Dv.self _ _, Dv.zero _ _, fun h => ⟨Prod.mk.inj h, rfl, rfl⟩, fun h _ => h⟩
  | succ n ih =>
    intro x y u v h
    by_cases hz : u = 0 ∧ v = 0
    · obtain ⟨rfl, rfl⟩ := hz
      rw [gl_zero]
      exact ⟨Dv.self _ _, Dv.zero _ _, fun h => ⟨Prod.mk.inj h, rfl, rfl⟩, fun h _ => h⟩
    · rw [gl_step x y u v hz]
      have hn := norm_pos hz
      have hh := rest_half x y u v hn
      have s1 := sq_nn (rX x y u v)
      have s2 := sq_nn (rY x y u v)
      obtain ⟨k1, k2, k3, k4⟩ := ih u v (rX x y u v) (rY x y u v) (by omega)
      refine ⟨?_, k1, fun h => absurd (k3 h).1 hz, fun _ hb => ?_⟩
      · obtain ⟨e1, e2⟩ := rest_back x y u v
        generalize gl u v (rX x y u v) (rY x y u v) = gg at *
        generalize rX x y u v = r1 at *
        generalize rY x y u v = r2 at *
        generalize qX x y u v = q1 at *
        generalize qY x y u v = q2 at *
        obtain ⟨a, b, i1, i2⟩ := k1
        obtain ⟨c, d, i3, i4⟩ := k2
        refine ⟨a * q1 - b * q2 + c, a * q2 + b * q1 + d, ?_, ?_⟩
        · rw [e1, i1, i2, i3]; grind
        · rw [e2, i1, i2, i4]; grind
      · have hr := rest_ok x y u v ⟨hb.1, hb.2.1⟩ ⟨hb.2.2.1, hb.2.2.2⟩ hn
        exact k4 hb ⟨hr.1.1, hr.1.2, hr.2.1, hr.2.2⟩

theorem fq_cases (x y : Int) : (x = 0 ∧ y = 0 ∧ fqX x y = 0 ∧ fqY x y = 0) ∨ (0 < x ∧ 0 ≤ y ∧ fqX x y = x ∧ fqY x y = y) ∨ (x ≤ 0 ∧ 0 < y ∧ fqX x y = y ∧ fqY x y = -x) ∨
    (x < 0 ∧ y ≤ 0 ∧ fqX x y = -x ∧ fqY x y = -y) ∨ (0 ≤ x ∧ y < 0 ∧ fqX x y = -y ∧ fqY x y = x) := by
  unfold fqX fqY
  by_cases h1 : x = 0 ∧ y = 0
  · rw [if_pos h1, if_pos h1]; omega
  · rw [if_neg h1, if_neg h1]
    by_cases h2 : 0 < x ∧ 0 ≤ y
    · rw [if_pos h2, if_pos h2]; omega
    · rw [if_neg h2, if_neg h2]
      by_cases h3 : x ≤ 0 ∧ 0 < y
      · rw [if_pos h3, if_pos h3]; omega
      · rw [if_neg h3, if_neg h3]
        by_cases h4 : x < 0 ∧ y ≤ 0
        · rw [if_pos h4, if_pos h4]; omega
        · rw [if_neg h4, if_neg h4]; omega

theorem fq_dv {g h x y : Int} (k : Dv g h x y) : Dv (fqX g h) (fqY g h) x y := by
  obtain ⟨s, t, e1, e2⟩ := k
  rcases fq_cases g h with ⟨a, b, i, j⟩ | ⟨a, b, i, j⟩ | ⟨a, b, i, j⟩ | ⟨a, b, i, j⟩ | ⟨a, b, i, j⟩ <;> rw [i, j]
  · exact ⟨s, t, by rw [e1, a, b], by rw [e2, a, b]⟩
  · exact ⟨s, t, e1, e2⟩
  · exact ⟨-t, s, by rw [e1]; grind, by rw [e2]; grind⟩
  · exact ⟨-s, -t, by rw [e1]; grind, by rw [e2]; grind⟩
  · exact ⟨t, -s, by rw [e1]; grind, by rw [e2]; grind⟩

/-- What is divided leaves no rest. -/
theorem rest_none (x y g h : Int) (hn : 0 < g * g + h * h) (k : Dv g h x y) : rX x y g h = 0 ∧ rY x y g h = 0 := by
  obtain ⟨s, t, e1, e2⟩ := k
  have q1 : qX x y g h = s := by
    unfold qX
    rw [show x * g + y * h = (g * g + h * h) * s by rw [e1, e2]; grind]
    exact nst_exact s _ hn
  have q2 : qY x y g h = t := by
    unfold qY
    rw [show y * g - x * h = (g * g + h * h) * t by rw [e1, e2]; grind]
    exact nst_exact t _ hn
  unfold rX rY
  rw [q1, q2, e1, e2]
  constructor <;> omega
end Go.Proofs.Ytidknbdckdinlaa
