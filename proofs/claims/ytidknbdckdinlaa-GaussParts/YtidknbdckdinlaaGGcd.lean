/-
  The contract of gauss.Gcd: for every two points.
-/
import Derived.Test.YtidknbdckdinlaaGDiv
namespace Go.Proofs.Ytidknbdckdinlaa
open Go.RowKit
attribute [local go_sem] cell?_more frozen?_more setCell_more more_lt more_more more_drew more_drewN setCell_drewN alloc_drewN
attribute [local go_sem high] cellMA frozenMA setMA cellMAM frozenMAM setMAM cellMAA frozenMAA setMAA cellMAAM frozenMAAM setMAAM cellMAMA frozenMAMA setMAMA cellMAMAM frozenMAMAM setMAMAM cellMAMAMA frozenMAMAMA setMAMAMA cellMAMAMAM frozenMAMAMAM setMAMAMAM

theorem FI.sign0 {a : Nat} {x : Int} (ha : FI a x) : (0 < x ∧ FloatKind.f64.format.order a 0 = some .gt) ∨ (x = 0 ∧ FloatKind.f64.format.order a 0 = some .eq) ∨ (x < 0 ∧ FloatKind.f64.format.order a 0 = some .lt) := by
  have h := ha.order FI_zero
  rcases Int.lt_trichotomy x 0 with hx | hx | hx
  · refine Or.inr (Or.inr ⟨hx, h.trans ?_⟩)
    show some (compareOfLessAndEq x 0) = _
    unfold compareOfLessAndEq
    rw [if_pos hx]
  · refine Or.inr (Or.inl ⟨hx, h.trans ?_⟩)
    subst hx; rfl
  · refine Or.inl ⟨hx, h.trans ?_⟩
    show some (compareOfLessAndEq x 0) = _
    unfold compareOfLessAndEq
    rw [if_neg (by omega), if_neg (by omega)]

theorem first_any {a b : Nat} {x y : Int} (ha : FI a x) (hb : FI b y) (w : World) :
    Calls Try.prog 37 #[cv a b] w fun e w' => e = .returned (.bool (decide (0 < x ∧ 0 ≤ y))) ∧ Grew w w' := by
  rcases ha.sign0 with ⟨hx, ox⟩ | ⟨hx, ox⟩ | ⟨hx, ox⟩
  · rcases hb.sign0 with ⟨hy, oy⟩ | ⟨hy, oy⟩ | ⟨hy, oy⟩
    · have e : decide (0 < x ∧ 0 ≤ y) = true := by simp; omega
      rw [e]
      clear ha hb hx hy e
      go_enter Try.func37, Try.ntmps37
      go_wp2
      all_goals go_ret
      all_goals exact ⟨rfl, by repeat (first | exact Grew.refl _ | apply Grew.drew | apply Grew.drewN | apply Grew.alloc | apply Grew.more)⟩
    · have e : decide (0 < x ∧ 0 ≤ y) = true := by simp; omega
      rw [e]
      clear ha hb hx hy e
      go_enter Try.func37, Try.ntmps37
      go_wp2
      all_goals go_ret
      all_goals exact ⟨rfl, by repeat (first | exact Grew.refl _ | apply Grew.drew | apply Grew.drewN | apply Grew.alloc | apply Grew.more)⟩
    · have e : decide (0 < x ∧ 0 ≤ y) = false := by simp; omega
      rw [e]
      clear ha hb hx hy e
      go_enter Try.func37, Try.ntmps37
      go_wp2
      all_goals go_ret
      all_goals exact ⟨rfl, by repeat (first | exact Grew.refl _ | apply Grew.drew | apply Grew.drewN | apply Grew.alloc | apply Grew.more)⟩
  · have e : decide (0 < x ∧ 0 ≤ y) = false := by simp; omega
    rw [e]
    clear ha hb hx e
    go_enter Try.func37, Try.ntmps37
    go_wp2
    all_goals go_ret
    all_goals exact ⟨rfl, by repeat (first | exact Grew.refl _ | apply Grew.drew | apply Grew.drewN | apply Grew.alloc | apply Grew.more)⟩
  · have e : decide (0 < x ∧ 0 ≤ y) = false := by simp; omega
    rw [e]
    clear ha hb hx e
    go_enter Try.func37, Try.ntmps37
    go_wp2
    all_goals go_ret
    all_goals exact ⟨rfl, by repeat (first | exact Grew.refl _ | apply Grew.drew | apply Grew.drewN | apply Grew.alloc | apply Grew.more)⟩

theorem neq_run {a b : Nat} {x y : Int} (ha : FI a x) (hb : FI b y) (t : TypeId) (w : World) :
    (binOp .neq t (cv a b) (cv 0 0)).run Try.prog w = .ok (.bool (!(decide (x = 0 ∧ y = 0)))) w := by
  rw [run_neq_complex]
  rcases ha.sign0 with ⟨hx, ox⟩ | ⟨hx, ox⟩ | ⟨hx, ox⟩ <;> rcases hb.sign0 with ⟨hy, oy⟩ | ⟨hy, oy⟩ | ⟨hy, oy⟩ <;> rw [ox, oy]
  all_goals
    first
    | (have e : decide (x = 0 ∧ y = 0) = true := by simp; omega
       rw [e]; rfl)
    | (have e : decide (x = 0 ∧ y = 0) = false := by simp; omega
       rw [e]; rfl)

/-- The common divisor that the steps lead to. -/
def gl (x y u v : Int) : Int × Int := if _h : u = 0 ∧ v = 0 then (x, y) else gl u v (rX x y u v) (rY x y u v)
  termination_by (u * u + v * v).toNat
  decreasing_by
    have h1 := norm_pos _h
    have h2 := rest_half x y u v h1
    omega
theorem gl_zero (x y : Int) : gl x y 0 0 = (x, y) := by rw [gl]; simp
theorem gl_step (x y u v : Int) (h : ¬ (u = 0 ∧ v = 0)) : gl x y u v = gl u v (rX x y u v) (rY x y u v) := by rw [gl]; simp [h]

/-- The norm that a slot holds. -/
def fval (b : Nat) : Int := (floatToIntVal .f64 b .i64).getD 0
def cnorm : Value → Nat
  | .complex _ a b => (fval a * fval a + fval b * fval b).toNat
  | _ => 0
theorem fval_FI {a : Nat} {x : Int} (ha : FI a x) (h : -9007199254740992 < x ∧ x < 9007199254740992) : fval a = x := by unfold fval; rw [ha.toInt h]; rfl
end Go.Proofs.Ytidknbdckdinlaa
