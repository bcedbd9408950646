/-
  Contracts of package gauss: told, Add, Sub, Mul, mirrored, square, Conj, Norm: for every point.
-/
import Derived.Test.YtibbenhplmmmiaaDoorGBase
namespace Go.Proofs.YtibbenhplmmmiaaDoor
open Go.RowKit
attribute [local go_sem] cell?_more frozen?_more setCell_more more_lt more_more more_drew more_drewN setCell_drewN alloc_drewN
attribute [local go_sem high] cellMA frozenMA setMA cellMAM frozenMAM setMAM cellMAA frozenMAA setMAA cellMAAM frozenMAAM setMAAM cellMAMA frozenMAMA setMAMA cellMAMAM frozenMAMAM setMAMAM cellMAMAMA frozenMAMAMA setMAMAMA cellMAMAMAM frozenMAMAMAM setMAMAMAM

theorem mul_bd {x u A B : Int} (hA : 0 ≤ A) (x1 : -A ≤ x) (x2 : x ≤ A) (u1 : -B ≤ u) (u2 : u ≤ B) : -(A * B) ≤ x * u ∧ x * u ≤ A * B := by
  have hB : 0 ≤ B := by omega
  have h1 : (x * u).natAbs ≤ A.natAbs * B.natAbs := by rw [Int.natAbs_mul]; exact Nat.mul_le_mul (by omega) (by omega)
  have h2 : ((A.natAbs * B.natAbs : Nat) : Int) = A * B := by rw [Int.natCast_mul, Int.natAbs_of_nonneg hA, Int.natAbs_of_nonneg hB]
  omega

/-- The product of two complex numbers whose parts are whole. -/
theorem cmul_names {a b c d : Nat} {x y u v : Int} (A B : Int) (hA : 0 ≤ A) (hAB : 2 * (A * B) < 9007199254740992) (ha : FI a x) (hb : FI b y) (hc : FI c u) (hd : FI d v)
    (x1 : -A ≤ x) (x2 : x ≤ A) (y1 : -A ≤ y) (y2 : y ≤ A) (u1 : -B ≤ u) (u2 : u ≤ B) (v1 : -B ≤ v) (v2 : v ≤ B) :
    ∃ re im, cMulBits a b c d = some (re, im) ∧ FI re (x * u - y * v) ∧ FI im (x * v + y * u) := by
  have m1 := mul_bd hA x1 x2 u1 u2
  have m2 := mul_bd hA y1 y2 v1 v2
  have m3 := mul_bd hA x1 x2 v1 v2
  have m4 := mul_bd hA y1 y2 u1 u2
  obtain ⟨r1, e1, f1⟩ := ha.mul hc (by omega)
  obtain ⟨r2, e2, f2⟩ := hb.mul hd (by omega)
  obtain ⟨r3, e3, f3⟩ := ha.mul hd (by omega)
  obtain ⟨r4, e4, f4⟩ := hb.mul hc (by omega)
  obtain ⟨r5, e5, f5⟩ := f1.sub f2 (by omega)
  obtain ⟨r6, e6, f6⟩ := f3.add f4 (by omega)
  refine ⟨r5, r6, ?_, f5, f6⟩
  unfold cMulBits
  rw [e1, e2, e3, e4]
  simp [e5, e6]
/-- An answer: the point, or none. -/
def tX (x y : Int) : Int := if ok2 x y then x else 0
def tY (x y : Int) : Int := if ok2 x y then y else 0
def tE (x y : Int) : Int := if ok2 x y then 0 else 32
abbrev tv (x y : Int) : Value := .tuple #[pv (tX x y) (tY x y), .int .i64 (tE x y)]

theorem told_any (a b : Nat) (x y : Int) (w : World) (ha : FI a x) (hb : FI b y) (hx : -9007199254740992 < x ∧ x < 9007199254740992) (hy : -9007199254740992 < y ∧ y < 9007199254740992) :
    Calls Tryd.prog 33 #[cv a b] w fun e w' => e = .returned (tv x y) ∧ Grew w w' := by
  have P := fun W => point_any a b x y W ha hb hx hy
  have R := fun W => right_any x y W
  clear ha hb hx hy
  by_cases h : ok2 x y = true
  · have e1 : tX x y = x := by simp [tX, h]
    have e2 : tY x y = y := by simp [tY, h]
    have e3 : tE x y = 0 := by simp [tE, h]
    unfold tv
    rw [e1, e2, e3]
    rw [h] at R
    clear e1 e2 e3 h
    go_enter Tryd.func33, Tryd.ntmps33
    go_wp2_with (first
      | (go_at_call 35; refine (P _).mono ?_; rintro e w' ⟨rfl, os, n, rfl⟩)
      | (go_at_call 17; refine (R _).mono ?_; rintro e w' ⟨rfl, os2, n2, rfl⟩))
    refine bodyPost_ret_by (v := .tuple #[pv x y, .int .i64 0]) ?_ rfl ⟨rfl, ?_⟩
    · simp [results, Tryd.results33, go_sem]
    · repeat (first | exact Grew.refl _ | apply Grew.drew | apply Grew.drewN | apply Grew.alloc | apply Grew.more)
  · have h' : ok2 x y = false := by simpa using h
    have e1 : tX x y = 0 := by simp [tX, h']
    have e2 : tY x y = 0 := by simp [tY, h']
    have e3 : tE x y = 32 := by simp [tE, h']
    unfold tv
    rw [e1, e2, e3]
    rw [h'] at R
    clear e1 e2 e3 h h'
    go_enter Tryd.func33, Tryd.ntmps33
    go_wp2_with (first
      | (go_at_call 35; refine (P _).mono ?_; rintro e w' ⟨rfl, os, n, rfl⟩)
      | (go_at_call 17; refine (R _).mono ?_; rintro e w' ⟨rfl, os2, n2, rfl⟩))
    refine bodyPost_ret_by (v := .tuple #[pv 0 0, .int .i64 32]) ?_ rfl ⟨rfl, ?_⟩
    · simp [results, Tryd.results33, go_sem]
    · repeat (first | exact Grew.refl _ | apply Grew.drew | apply Grew.drewN | apply Grew.alloc | apply Grew.more)

end Go.Proofs.YtibbenhplmmmiaaDoor
