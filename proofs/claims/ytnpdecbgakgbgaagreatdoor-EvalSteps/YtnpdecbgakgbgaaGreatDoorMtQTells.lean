/-
  What the walks of package gauss lean on: a point as a value, complex numbers whose parts are whole, and the contracts of the smallest functions.
  Contracts of package gauss: told, Add, Sub, Mul, mirrored, square, Conj, Norm: for every point.
  What ops of one and of two come to, as plain data.
  A scope with several labels: what holds at each of them whenever it is jumped to, and a measure. Nothing of the program is in it.
  A scope whose gotos are followed one by one, at most n of them: the walk goes on at the label. Nothing of the program is in it.
  The smallest functions of package eval.
  What a call gives in every later world; three boxes.
-/
import Derived.Test.YtnpdecbgakgbgaaGreatDoorChecked
import Derived.Test.YtnpdecbgakgbgaaGreatDoorDGrew
import Derived.Test.YtnpdecbgakgbgaaGreatDoorHDeep
import Derived.Test.YtnpdecbgakgbgaaGreatDoorHFloat
import Derived.Laws.ComplexArith
import Derived.WalkLawsBesides
import Derived.WalkKit
import Derived.WalkSpells
import Derived.Deep.RegionWith
import Derived.Deep.RegionHeld
import Derived.Deep.RegionHeld2
import Derived.Deep.Cut
import Derived.Test.YtnpdecbgakgbgaaGreatDoorVMath
import Derived.Test.YtnpdecbgakgbgaaGreatDoorMeDWide3
import Derived.Test.YtnpdecbgakgbgaaGreatDoorMnDDivP
import Derived.Test.YtnpdecbgakgbgaaGreatDoorVCmp2
import Derived.Test.YtnpdecbgakgbgaaGreatDoorDDivs
import Derived.ScopeJumps
import Derived.Tactics
namespace Go.Proofs.YtnpdecbgakgbgaaGreatDoor.Ga
open Go.RowKit
attribute [local go_sem] cell?_more frozen?_more setCell_more more_lt more_more more_drew more_drewN setCell_drewN alloc_drewN

/-- A call gives this value, whatever has been laid besides. -/
abbrev Gives (f : Nat) (args : Array Value) (w : World) (v : Value) : Prop := ∀ W : World, Grew w W → Calls Tryz.prog f args W fun e w' => e = .returned v ∧ Grew W w'

/-- Two cells of a block: a point lies there. -/
def Two (w : World) (p : Nat) (u s : Int) : Prop := w.cell? ⟨p, 0, none⟩ = some (.int .i64 u) ∧ w.cell? ⟨p, 1, none⟩ = some (.int .i64 s)
theorem Two.lt {w : World} {p : Nat} {u s : Int} (h : Two w p u s) : p < w.heap.size := World.block_lt_of_cell? w _ h.1
theorem Two.later {w w' : World} {p : Nat} {u s : Int} (h : Two w p u s) (hb : Grew w w') : Two w' p u s :=
  ⟨by rw [hb.below.cell (p := ⟨p, 0, none⟩) h.lt]; exact h.1, by rw [hb.below.cell (p := ⟨p, 1, none⟩) h.lt]; exact h.2⟩

/-- A point as a value. -/
abbrev pv (x y : Int) : Value := .agg #[.int .i64 x, .int .i64 y]
/-- A complex number as a value. -/
abbrev cv (a b : Nat) : Value := .complex .f64 a b
/-- May a point be? -/
def ok2 (x y : Int) : Bool := decide (-1048576 ≤ x ∧ x ≤ 1048576 ∧ -1048576 ≤ y ∧ y ≤ 1048576)
theorem ok2_iff (x y : Int) : ok2 x y = true ↔ (-1048576 ≤ x ∧ x ≤ 1048576 ∧ -1048576 ≤ y ∧ y ≤ 1048576) := by simp [ok2]

theorem fits_any (n : Int) (w : World) : Calls Tryz.prog 206 #[.int .i64 n] w fun e w' => e = .returned (.bool (decide (-1048576 ≤ n ∧ n ≤ 1048576))) ∧ w = w' := by
  by_cases h1 : -1048576 ≤ n
  · by_cases h2 : n ≤ 1048576
    · have h3 : decide (-1048576 ≤ n ∧ n ≤ 1048576) = true := by simp [h1, h2]
      rw [h3]
      go_enter Tryz.func206, Tryz.ntmps206
      go_wp2
      all_goals go_ret
      all_goals exact ⟨rfl, rfl⟩
    · have h3 : decide (-1048576 ≤ n ∧ n ≤ 1048576) = false := by simp [h2]
      rw [h3]
      go_enter Tryz.func206, Tryz.ntmps206
      go_wp2
      all_goals go_ret
      all_goals exact ⟨rfl, rfl⟩
  · have h3 : decide (-1048576 ≤ n ∧ n ≤ 1048576) = false := by simp [h1]
    rw [h3]
    go_enter Tryz.func206, Tryz.ntmps206
    go_wp2
    all_goals go_ret
    all_goals exact ⟨rfl, rfl⟩

theorem right_any (x y : Int) (w : World) : Calls Tryz.prog 158 #[pv x y] w fun e w' => e = .returned (.bool (ok2 x y)) ∧ Grew w w' := by
  by_cases h1 : -1048576 ≤ x ∧ x ≤ 1048576
  · have X : ∀ W, Calls Tryz.prog 206 #[.int .i64 x] W fun e w' => e = .returned (.bool true) ∧ W = w' := fun W => by have := fits_any x W; rwa [decide_eq_true h1] at this
    have Y := fun W => fits_any y W
    have h3 : ok2 x y = decide (-1048576 ≤ y ∧ y ≤ 1048576) := by unfold ok2; simp [h1.1, h1.2]
    rw [h3]
    generalize decide (-1048576 ≤ y ∧ y ≤ 1048576) = b at *
    clear h1 h3
    go_enter Tryz.func158, Tryz.ntmps158
    go_wp2_with (first
      | (go_at_call_of 206 (Value.int IntKind.i64 x); refine (X _).mono ?_; rintro e w' ⟨rfl, rfl⟩)
      | (go_at_call 206; refine (Y _).mono ?_; rintro e w' ⟨rfl, rfl⟩))
    all_goals go_ret
    all_goals exact ⟨rfl, by repeat (first | exact Grew.refl _ | apply Grew.drew | apply Grew.drewN | apply Grew.alloc | apply Grew.more)⟩
  · have X : ∀ W, Calls Tryz.prog 206 #[.int .i64 x] W fun e w' => e = .returned (.bool false) ∧ W = w' := fun W => by have := fits_any x W; rwa [decide_eq_false h1] at this
    have h3 : ok2 x y = false := by
      unfold ok2
      simp
      intro a b
      exact absurd ⟨a, b⟩ h1
    rw [h3]
    clear h1 h3
    go_enter Tryz.func158, Tryz.ntmps158
    go_wp2_with (go_at_call 206; refine (X _).mono ?_; rintro e w' ⟨rfl, rfl⟩)
    all_goals go_ret
    all_goals exact ⟨rfl, by repeat (first | exact Grew.refl _ | apply Grew.drew | apply Grew.drewN | apply Grew.alloc | apply Grew.more)⟩

theorem number_any (x y : Int) (w : World) : Calls Tryz.prog 159 #[pv x y] w fun e w' => e = .returned (cv (floatOfInt .f64 x) (floatOfInt .f64 y)) ∧ Grew w w' := by
  go_enter Tryz.func159, Tryz.ntmps159
  go_wp2
  all_goals go_ret
  all_goals exact ⟨rfl, by repeat (first | exact Grew.refl _ | apply Grew.drew | apply Grew.drewN | apply Grew.alloc | apply Grew.more)⟩

theorem point_any (a b : Nat) (x y : Int) (w : World) (ha : FI a x) (hb : FI b y) (hx : -9007199254740992 < x ∧ x < 9007199254740992) (hy : -9007199254740992 < y ∧ y < 9007199254740992) :
    Calls Tryz.prog 160 #[cv a b] w fun e w' => e = .returned (pv x y) ∧ Grew w w' := by
  have c1 : ∀ w, (convert 201 3 (.float .f64 a)).run Tryz.prog w = .ok (.int .i64 x) w := fun w => run_convert_float_int w _ _ .f64 .i64 a x (by rw [Tryz.underlying201]; rfl) Tryz.underlying3 (ha.toInt hx)
  have c2 : ∀ w, (convert 201 3 (.float .f64 b)).run Tryz.prog w = .ok (.int .i64 y) w := fun w => run_convert_float_int w _ _ .f64 .i64 b y (by rw [Tryz.underlying201]; rfl) Tryz.underlying3 (hb.toInt hy)
  clear ha hb hx hy
  go_enter Tryz.func160, Tryz.ntmps160
  go_wp2
  refine bodyPost_ret_by (v := pv x y) ?_ rfl ⟨rfl, ?_⟩
  · simp [results, Tryz.results160, go_sem]
  · repeat (first | exact Grew.refl _ | apply Grew.drew | apply Grew.drewN | apply Grew.alloc | apply Grew.more)
end Go.Proofs.YtnpdecbgakgbgaaGreatDoor.Ga

namespace Go.Proofs.YtnpdecbgakgbgaaGreatDoor.Ga
open Go.RowKit
attribute [local go_sem] cell?_more frozen?_more setCell_more more_lt more_more more_drew more_drewN setCell_drewN alloc_drewN
attribute [local go_sem high] cellMA frozenMA setMA cellMAM frozenMAM setMAM cellMAA frozenMAA setMAA cellMAAM frozenMAAM setMAAM cellMAMA frozenMAMA setMAMA cellMAMAM frozenMAMAM setMAMAM cellMAMAMA frozenMAMAMA setMAMAMA cellMAMAMAM frozenMAMAMAM setMAMAMAM

theorem mul_bd {x u A B : Int} (hA : 0 ≤ A) (x1 : -A ≤ x) (x2 : x ≤ A) (u1 : -B ≤ u) (u2 : u ≤ B) : -(A * B) ≤ x * u ∧ x * u ≤ A * B := by
  have hB : 0 ≤ B := by omega
  have h1 : (x * u).natAbs ≤ A.natAbs * B.natAbs := by rw [Int.natAbs_mul]; exact Nat.mul_le_mul (by omega) (by omega)
  have h2 : ((A.natAbs * B.natAbs : Nat) : Int) = A * B := by rw [Int.natCast_mul, Int.natAbs_of_nonneg hA, Int.natAbs_of_nonneg hB]
  omega

/-- The product of two complex numbers whose parts are whole. -/
theorem cmul_names {a b c d : Nat} {x y u v : Int} (A B : Int) (hA : 0 ≤ A) (hAB : 2 * (A * B) < 9007199254740992) (ha : FI a x) (hb : FI b y) (hc : FI c u) (hd : FI d v)
    (x1 : -A ≤ x) (x2 : x ≤ A) (y1 : -A ≤ y) (y2 : y ≤ A) (u1 : -B ≤ u) (u2 : u ≤ B) (v1 : -B ≤ v) (v2 : v ≤ B) :
    ∃ re im, cMulBits a b c d = some (re, im) ∧ FI re (x * u - y * v) ∧ FI im (x * v + y * u) := by
  have m1 := mul_bd hA x1 x2 u1 u2
  have m2 := mul_bd hA y1 y2 v1 v2
  have m3 := mul_bd hA x1 x2 v1 v2
  have m4 := mul_bd hA y1 y2 u1 u2
  obtain ⟨r1, e1, f1⟩ := ha.mul hc (by omega)
  obtain ⟨r2, e2, f2⟩ := hb.mul hd (by omega)
  obtain ⟨r3, e3, f3⟩ := ha.mul hd (by omega)
  obtain ⟨r4, e4, f4⟩ := hb.mul hc (by omega)
  obtain ⟨r5, e5, f5⟩ := f1.sub f2 (by omega)
  obtain ⟨r6, e6, f6⟩ := f3.add f4 (by omega)
  refine ⟨r5, r6, ?_, f5, f6⟩
  unfold cMulBits
  rw [e1, e2, e3, e4]
  simp [e5, e6]
theorem cadd_names {a b c d : Nat} {x y u v : Int} (ha : FI a x) (hb : FI b y) (hc : FI c u) (hd : FI d v)
    (h1 : -9007199254740992 < x + u ∧ x + u < 9007199254740992) (h2 : -9007199254740992 < y + v ∧ y + v < 9007199254740992) :
    ∃ re im, cSumBits .add .f64 a b c d = some (re, im) ∧ FI re (x + u) ∧ FI im (y + v) := by
  obtain ⟨r1, e1, f1⟩ := ha.add hc h1
  obtain ⟨r2, e2, f2⟩ := hb.add hd h2
  exact ⟨r1, r2, by unfold cSumBits; rw [e1, e2]; rfl, f1, f2⟩
theorem csub_names {a b c d : Nat} {x y u v : Int} (ha : FI a x) (hb : FI b y) (hc : FI c u) (hd : FI d v)
    (h1 : -9007199254740992 < x - u ∧ x - u < 9007199254740992) (h2 : -9007199254740992 < y - v ∧ y - v < 9007199254740992) :
    ∃ re im, cSumBits .sub .f64 a b c d = some (re, im) ∧ FI re (x - u) ∧ FI im (y - v) := by
  obtain ⟨r1, e1, f1⟩ := ha.sub hc h1
  obtain ⟨r2, e2, f2⟩ := hb.sub hd h2
  exact ⟨r1, r2, by unfold cSumBits; rw [e1, e2]; rfl, f1, f2⟩

/-- An answer: the point, or none. -/
def tX (x y : Int) : Int := if ok2 x y then x else 0
def tY (x y : Int) : Int := if ok2 x y then y else 0
def tE (x y : Int) : Int := if ok2 x y then 0 else 32
abbrev tv (x y : Int) : Value := .tuple #[pv (tX x y) (tY x y), .int .i64 (tE x y)]

theorem told_any (a b : Nat) (x y : Int) (w : World) (ha : FI a x) (hb : FI b y) (hx : -9007199254740992 < x ∧ x < 9007199254740992) (hy : -9007199254740992 < y ∧ y < 9007199254740992) :
    Calls Tryz.prog 172 #[cv a b] w fun e w' => e = .returned (tv x y) ∧ Grew w w' := by
  have P := fun W => point_any a b x y W ha hb hx hy
  have R := fun W => right_any x y W
  clear ha hb hx hy
  by_cases h : ok2 x y = true
  · have e1 : tX x y = x := by simp [tX, h]
    have e2 : tY x y = y := by simp [tY, h]
    have e3 : tE x y = 0 := by simp [tE, h]
    unfold tv
    rw [e1, e2, e3]
    rw [h] at R
    clear e1 e2 e3 h
    go_enter Tryz.func172, Tryz.ntmps172
    go_wp2_with (first
      | (go_at_call 160; refine (P _).mono ?_; rintro e w' ⟨rfl, os, n, rfl⟩)
      | (go_at_call 158; refine (R _).mono ?_; rintro e w' ⟨rfl, os2, n2, rfl⟩))
    refine bodyPost_ret_by (v := .tuple #[pv x y, .int .i64 0]) ?_ rfl ⟨rfl, ?_⟩
    · simp [results, Tryz.results172, go_sem]
    · repeat (first | exact Grew.refl _ | apply Grew.drew | apply Grew.drewN | apply Grew.alloc | apply Grew.more)
  · have h' : ok2 x y = false := by simpa using h
    have e1 : tX x y = 0 := by simp [tX, h']
    have e2 : tY x y = 0 := by simp [tY, h']
    have e3 : tE x y = 32 := by simp [tE, h']
    unfold tv
    rw [e1, e2, e3]
    rw [h'] at R
    clear e1 e2 e3 h h'
    go_enter Tryz.func172, Tryz.ntmps172
    go_wp2_with (first
      | (go_at_call 160; refine (P _).mono ?_; rintro e w' ⟨rfl, os, n, rfl⟩)
      | (go_at_call 158; refine (R _).mono ?_; rintro e w' ⟨rfl, os2, n2, rfl⟩))
    refine bodyPost_ret_by (v := .tuple #[pv 0 0, .int .i64 32]) ?_ rfl ⟨rfl, ?_⟩
    · simp [results, Tryz.results172, go_sem]
    · repeat (first | exact Grew.refl _ | apply Grew.drew | apply Grew.drewN | apply Grew.alloc | apply Grew.more)

theorem mirrored_any (a b : Nat) (w : World) : Calls Tryz.prog 213 #[cv a b] w fun e w' => e = .returned (cv a (Op.negFloat .f64 b)) ∧ Grew w w' := by
  have hn : ∀ (w : World), (Op.unary .neg (.float .f64 b)).run Tryz.prog w = .ok (.float .f64 (Op.negFloat .f64 b)) w := fun w => rfl
  go_enter Tryz.func213, Tryz.ntmps213
  go_wp2
  all_goals go_ret
  all_goals exact ⟨rfl, by repeat (first | exact Grew.refl _ | apply Grew.drew | apply Grew.drewN | apply Grew.alloc | apply Grew.more)⟩

/-- The square of a complex number whose parts are whole. -/
theorem square_names {a b : Nat} {x y : Int} (ha : FI a x) (hb : FI b y) (x1 : -2097152 ≤ x) (x2 : x ≤ 2097152) (y1 : -2097152 ≤ y) (y2 : y ≤ 2097152) :
    ∃ r, FI r (x * x + y * y) ∧ ∀ w, Calls Tryz.prog 189 #[cv a b] w fun e w' => e = .returned (.float .f64 r) ∧ Grew w w' := by
  obtain ⟨re, im, hm, fr, _⟩ := cmul_names 2097152 2097152 (by decide) (by decide) ha hb ha hb.neg x1 x2 y1 y2 x1 x2 (by omega) (by omega)
  refine ⟨re, ?_, ?_⟩
  · have : x * x + y * y = x * x - y * -y := by rw [Int.mul_neg]; omega
    rw [this]; exact fr
  · intro w
    have hop := fun t w => run_complex_mul (P := Tryz.prog) w t a b a (Op.negFloat .f64 b) re im hm
    have M := fun W => mirrored_any a b W
    clear hm fr ha hb x1 x2 y1 y2
    generalize Op.negFloat .f64 b = c at *
    go_enter Tryz.func189, Tryz.ntmps189
    go_wp2_with (go_at_call 213; refine (M _).mono ?_; rintro e w' ⟨rfl, os, n, rfl⟩)
    all_goals go_ret
    all_goals exact ⟨rfl, by repeat (first | exact Grew.refl _ | apply Grew.drew | apply Grew.drewN | apply Grew.alloc | apply Grew.more)⟩
end Go.Proofs.YtnpdecbgakgbgaaGreatDoor.Ga

namespace Go.Proofs.YtnpdecbgakgbgaaGreatDoor

def nul : Va := ⟨0, 0, 0, []⟩
def vI (z : Int) : Va := ⟨1, z, 0, []⟩
def vD (u s : Int) : Va := ⟨2, u, s, []⟩
def vT (l : List UInt8) : Va := ⟨3, 0, 0, l⟩
def vB (b : Bool) : Va := ⟨4, if b then 1 else 0, 0, []⟩
def vP (x y : Int) : Va := ⟨5, x, y, []⟩
def vO (t : Int) : Va := if t = 0 ∨ t = 1 then ⟨4, t, 0, []⟩ else nul

/-- What is answered: a value and an error's number. -/
abbrev rs (r : Va × Int) : Value := .tuple #[vv r.1, .int .i64 r.2]

def wholeR (z e : Int) : Va × Int := if e = 0 then (vI z, 0) else (nul, e)
def exactR (u s e : Int) : Va × Int := if e = 0 then (vD u s, 0) else (nul, e)
def placedR (x y e : Int) : Va × Int := if e = 0 then (vP x y, 0) else (nul, e)

/-- A comparison of two that stand so. -/
def cmpR (op c : Int) : Va × Int :=
  if op = 11 then (vB (c == 0), 0) else if op = 12 then (vB (!(c == 0)), 0) else if op = 13 then (vB (decide (c < 0)), 0) else if op = 14 then (vB (decide (c ≤ 0)), 0)
  else if op = 15 then (vB (decide (c > 0)), 0) else if op = 16 then (vB (decide (c ≥ 0)), 0) else (nul, 31)

def quoR (a b : Int) : Int × Int := if b = 0 then (0, 33) else if b = -1 then (nz (-a), nErr (-a)) else (a.tdiv b, 0)
def remR (a b : Int) : Int × Int := if b = 0 then (0, 33) else (a.tmod b, 0)

def intsR (op a b : Int) : Va × Int :=
  if op = 9 then wholeR (nz (a + b)) (nErr (a + b)) else if op = 10 then wholeR (nz (a - b)) (nErr (a - b)) else if op = 6 then wholeR (nz (a * b)) (nErr (a * b))
  else if op = 7 then wholeR (quoR a b).1 (quoR a b).2 else if op = 8 then wholeR (remR a b).1 (remR a b).2 else cmpR op (numc a b)

/-- The greater scale. -/
def gsc (s t : Int) : Int := if t ≤ s then s else t
/-- The scale of a product. -/
def psc (s t : Int) : Int := if s + t ≤ 6 then s + t else 6

def decR (z s : Int) : Va × Int := exactR (nz z) (fs z s) (nErr z)
def numsR (op : Int) (a b : Va) : Va × Int :=
  if op = 9 then decR (at10 a.n a.m (gsc a.m b.m) + at10 b.n b.m (gsc a.m b.m)) (gsc a.m b.m)
  else if op = 10 then decR (at10 a.n a.m (gsc a.m b.m) - at10 b.n b.m (gsc a.m b.m)) (gsc a.m b.m)
  else if op = 6 then decR (rq (a.n * b.n) (10 ^ (a.m + b.m - psc a.m b.m).toNat : Nat)) (psc a.m b.m)
  else if op = 7 then (if b.n = 0 then (nul, 33) else decR (dq a.n a.m b.n b.m 6) 6)
  else cmpR op (numc (at6 a) (at6 b))

def ptR (x y : Int) : Va × Int := placedR (Ga.tX x y) (Ga.tY x y) (Ga.tE x y)
def ptsR (op : Int) (a b : Va) : Va × Int :=
  if op = 9 then ptR (a.n + b.n) (a.m + b.m)
  else if op = 10 then ptR (a.n - b.n) (a.m - b.m)
  else if op = 6 then ptR (a.n * b.n - a.m * b.m) (a.n * b.m + a.m * b.n)
  else if op = 7 then (if b.n = 0 ∧ b.m = 0 then (nul, 33) else (vP (Ga.qX a.n a.m b.n b.m) (Ga.qY a.n a.m b.n b.m), 0))
  else if op = 8 then (if b.n = 0 ∧ b.m = 0 then (nul, 33) else (vP (Ga.rX a.n a.m b.n b.m) (Ga.rY a.n a.m b.n b.m), 0))
  else cmpR op (pcmp a b)

def txtR (op : Int) (a b : Va) : Va × Int :=
  if op = 9 then (if 256 < a.b.length + b.b.length then (nul, 32) else (vT (a.b ++ b.b), 0)) else cmpR op (pcmp a b)

/-- The truth that a value stands for, and whether it stands for one. -/
def tN (a : Va) : Int := truN a.k a.n a.m ⟨a.b.toArray⟩
def tB (a : Va) : Bool := truB a.k a.n a.m ⟨a.b.toArray⟩
def truR (op : Int) (a b : Va) : Va × Int :=
  if (tB a && tB b) = true then (if op = 17 then (vO (tand (tN a) (tN b)), 0) else (vO (tor (tN a) (tN b)), 0)) else (nul, 31)

/-- What an op of two comes to. -/
def binR (op : Int) (a b : Va) : Va × Int :=
  if ¬ (6 ≤ op ∧ op ≤ 18 ∧ vr a = true ∧ vr b = true) then (nul, 1)
  else if op = 17 ∨ op = 18 then truR op a b
  else if a.k = 0 ∨ b.k = 0 then (nul, 0)
  else if a.k = 1 ∧ b.k = 1 then intsR op a.n b.n
  else if isn a ∧ isn b then numsR op a b
  else if a.k = 5 ∧ b.k = 5 then ptsR op a b
  else if a.k = 3 ∧ b.k = 3 then txtR op a b
  else if a.k = 4 ∧ b.k = 4 then cmpR op (pcmp a b)
  else (nul, 31)

def negR (a : Va) : Va × Int :=
  if a.k = 0 then (nul, 0) else if a.k = 1 then wholeR (nz (0 - a.n)) (nErr (0 - a.n)) else if a.k = 2 then decR (-a.n) a.m
  else if a.k = 5 then (vP (-a.n) (-a.m), 0) else (nul, 31)
def notR (a : Va) : Va × Int := if tB a = true then (vO (tnot (tN a)), 0) else (nul, 31)
/-- What an op of one comes to. -/
def unR (op : Int) (a : Va) : Va × Int :=
  if ¬ (3 ≤ op ∧ op ≤ 5 ∧ vr a = true) then (nul, 1)
  else if op = 5 then (vB (a.k == 0), 0) else if op = 4 then notR a else negR a
end Go.Proofs.YtnpdecbgakgbgaaGreatDoor

namespace Go.Proofs.YtnpdecbgakgbgaaGreatDoor

/-- As Q; by a goto: what J says of its label. -/
def jumpsTo (J : Nat → Act → World → Prop) (Q : Exit → Act → World → Prop) : Exit → Act → World → Prop
  | .goto l, a, w => J l a w
  | e, a, w => Q e a w

theorem wp_scope_multi {P : Program} {a : Act} {w : World} {Q : Exit → Act → World → Prop} {c : Code} (J : Nat → Act → World → Prop) (μ : Nat → Act → World → Nat)
    (first : c.wp P (jumpsTo J Q) a w)
    (pass : ∀ l a w, J l a w → ∃ rest, findLabel c l = some rest ∧ rest.wp P (jumpsTo (fun l' a' w' => J l' a' w' ∧ μ l' a' w' < μ l a w) Q) a w) : (Code.scope c).wp P Q a w := by
  intro b k cs
  have key : ∀ n l a w, μ l a w = n → J l a w → ∃ rest, findLabel c l = some rest ∧ ∃ e a' w', Q e a' w' ∧ Arrives P (lone (b.at a (.code rest :: .inScope c :: k)) cs w) b k cs e a' w' := by
    intro n
    induction n using Nat.strongRecOn with
    | _ n ih =>
      intro l a w hn hJ
      obtain ⟨rest, hf, hp⟩ := pass l a w hJ
      refine ⟨rest, hf, ?_⟩
      obtain ⟨e, a₁, w₁, hq, harr⟩ := hp b (.inScope c :: k) cs
      cases e with
      | normal => exact ⟨.normal, a₁, w₁, hq, Steps.trans harr (.one step_inScope)⟩
      | exit id => exact ⟨.exit id, a₁, w₁, hq, fun k' hk => harr k' (by simp [exitTo, hk])⟩
      | goto l' =>
        obtain ⟨hJ', hlt⟩ := hq
        obtain ⟨rest', hf', e₂, a₂, w₂, hq₂, harr₂⟩ := ih _ (by omega) l' a₁ w₁ rfl hJ'
        have hg : gotoIn l' (.inScope c :: k) = some (.code rest' :: .inScope c :: k) := by simp [gotoIn, hf']
        exact ⟨e₂, a₂, w₂, hq₂, .of_steps (harr _ hg) harr₂⟩
      | ret => exact ⟨_, a₁, w₁, hq, harr⟩
      | panic ch => exact ⟨_, a₁, w₁, hq, harr⟩
      | outgrown => exact ⟨_, a₁, w₁, hq, harr⟩
  obtain ⟨e, a₁, w₁, hq, harr⟩ := first b (.inScope c :: k) cs
  cases e with
  | normal => exact ⟨.normal, a₁, w₁, hq, .head step_scope (Steps.trans harr (.one step_inScope))⟩
  | exit id => exact ⟨.exit id, a₁, w₁, hq, fun k' hk => .head step_scope (harr k' (by simp [exitTo, hk]))⟩
  | goto l' =>
    obtain ⟨rest', hf', e₂, a₂, w₂, hq₂, harr₂⟩ := key _ l' a₁ w₁ rfl hq
    have hg : gotoIn l' (.inScope c :: k) = some (.code rest' :: .inScope c :: k) := by simp [gotoIn, hf']
    exact ⟨e₂, a₂, w₂, hq₂, .of_steps (.head step_scope (harr _ hg)) harr₂⟩
  | ret => exact ⟨_, a₁, w₁, hq, .of_steps (.one step_scope) harr⟩
  | panic ch => exact ⟨_, a₁, w₁, hq, .of_steps (.one step_scope) harr⟩
  | outgrown => exact ⟨_, a₁, w₁, hq, .of_steps (.one step_scope) harr⟩
end Go.Proofs.YtnpdecbgakgbgaaGreatDoor

namespace Go.Proofs.YtnpdecbgakgbgaaGreatDoor

/-- As Q; by a goto: what is behind its label, at most n times. -/
def onward (P : Program) (c : Code) (Q : Exit → Act → World → Prop) : Nat → Exit → Act → World → Prop
  | 0, .goto _, _, _ => False
  | n + 1, .goto l, a, w => ∃ rest, findLabel c l = some rest ∧ rest.wp P (onward P c Q n) a w
  | _, e, a, w => Q e a w

theorem onward_goto {P : Program} {c rest : Code} {Q : Exit → Act → World → Prop} {n l : Nat} {a : Act} {w : World} (hf : findLabel c l = some rest) (h : rest.wp P (onward P c Q n) a w) : onward P c Q (n + 1) (.goto l) a w := ⟨rest, hf, h⟩
theorem goto_on {P : Program} {c rest : Code} {Q : Exit → Act → World → Prop} {K : Act → World → Prop} {n l : Nat} {a : Act} {w : World} (hf : findLabel c l = some rest) (h : rest.wp P (onward P c Q n) a w) : (Code.goto l).wp P (Exit.then K (onward P c Q (n + 1))) a w :=
  wp_goto (show onward P c Q (n + 1) (.goto l) a w from ⟨rest, hf, h⟩)
theorem onward_ret {P : Program} {c : Code} {Q : Exit → Act → World → Prop} {n : Nat} {e : Exit} {a : Act} {w : World} (he : ∀ l, e ≠ .goto l) (h : Q e a w) : onward P c Q n e a w := by
  cases n <;> cases e <;> first | exact h | exact absurd rfl (he _)

theorem wp_scope_on {P : Program} {a : Act} {w : World} {Q : Exit → Act → World → Prop} {c : Code} (n : Nat) (h : c.wp P (onward P c Q n) a w) : (Code.scope c).wp P Q a w := by
  intro b k cs
  have key : ∀ n e a w, onward P c Q n e a w → ∃ e' a' w', Q e' a' w' ∧ ∀ s, Arrives P s b (.inScope c :: k) cs e a w → Arrives P s b k cs e' a' w' := by
    intro n
    induction n with
    | zero =>
      intro e a w h
      cases e with
      | normal => exact ⟨.normal, a, w, h, fun s harr => Steps.trans harr (.one step_inScope)⟩
      | exit id => exact ⟨.exit id, a, w, h, fun s harr k' hk => harr k' (by simp [exitTo, hk])⟩
      | goto l' => exact h.elim
      | ret => exact ⟨_, a, w, h, fun s harr => harr⟩
      | panic ch => exact ⟨_, a, w, h, fun s harr => harr⟩
      | outgrown => exact ⟨_, a, w, h, fun s harr => harr⟩
    | succ n ih =>
      intro e a w h
      cases e with
      | normal => exact ⟨.normal, a, w, h, fun s harr => Steps.trans harr (.one step_inScope)⟩
      | exit id => exact ⟨.exit id, a, w, h, fun s harr k' hk => harr k' (by simp [exitTo, hk])⟩
      | goto l' =>
        obtain ⟨rest, hf, hp⟩ := h
        obtain ⟨e₁, a₁, w₁, hq, harr₁⟩ := hp b (.inScope c :: k) cs
        obtain ⟨e', a', w', hQ, hk⟩ := ih e₁ a₁ w₁ hq
        have hg : gotoIn l' (.inScope c :: k) = some (.code rest :: .inScope c :: k) := by simp [gotoIn, hf]
        exact ⟨e', a', w', hQ, fun s harr => .of_steps (harr _ hg) (hk _ harr₁)⟩
      | ret => exact ⟨_, a, w, h, fun s harr => harr⟩
      | panic ch => exact ⟨_, a, w, h, fun s harr => harr⟩
      | outgrown => exact ⟨_, a, w, h, fun s harr => harr⟩
  obtain ⟨e, a₁, w₁, hq, harr⟩ := h b (.inScope c :: k) cs
  obtain ⟨e', a', w', hQ, hk⟩ := key n e a₁ w₁ hq
  exact ⟨e', a', w', hQ, .of_steps (.one step_scope) (hk _ harr)⟩
end Go.Proofs.YtnpdecbgakgbgaaGreatDoor

namespace Go.Proofs.YtnpdecbgakgbgaaGreatDoor
open Go.RowKit Go.Shelf
attribute [local go_sem] cell?_more frozen?_more setCell_more more_lt more_more more_drew more_drewN setCell_drewN alloc_drewN

theorem qnumber_any (k n m : Int) (b : ByteArray) (w : World) : Calls Tryz.prog 52 #[va k n m b] w fun e w' => e = .returned (.bool (k == 1 || k == 2)) ∧ Grew w w' := by
  by_cases h : k = 1
  · subst h
    go_enter Tryz.func52, Tryz.ntmps52
    go_wp2
    all_goals go_ret
    all_goals exact ⟨rfl, by repeat (first | exact Grew.refl _ | apply Grew.drew | apply Grew.drewN | apply Grew.alloc | apply Grew.more)⟩
  · have h' : (k == 1) = false := by simpa using h
    rw [h', Bool.false_or]
    go_enter Tryz.func52, Tryz.ntmps52
    go_wp2
    all_goals go_ret
    all_goals exact ⟨rfl, by repeat (first | exact Grew.refl _ | apply Grew.drew | apply Grew.drewN | apply Grew.alloc | apply Grew.more)⟩

theorem qunits_any (k n m : Int) (b : ByteArray) (w : World) : Calls Tryz.prog 54 #[va k n m b] w fun e w' => e = .returned (dv n m) ∧ Grew w w' := by
  go_enter Tryz.func54, Tryz.ntmps54
  go_wp2
  refine bodyPost_ret_by (v := dv n m) ?_ rfl ⟨rfl, ?_⟩
  · simp [results, Tryz.results54, go_sem]
  · repeat (first | exact Grew.refl _ | apply Grew.drew | apply Grew.drewN | apply Grew.alloc | apply Grew.more)

theorem qpoint_any (k n m : Int) (b : ByteArray) (w : World) : Calls Tryz.prog 99 #[va k n m b] w fun e w' => e = .returned (dv n m) ∧ Grew w w' := by
  go_enter Tryz.func99, Tryz.ntmps99
  go_wp2
  refine bodyPost_ret_by (v := dv n m) ?_ rfl ⟨rfl, ?_⟩
  · simp [results, Tryz.results99, go_sem]
  · repeat (first | exact Grew.refl _ | apply Grew.drew | apply Grew.drewN | apply Grew.alloc | apply Grew.more)

theorem qtruth_any (b : Bool) (w : World) : Calls Tryz.prog 36 #[.bool b] w fun e w' => e = .returned (vv (vB b)) ∧ Grew w w' := by
  have O1 : ∀ W, Calls Tryz.prog 90 #[.int .i64 1] W fun e w' => e = .returned (va 4 1 0 ⟨#[]⟩) ∧ Grew W w' := fun W => of_any 1 W
  have O0 : ∀ W, Calls Tryz.prog 90 #[.int .i64 0] W fun e w' => e = .returned (va 4 0 0 ⟨#[]⟩) ∧ Grew W w' := fun W => of_any 0 W
  cases b
  · go_enter Tryz.func36, Tryz.ntmps36
    go_wp2_with (first
      | (go_at_call_of 90 (Value.int IntKind.i64 1); refine (O1 _).mono ?_; rintro e w1 ⟨rfl, os1, n1, rfl⟩)
      | (go_at_call_of 90 (Value.int IntKind.i64 0); refine (O0 _).mono ?_; rintro e w1 ⟨rfl, os1, n1, rfl⟩))
    refine bodyPost_ret_by (v := vv (vB false)) ?_ rfl ⟨rfl, ?_⟩
    · simp [results, Tryz.results36, go_sem, vB]
    · repeat (first | exact Grew.refl _ | apply Grew.drew | apply Grew.drewN | apply Grew.alloc | apply Grew.more)
  · go_enter Tryz.func36, Tryz.ntmps36
    go_wp2_with (first
      | (go_at_call_of 90 (Value.int IntKind.i64 1); refine (O1 _).mono ?_; rintro e w1 ⟨rfl, os1, n1, rfl⟩)
      | (go_at_call_of 90 (Value.int IntKind.i64 0); refine (O0 _).mono ?_; rintro e w1 ⟨rfl, os1, n1, rfl⟩))
    refine bodyPost_ret_by (v := vv (vB true)) ?_ rfl ⟨rfl, ?_⟩
    · simp [results, Tryz.results36, go_sem, vB]
    · repeat (first | exact Grew.refl _ | apply Grew.drew | apply Grew.drewN | apply Grew.alloc | apply Grew.more)

theorem qwhole_any (n x : Int) (w : World) : Calls Tryz.prog 93 #[.int .i64 n, .int .i64 x] w fun e w' => e = .returned (rs (wholeR n x)) ∧ Grew w w' := by
  unfold wholeR
  by_cases h : x = 0
  · subst h
    rw [if_pos rfl]
    go_enter Tryz.func93, Tryz.ntmps93
    go_wp2
    refine bodyPost_ret_by (v := rs (vI n, 0)) ?_ rfl ⟨rfl, ?_⟩
    · simp [results, Tryz.results93, go_sem, vI]
    · repeat (first | exact Grew.refl _ | apply Grew.drew | apply Grew.drewN | apply Grew.alloc | apply Grew.more)
  · rw [if_neg h]
    have h' : (x == 0) = false := by simpa using h
    go_enter Tryz.func93, Tryz.ntmps93
    go_wp2
    refine bodyPost_ret_by (v := rs (nul, x)) ?_ rfl ⟨rfl, ?_⟩
    · simp [results, Tryz.results93, go_sem, nul]
    · repeat (first | exact Grew.refl _ | apply Grew.drew | apply Grew.drewN | apply Grew.alloc | apply Grew.more)

theorem qexact_any (u s x : Int) (w : World) : Calls Tryz.prog 95 #[dv u s, .int .i64 x] w fun e w' => e = .returned (rs (exactR u s x)) ∧ Grew w w' := by
  unfold exactR
  by_cases h : x = 0
  · subst h
    rw [if_pos rfl]
    go_enter Tryz.func95, Tryz.ntmps95
    go_wp2
    refine bodyPost_ret_by (v := rs (vD u s, 0)) ?_ rfl ⟨rfl, ?_⟩
    · simp [results, Tryz.results95, go_sem, vD]
    · repeat (first | exact Grew.refl _ | apply Grew.drew | apply Grew.drewN | apply Grew.alloc | apply Grew.more)
  · rw [if_neg h]
    have h' : (x == 0) = false := by simpa using h
    go_enter Tryz.func95, Tryz.ntmps95
    go_wp2
    refine bodyPost_ret_by (v := rs (nul, x)) ?_ rfl ⟨rfl, ?_⟩
    · simp [results, Tryz.results95, go_sem, nul]
    · repeat (first | exact Grew.refl _ | apply Grew.drew | apply Grew.drewN | apply Grew.alloc | apply Grew.more)

theorem qplaced_any (u s x : Int) (w : World) : Calls Tryz.prog 97 #[dv u s, .int .i64 x] w fun e w' => e = .returned (rs (placedR u s x)) ∧ Grew w w' := by
  unfold placedR
  by_cases h : x = 0
  · subst h
    rw [if_pos rfl]
    go_enter Tryz.func97, Tryz.ntmps97
    go_wp2
    refine bodyPost_ret_by (v := rs (vP u s, 0)) ?_ rfl ⟨rfl, ?_⟩
    · simp [results, Tryz.results97, go_sem, vP]
    · repeat (first | exact Grew.refl _ | apply Grew.drew | apply Grew.drewN | apply Grew.alloc | apply Grew.more)
  · rw [if_neg h]
    have h' : (x == 0) = false := by simpa using h
    go_enter Tryz.func97, Tryz.ntmps97
    go_wp2
    refine bodyPost_ret_by (v := rs (nul, x)) ?_ rfl ⟨rfl, ?_⟩
    · simp [results, Tryz.results97, go_sem, nul]
    · repeat (first | exact Grew.refl _ | apply Grew.drew | apply Grew.drewN | apply Grew.alloc | apply Grew.more)

theorem qcompared_any (op c : Int) (w : World) : Calls Tryz.prog 57 #[.int .i64 op, .int .i64 c] w fun e w' => e = .returned (rs (cmpR op c)) ∧ Grew w w' := by
  have T := fun b W => qtruth_any b W
  unfold cmpR
  by_cases h11 : op = 11
  · subst h11
    rw [if_pos rfl]
    go_enter Tryz.func57, Tryz.ntmps57
    go_wp2_with (go_at_call 36; refine (T (c == 0) _).mono ?_; rintro e w1 ⟨rfl, os1, n1, rfl⟩)
    refine bodyPost_ret_by (v := rs (vB (c == 0), 0)) ?_ rfl ⟨rfl, ?_⟩
    · simp [results, Tryz.results57, go_sem]
    · repeat (first | exact Grew.refl _ | apply Grew.drew | apply Grew.drewN | apply Grew.alloc | apply Grew.more)
  have c11 : (op == 11) = false := by simpa using h11
  by_cases h12 : op = 12
  · subst h12
    rw [if_neg (by decide), if_pos rfl]
    go_enter Tryz.func57, Tryz.ntmps57
    go_wp2_with (go_at_call 36; refine (T (!(c == 0)) _).mono ?_; rintro e w1 ⟨rfl, os1, n1, rfl⟩)
    refine bodyPost_ret_by (v := rs (vB (!(c == 0)), 0)) ?_ rfl ⟨rfl, ?_⟩
    · simp [results, Tryz.results57, go_sem]
    · repeat (first | exact Grew.refl _ | apply Grew.drew | apply Grew.drewN | apply Grew.alloc | apply Grew.more)
  have c12 : (op == 12) = false := by simpa using h12
  by_cases h13 : op = 13
  · subst h13
    rw [if_neg (by decide), if_neg (by decide), if_pos rfl]
    go_enter Tryz.func57, Tryz.ntmps57
    go_wp2_with (go_at_call 36; refine (T (decide (c < 0)) _).mono ?_; rintro e w1 ⟨rfl, os1, n1, rfl⟩)
    refine bodyPost_ret_by (v := rs (vB (decide (c < 0)), 0)) ?_ rfl ⟨rfl, ?_⟩
    · simp [results, Tryz.results57, go_sem]
    · repeat (first | exact Grew.refl _ | apply Grew.drew | apply Grew.drewN | apply Grew.alloc | apply Grew.more)
  have c13 : (op == 13) = false := by simpa using h13
  by_cases h14 : op = 14
  · subst h14
    rw [if_neg (by decide), if_neg (by decide), if_neg (by decide), if_pos rfl]
    go_enter Tryz.func57, Tryz.ntmps57
    go_wp2_with (go_at_call 36; refine (T (decide (c ≤ 0)) _).mono ?_; rintro e w1 ⟨rfl, os1, n1, rfl⟩)
    refine bodyPost_ret_by (v := rs (vB (decide (c ≤ 0)), 0)) ?_ rfl ⟨rfl, ?_⟩
    · simp [results, Tryz.results57, go_sem]
    · repeat (first | exact Grew.refl _ | apply Grew.drew | apply Grew.drewN | apply Grew.alloc | apply Grew.more)
  have c14 : (op == 14) = false := by simpa using h14
  by_cases h15 : op = 15
  · subst h15
    rw [if_neg (by decide), if_neg (by decide), if_neg (by decide), if_neg (by decide), if_pos rfl]
    go_enter Tryz.func57, Tryz.ntmps57
    go_wp2_with (go_at_call 36; refine (T (decide (c > 0)) _).mono ?_; rintro e w1 ⟨rfl, os1, n1, rfl⟩)
    refine bodyPost_ret_by (v := rs (vB (decide (c > 0)), 0)) ?_ rfl ⟨rfl, ?_⟩
    · simp [results, Tryz.results57, go_sem]
    · repeat (first | exact Grew.refl _ | apply Grew.drew | apply Grew.drewN | apply Grew.alloc | apply Grew.more)
  have c15 : (op == 15) = false := by simpa using h15
  by_cases h16 : op = 16
  · subst h16
    rw [if_neg (by decide), if_neg (by decide), if_neg (by decide), if_neg (by decide), if_neg (by decide), if_pos rfl]
    go_enter Tryz.func57, Tryz.ntmps57
    go_wp2_with (go_at_call 36; refine (T (decide (c ≥ 0)) _).mono ?_; rintro e w1 ⟨rfl, os1, n1, rfl⟩)
    refine bodyPost_ret_by (v := rs (vB (decide (c ≥ 0)), 0)) ?_ rfl ⟨rfl, ?_⟩
    · simp [results, Tryz.results57, go_sem]
    · repeat (first | exact Grew.refl _ | apply Grew.drew | apply Grew.drewN | apply Grew.alloc | apply Grew.more)
  have c16 : (op == 16) = false := by simpa using h16
  rw [if_neg h11, if_neg h12, if_neg h13, if_neg h14, if_neg h15, if_neg h16]
  clear T
  go_enter Tryz.func57, Tryz.ntmps57
  go_wp2
  refine bodyPost_ret_by (v := rs (nul, 31)) ?_ rfl ⟨rfl, ?_⟩
  · simp [results, Tryz.results57, go_sem, nul]
  · repeat (first | exact Grew.refl _ | apply Grew.drew | apply Grew.drewN | apply Grew.alloc | apply Grew.more)
end Go.Proofs.YtnpdecbgakgbgaaGreatDoor

namespace Go.Proofs.YtnpdecbgakgbgaaGreatDoor
open Go.RowKit Go.Shelf
attribute [local go_sem] cell?_more frozen?_more setCell_more more_lt more_more more_drew more_drewN setCell_drewN alloc_drewN


/-- A call gives this value in every world that has grown out of that one. -/
abbrev Tells (f : Nat) (args : Array Value) (w : World) (v : Value) : Prop := ∀ W : World, Below w.heap.size w W → Calls Tryz.prog f args W fun e w' => e = .returned v ∧ Below W.heap.size W w'
theorem Tells.later {f : Nat} {args : Array Value} {w w' : World} {v : Value} (h : Tells f args w v) (hb : Below w.heap.size w w') : Tells f args w' v := fun W hW => h W (below_trans hb hW)

theorem three_boxes (w : World) (a b : Va) : ∃ w0, w0 = (((w.alloc (.cells #[.int .i64 a.k, .int .i64 a.n, .int .i64 a.m, .string ⟨a.b.toArray⟩] 30)).alloc (.cells #[.int .i64 b.k, .int .i64 b.n, .int .i64 b.m, .string ⟨b.b.toArray⟩] 30)).alloc (.cells #[.int .i64 0, .int .i64 0, .int .i64 0, .string ⟨#[]⟩] 30)) ∧
    Box w0 w.heap.size a ∧ Box w0 (w.heap.size + 1) b ∧ Box w0 (w.heap.size + 1 + 1) nul ∧ Below w.heap.size w w0 := by
  obtain ⟨h1, h2, h3⟩ := two_boxes w a b
  refine ⟨_, rfl, h1.later ((Below.refl _ _).alloc (Nat.le_refl _) _), h2.later ((Below.refl _ _).alloc (Nat.le_refl _) _), ?_, h3.alloc (by simp; omega) _⟩
  have := Box.new (((w.alloc (.cells #[.int .i64 a.k, .int .i64 a.n, .int .i64 a.m, .string ⟨a.b.toArray⟩] 30)).alloc (.cells #[.int .i64 b.k, .int .i64 b.n, .int .i64 b.m, .string ⟨b.b.toArray⟩] 30))) 0 0 0 []
  simp only [World.size_alloc] at this
  exact this
end Go.Proofs.YtnpdecbgakgbgaaGreatDoor
