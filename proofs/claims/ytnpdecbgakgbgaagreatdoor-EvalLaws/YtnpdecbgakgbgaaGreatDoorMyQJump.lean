/-
  Contracts of package gauss: told, Add, Sub, Mul, mirrored, square, Conj, Norm: for every point.
  What ops of one and of two come to, as plain data.
  A scope with several labels: what holds at each of them whenever it is jumped to, and a measure. Nothing of the program is in it.
  A scope whose gotos are followed one by one, at most n of them: the walk goes on at the label. Nothing of the program is in it.
-/
import Derived.Test.YtnpdecbgakgbgaaGreatDoorHBase
import Derived.Test.YtnpdecbgakgbgaaGreatDoorVMath
import Derived.Test.YtnpdecbgakgbgaaGreatDoorMeDBits
import Derived.Test.YtnpdecbgakgbgaaGreatDoorMpHPlain
import Derived.Test.YtnpdecbgakgbgaaGreatDoorMrDDivP
import Derived.Test.YtnpdecbgakgbgaaGreatDoorVCmp2
import Derived.Test.YtnpdecbgakgbgaaGreatDoorDDivs
import Derived.ScopeJumps
import Derived.Tactics
namespace Go.Proofs.YtnpdecbgakgbgaaGreatDoor.Ga
open Go.RowKit
attribute [local go_sem] cell?_more frozen?_more setCell_more more_lt more_more more_drew more_drewN setCell_drewN alloc_drewN
attribute [local go_sem high] cellMA frozenMA setMA cellMAM frozenMAM setMAM cellMAA frozenMAA setMAA cellMAAM frozenMAAM setMAAM cellMAMA frozenMAMA setMAMA cellMAMAM frozenMAMAM setMAMAM cellMAMAMA frozenMAMAMA setMAMAMA cellMAMAMAM frozenMAMAMAM setMAMAMAM

theorem mul_bd {x u A B : Int} (hA : 0 ≤ A) (x1 : -A ≤ x) (x2 : x ≤ A) (u1 : -B ≤ u) (u2 : u ≤ B) : -(A * B) ≤ x * u ∧ x * u ≤ A * B := by
  have hB : 0 ≤ B := by omega
  have h1 : (x * u).natAbs ≤ A.natAbs * B.natAbs := by rw [Int.natAbs_mul]; exact Nat.mul_le_mul (by omega) (by omega)
  have h2 : ((A.natAbs * B.natAbs : Nat) : Int) = A * B := by rw [Int.natCast_mul, Int.natAbs_of_nonneg hA, Int.natAbs_of_nonneg hB]
  omega

/-- The product of two complex numbers whose parts are whole. -/
theorem cmul_names {a b c d : Nat} {x y u v : Int} (A B : Int) (hA : 0 ≤ A) (hAB : 2 * (A * B) < 9007199254740992) (ha : FI a x) (hb : FI b y) (hc : FI c u) (hd : FI d v)
    (x1 : -A ≤ x) (x2 : x ≤ A) (y1 : -A ≤ y) (y2 : y ≤ A) (u1 : -B ≤ u) (u2 : u ≤ B) (v1 : -B ≤ v) (v2 : v ≤ B) :
    ∃ re im, cMulBits a b c d = some (re, im) ∧ FI re (x * u - y * v) ∧ FI im (x * v + y * u) := by
  have m1 := mul_bd hA x1 x2 u1 u2
  have m2 := mul_bd hA y1 y2 v1 v2
  have m3 := mul_bd hA x1 x2 v1 v2
  have m4 := mul_bd hA y1 y2 u1 u2
  obtain ⟨r1, e1, f1⟩ := ha.mul hc (by omega)
  obtain ⟨r2, e2, f2⟩ := hb.mul hd (by omega)
  obtain ⟨r3, e3, f3⟩ := ha.mul hd (by omega)
  obtain ⟨r4, e4, f4⟩ := hb.mul hc (by omega)
  obtain ⟨r5, e5, f5⟩ := f1.sub f2 (by omega)
  obtain ⟨r6, e6, f6⟩ := f3.add f4 (by omega)
  refine ⟨r5, r6, ?_, f5, f6⟩
  unfold cMulBits
  rw [e1, e2, e3, e4]
  simp [e5, e6]
theorem cadd_names {a b c d : Nat} {x y u v : Int} (ha : FI a x) (hb : FI b y) (hc : FI c u) (hd : FI d v)
    (h1 : -9007199254740992 < x + u ∧ x + u < 9007199254740992) (h2 : -9007199254740992 < y + v ∧ y + v < 9007199254740992) :
    ∃ re im, cSumBits .add .f64 a b c d = some (re, im) ∧ FI re (x + u) ∧ FI im (y + v) := by
  obtain ⟨r1, e1, f1⟩ := ha.add hc h1
  obtain ⟨r2, e2, f2⟩ := hb.add hd h2
  exact ⟨r1, r2, by unfold cSumBits; rw [e1, e2]; rfl, f1, f2⟩
theorem csub_names {a b c d : Nat} {x y u v : Int} (ha : FI a x) (hb : FI b y) (hc : FI c u) (hd : FI d v)
    (h1 : -9007199254740992 < x - u ∧ x - u < 9007199254740992) (h2 : -9007199254740992 < y - v ∧ y - v < 9007199254740992) :
    ∃ re im, cSumBits .sub .f64 a b c d = some (re, im) ∧ FI re (x - u) ∧ FI im (y - v) := by
  obtain ⟨r1, e1, f1⟩ := ha.sub hc h1
  obtain ⟨r2, e2, f2⟩ := hb.sub hd h2
  exact ⟨r1, r2, by unfold cSumBits; rw [e1, e2]; rfl, f1, f2⟩

/-- An answer: the point, or none. -/
def tX (x y : Int) : Int := if ok2 x y then x else 0
def tY (x y : Int) : Int := if ok2 x y then y else 0
def tE (x y : Int) : Int := if ok2 x y then 0 else 32
abbrev tv (x y : Int) : Value := .tuple #[pv (tX x y) (tY x y), .int .i64 (tE x y)]

theorem told_any (a b : Nat) (x y : Int) (w : World) (ha : FI a x) (hb : FI b y) (hx : -9007199254740992 < x ∧ x < 9007199254740992) (hy : -9007199254740992 < y ∧ y < 9007199254740992) :
    Calls Tryz.prog 172 #[cv a b] w fun e w' => e = .returned (tv x y) ∧ Grew w w' := by
  have P := fun W => point_any a b x y W ha hb hx hy
  have R := fun W => right_any x y W
  clear ha hb hx hy
  by_cases h : ok2 x y = true
  · have e1 : tX x y = x := by simp [tX, h]
    have e2 : tY x y = y := by simp [tY, h]
    have e3 : tE x y = 0 := by simp [tE, h]
    unfold tv
    rw [e1, e2, e3]
    rw [h] at R
    clear e1 e2 e3 h
    go_enter Tryz.func172, Tryz.ntmps172
    go_wp2_with (first
      | (go_at_call 160; refine (P _).mono ?_; rintro e w' ⟨rfl, os, n, rfl⟩)
      | (go_at_call 158; refine (R _).mono ?_; rintro e w' ⟨rfl, os2, n2, rfl⟩))
    refine bodyPost_ret_by (v := .tuple #[pv x y, .int .i64 0]) ?_ rfl ⟨rfl, ?_⟩
    · simp [results, Tryz.results172, go_sem]
    · repeat (first | exact Grew.refl _ | apply Grew.drew | apply Grew.drewN | apply Grew.alloc | apply Grew.more)
  · have h' : ok2 x y = false := by simpa using h
    have e1 : tX x y = 0 := by simp [tX, h']
    have e2 : tY x y = 0 := by simp [tY, h']
    have e3 : tE x y = 32 := by simp [tE, h']
    unfold tv
    rw [e1, e2, e3]
    rw [h'] at R
    clear e1 e2 e3 h h'
    go_enter Tryz.func172, Tryz.ntmps172
    go_wp2_with (first
      | (go_at_call 160; refine (P _).mono ?_; rintro e w' ⟨rfl, os, n, rfl⟩)
      | (go_at_call 158; refine (R _).mono ?_; rintro e w' ⟨rfl, os2, n2, rfl⟩))
    refine bodyPost_ret_by (v := .tuple #[pv 0 0, .int .i64 32]) ?_ rfl ⟨rfl, ?_⟩
    · simp [results, Tryz.results172, go_sem]
    · repeat (first | exact Grew.refl _ | apply Grew.drew | apply Grew.drewN | apply Grew.alloc | apply Grew.more)

theorem mirrored_any (a b : Nat) (w : World) : Calls Tryz.prog 213 #[cv a b] w fun e w' => e = .returned (cv a (Op.negFloat .f64 b)) ∧ Grew w w' := by
  have hn : ∀ (w : World), (Op.unary .neg (.float .f64 b)).run Tryz.prog w = .ok (.float .f64 (Op.negFloat .f64 b)) w := fun w => rfl
  go_enter Tryz.func213, Tryz.ntmps213
  go_wp2
  all_goals go_ret
  all_goals exact ⟨rfl, by repeat (first | exact Grew.refl _ | apply Grew.drew | apply Grew.drewN | apply Grew.alloc | apply Grew.more)⟩

/-- The square of a complex number whose parts are whole. -/
theorem square_names {a b : Nat} {x y : Int} (ha : FI a x) (hb : FI b y) (x1 : -2097152 ≤ x) (x2 : x ≤ 2097152) (y1 : -2097152 ≤ y) (y2 : y ≤ 2097152) :
    ∃ r, FI r (x * x + y * y) ∧ ∀ w, Calls Tryz.prog 189 #[cv a b] w fun e w' => e = .returned (.float .f64 r) ∧ Grew w w' := by
  obtain ⟨re, im, hm, fr, _⟩ := cmul_names 2097152 2097152 (by decide) (by decide) ha hb ha hb.neg x1 x2 y1 y2 x1 x2 (by omega) (by omega)
  refine ⟨re, ?_, ?_⟩
  · have : x * x + y * y = x * x - y * -y := by rw [Int.mul_neg]; omega
    rw [this]; exact fr
  · intro w
    have hop := fun t w => run_complex_mul (P := Tryz.prog) w t a b a (Op.negFloat .f64 b) re im hm
    have M := fun W => mirrored_any a b W
    clear hm fr ha hb x1 x2 y1 y2
    generalize Op.negFloat .f64 b = c at *
    go_enter Tryz.func189, Tryz.ntmps189
    go_wp2_with (go_at_call 213; refine (M _).mono ?_; rintro e w' ⟨rfl, os, n, rfl⟩)
    all_goals go_ret
    all_goals exact ⟨rfl, by repeat (first | exact Grew.refl _ | apply Grew.drew | apply Grew.drewN | apply Grew.alloc | apply Grew.more)⟩
end Go.Proofs.YtnpdecbgakgbgaaGreatDoor.Ga

namespace Go.Proofs.YtnpdecbgakgbgaaGreatDoor

def nul : Va := ⟨0, 0, 0, []⟩
def vI (z : Int) : Va := ⟨1, z, 0, []⟩
def vD (u s : Int) : Va := ⟨2, u, s, []⟩
def vT (l : List UInt8) : Va := ⟨3, 0, 0, l⟩
def vB (b : Bool) : Va := ⟨4, if b then 1 else 0, 0, []⟩
def vP (x y : Int) : Va := ⟨5, x, y, []⟩
def vO (t : Int) : Va := if t = 0 ∨ t = 1 then ⟨4, t, 0, []⟩ else nul

/-- What is answered: a value and an error's number. -/
abbrev rs (r : Va × Int) : Value := .tuple #[vv r.1, .int .i64 r.2]

def wholeR (z e : Int) : Va × Int := if e = 0 then (vI z, 0) else (nul, e)
def exactR (u s e : Int) : Va × Int := if e = 0 then (vD u s, 0) else (nul, e)
def placedR (x y e : Int) : Va × Int := if e = 0 then (vP x y, 0) else (nul, e)

/-- A comparison of two that stand so. -/
def cmpR (op c : Int) : Va × Int :=
  if op = 11 then (vB (c == 0), 0) else if op = 12 then (vB (!(c == 0)), 0) else if op = 13 then (vB (decide (c < 0)), 0) else if op = 14 then (vB (decide (c ≤ 0)), 0)
  else if op = 15 then (vB (decide (c > 0)), 0) else if op = 16 then (vB (decide (c ≥ 0)), 0) else (nul, 31)

def quoR (a b : Int) : Int × Int := if b = 0 then (0, 33) else if b = -1 then (nz (-a), nErr (-a)) else (a.tdiv b, 0)
def remR (a b : Int) : Int × Int := if b = 0 then (0, 33) else (a.tmod b, 0)

def intsR (op a b : Int) : Va × Int :=
  if op = 9 then wholeR (nz (a + b)) (nErr (a + b)) else if op = 10 then wholeR (nz (a - b)) (nErr (a - b)) else if op = 6 then wholeR (nz (a * b)) (nErr (a * b))
  else if op = 7 then wholeR (quoR a b).1 (quoR a b).2 else if op = 8 then wholeR (remR a b).1 (remR a b).2 else cmpR op (numc a b)

/-- The greater scale. -/
def gsc (s t : Int) : Int := if t ≤ s then s else t
/-- The scale of a product. -/
def psc (s t : Int) : Int := if s + t ≤ 6 then s + t else 6

def decR (z s : Int) : Va × Int := exactR (nz z) (fs z s) (nErr z)
def numsR (op : Int) (a b : Va) : Va × Int :=
  if op = 9 then decR (at10 a.n a.m (gsc a.m b.m) + at10 b.n b.m (gsc a.m b.m)) (gsc a.m b.m)
  else if op = 10 then decR (at10 a.n a.m (gsc a.m b.m) - at10 b.n b.m (gsc a.m b.m)) (gsc a.m b.m)
  else if op = 6 then decR (rq (a.n * b.n) (10 ^ (a.m + b.m - psc a.m b.m).toNat : Nat)) (psc a.m b.m)
  else if op = 7 then (if b.n = 0 then (nul, 33) else decR (dq a.n a.m b.n b.m 6) 6)
  else cmpR op (numc (at6 a) (at6 b))

def ptR (x y : Int) : Va × Int := placedR (Ga.tX x y) (Ga.tY x y) (Ga.tE x y)
def ptsR (op : Int) (a b : Va) : Va × Int :=
  if op = 9 then ptR (a.n + b.n) (a.m + b.m)
  else if op = 10 then ptR (a.n - b.n) (a.m - b.m)
  else if op = 6 then ptR (a.n * b.n - a.m * b.m) (a.n * b.m + a.m * b.n)
  else if op = 7 then (if b.n = 0 ∧ b.m = 0 then (nul, 33) else (vP (Ga.qX a.n a.m b.n b.m) (Ga.qY a.n a.m b.n b.m), 0))
  else if op = 8 then (if b.n = 0 ∧ b.m = 0 then (nul, 33) else (vP (Ga.rX a.n a.m b.n b.m) (Ga.rY a.n a.m b.n b.m), 0))
  else cmpR op (pcmp a b)

def txtR (op : Int) (a b : Va) : Va × Int :=
  if op = 9 then (if 256 < a.b.length + b.b.length then (nul, 32) else (vT (a.b ++ b.b), 0)) else cmpR op (pcmp a b)

/-- The truth that a value stands for, and whether it stands for one. -/
def tN (a : Va) : Int := truN a.k a.n a.m ⟨a.b.toArray⟩
def tB (a : Va) : Bool := truB a.k a.n a.m ⟨a.b.toArray⟩
def truR (op : Int) (a b : Va) : Va × Int :=
  if (tB a && tB b) = true then (if op = 17 then (vO (tand (tN a) (tN b)), 0) else (vO (tor (tN a) (tN b)), 0)) else (nul, 31)

/-- What an op of two comes to. -/
def binR (op : Int) (a b : Va) : Va × Int :=
  if ¬ (6 ≤ op ∧ op ≤ 18 ∧ vr a = true ∧ vr b = true) then (nul, 1)
  else if op = 17 ∨ op = 18 then truR op a b
  else if a.k = 0 ∨ b.k = 0 then (nul, 0)
  else if a.k = 1 ∧ b.k = 1 then intsR op a.n b.n
  else if isn a ∧ isn b then numsR op a b
  else if a.k = 5 ∧ b.k = 5 then ptsR op a b
  else if a.k = 3 ∧ b.k = 3 then txtR op a b
  else if a.k = 4 ∧ b.k = 4 then cmpR op (pcmp a b)
  else (nul, 31)

def negR (a : Va) : Va × Int :=
  if a.k = 0 then (nul, 0) else if a.k = 1 then wholeR (nz (0 - a.n)) (nErr (0 - a.n)) else if a.k = 2 then decR (-a.n) a.m
  else if a.k = 5 then (vP (-a.n) (-a.m), 0) else (nul, 31)
def notR (a : Va) : Va × Int := if tB a = true then (vO (tnot (tN a)), 0) else (nul, 31)
/-- What an op of one comes to. -/
def unR (op : Int) (a : Va) : Va × Int :=
  if ¬ (3 ≤ op ∧ op ≤ 5 ∧ vr a = true) then (nul, 1)
  else if op = 5 then (vB (a.k == 0), 0) else if op = 4 then notR a else negR a
end Go.Proofs.YtnpdecbgakgbgaaGreatDoor

namespace Go.Proofs.YtnpdecbgakgbgaaGreatDoor

/-- As Q; by a goto: what J says of its label. -/
def jumpsTo (J : Nat → Act → World → Prop) (Q : Exit → Act → World → Prop) : Exit → Act → World → Prop
  | .goto l, a, w => J l a w
  | e, a, w => Q e a w

theorem wp_scope_multi {P : Program} {a : Act} {w : World} {Q : Exit → Act → World → Prop} {c : Code} (J : Nat → Act → World → Prop) (μ : Nat → Act → World → Nat)
    (first : c.wp P (jumpsTo J Q) a w)
    (pass : ∀ l a w, J l a w → ∃ rest, findLabel c l = some rest ∧ rest.wp P (jumpsTo (fun l' a' w' => J l' a' w' ∧ μ l' a' w' < μ l a w) Q) a w) : (Code.scope c).wp P Q a w := by
  intro b k cs
  have key : ∀ n l a w, μ l a w = n → J l a w → ∃ rest, findLabel c l = some rest ∧ ∃ e a' w', Q e a' w' ∧ Arrives P (lone (b.at a (.code rest :: .inScope c :: k)) cs w) b k cs e a' w' := by
    intro n
    induction n using Nat.strongRecOn with
    | _ n ih =>
      intro l a w hn hJ
      obtain ⟨rest, hf, hp⟩ := pass l a w hJ
      refine ⟨rest, hf, ?_⟩
      obtain ⟨e, a₁, w₁, hq, harr⟩ := hp b (.inScope c :: k) cs
      cases e with
      | normal => exact ⟨.normal, a₁, w₁, hq, Steps.trans harr (.one step_inScope)⟩
      | exit id => exact ⟨.exit id, a₁, w₁, hq, fun k' hk => harr k' (by simp [exitTo, hk])⟩
      | goto l' =>
        obtain ⟨hJ', hlt⟩ := hq
        obtain ⟨rest', hf', e₂, a₂, w₂, hq₂, harr₂⟩ := ih _ (by omega) l' a₁ w₁ rfl hJ'
        have hg : gotoIn l' (.inScope c :: k) = some (.code rest' :: .inScope c :: k) := by simp [gotoIn, hf']
        exact ⟨e₂, a₂, w₂, hq₂, .of_steps (harr _ hg) harr₂⟩
      | ret => exact ⟨_, a₁, w₁, hq, harr⟩
      | panic ch => exact ⟨_, a₁, w₁, hq, harr⟩
      | outgrown => exact ⟨_, a₁, w₁, hq, harr⟩
  obtain ⟨e, a₁, w₁, hq, harr⟩ := first b (.inScope c :: k) cs
  cases e with
  | normal => exact ⟨.normal, a₁, w₁, hq, .head step_scope (Steps.trans harr (.one step_inScope))⟩
  | exit id => exact ⟨.exit id, a₁, w₁, hq, fun k' hk => .head step_scope (harr k' (by simp [exitTo, hk]))⟩
  | goto l' =>
    obtain ⟨rest', hf', e₂, a₂, w₂, hq₂, harr₂⟩ := key _ l' a₁ w₁ rfl hq
    have hg : gotoIn l' (.inScope c :: k) = some (.code rest' :: .inScope c :: k) := by simp [gotoIn, hf']
    exact ⟨e₂, a₂, w₂, hq₂, .of_steps (.head step_scope (harr _ hg)) harr₂⟩
  | ret => exact ⟨_, a₁, w₁, hq, .of_steps (.one step_scope) harr⟩
  | panic ch => exact ⟨_, a₁, w₁, hq, .of_steps (.one step_scope) harr⟩
  | outgrown => exact ⟨_, a₁, w₁, hq, .of_steps (.one step_scope) harr⟩
end Go.Proofs.YtnpdecbgakgbgaaGreatDoor

namespace Go.Proofs.YtnpdecbgakgbgaaGreatDoor

/-- As Q; by a goto: what is behind its label, at most n times. -/
def onward (P : Program) (c : Code) (Q : Exit → Act → World → Prop) : Nat → Exit → Act → World → Prop
  | 0, .goto _, _, _ => False
  | n + 1, .goto l, a, w => ∃ rest, findLabel c l = some rest ∧ rest.wp P (onward P c Q n) a w
  | _, e, a, w => Q e a w

theorem onward_goto {P : Program} {c rest : Code} {Q : Exit → Act → World → Prop} {n l : Nat} {a : Act} {w : World} (hf : findLabel c l = some rest) (h : rest.wp P (onward P c Q n) a w) : onward P c Q (n + 1) (.goto l) a w := ⟨rest, hf, h⟩
theorem goto_on {P : Program} {c rest : Code} {Q : Exit → Act → World → Prop} {K : Act → World → Prop} {n l : Nat} {a : Act} {w : World} (hf : findLabel c l = some rest) (h : rest.wp P (onward P c Q n) a w) : (Code.goto l).wp P (Exit.then K (onward P c Q (n + 1))) a w :=
  wp_goto (show onward P c Q (n + 1) (.goto l) a w from ⟨rest, hf, h⟩)
theorem onward_ret {P : Program} {c : Code} {Q : Exit → Act → World → Prop} {n : Nat} {e : Exit} {a : Act} {w : World} (he : ∀ l, e ≠ .goto l) (h : Q e a w) : onward P c Q n e a w := by
  cases n <;> cases e <;> first | exact h | exact absurd rfl (he _)

theorem wp_scope_on {P : Program} {a : Act} {w : World} {Q : Exit → Act → World → Prop} {c : Code} (n : Nat) (h : c.wp P (onward P c Q n) a w) : (Code.scope c).wp P Q a w := by
  intro b k cs
  have key : ∀ n e a w, onward P c Q n e a w → ∃ e' a' w', Q e' a' w' ∧ ∀ s, Arrives P s b (.inScope c :: k) cs e a w → Arrives P s b k cs e' a' w' := by
    intro n
    induction n with
    | zero =>
      intro e a w h
      cases e with
      | normal => exact ⟨.normal, a, w, h, fun s harr => Steps.trans harr (.one step_inScope)⟩
      | exit id => exact ⟨.exit id, a, w, h, fun s harr k' hk => harr k' (by simp [exitTo, hk])⟩
      | goto l' => exact h.elim
      | ret => exact ⟨_, a, w, h, fun s harr => harr⟩
      | panic ch => exact ⟨_, a, w, h, fun s harr => harr⟩
      | outgrown => exact ⟨_, a, w, h, fun s harr => harr⟩
    | succ n ih =>
      intro e a w h
      cases e with
      | normal => exact ⟨.normal, a, w, h, fun s harr => Steps.trans harr (.one step_inScope)⟩
      | exit id => exact ⟨.exit id, a, w, h, fun s harr k' hk => harr k' (by simp [exitTo, hk])⟩
      | goto l' =>
        obtain ⟨rest, hf, hp⟩ := h
        obtain ⟨e₁, a₁, w₁, hq, harr₁⟩ := hp b (.inScope c :: k) cs
        obtain ⟨e', a', w', hQ, hk⟩ := ih e₁ a₁ w₁ hq
        have hg : gotoIn l' (.inScope c :: k) = some (.code rest :: .inScope c :: k) := by simp [gotoIn, hf]
        exact ⟨e', a', w', hQ, fun s harr => .of_steps (harr _ hg) (hk _ harr₁)⟩
      | ret => exact ⟨_, a, w, h, fun s harr => harr⟩
      | panic ch => exact ⟨_, a, w, h, fun s harr => harr⟩
      | outgrown => exact ⟨_, a, w, h, fun s harr => harr⟩
  obtain ⟨e, a₁, w₁, hq, harr⟩ := h b (.inScope c :: k) cs
  obtain ⟨e', a', w', hQ, hk⟩ := key n e a₁ w₁ hq
  exact ⟨e', a', w', hQ, .of_steps (.one step_scope) (hk _ harr)⟩
end Go.Proofs.YtnpdecbgakgbgaaGreatDoor
