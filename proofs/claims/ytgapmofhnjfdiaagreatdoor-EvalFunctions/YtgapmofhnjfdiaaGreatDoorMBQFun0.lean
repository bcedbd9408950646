/-
  What ops of one and of two come to, as plain data.
  A scope whose gotos are followed one by one, at most n of them: the walk goes on at the label. Nothing of the program is in it.
  The smallest functions of package eval.
  What a call gives in every later world; three boxes.
  The document's answers for eval: the smallest functions.
  A world with some blocks more, whatever has been drawn: out of 'Below', so that its cells read as those of a world that has grown. Nothing of the program is in it.
  Rows of values: eval.allRight, slices.Contains at the value Null.
-/
import Derived.Test.YtgapmofhnjfdiaaGreatDoorVMath
import Derived.Test.YtgapmofhnjfdiaaGreatDoorMeDWide3
import Derived.Test.YtgapmofhnjfdiaaGreatDoorMzHFloat
import Derived.Test.YtgapmofhnjfdiaaGreatDoorMyVTruW
import Derived.Test.YtgapmofhnjfdiaaGreatDoorVCmp2
import Derived.Test.YtgapmofhnjfdiaaGreatDoorDDivs
import Derived.Test.YtgapmofhnjfdiaaGreatDoorMAHDiv2
import Derived.Test.YtgapmofhnjfdiaaGreatDoorMaLJumps
import Derived.BigRegion
namespace Go.Proofs.YtgapmofhnjfdiaaGreatDoor

def nul : Va := ⟨0, 0, 0, []⟩
def vI (z : Int) : Va := ⟨1, z, 0, []⟩
def vD (u s : Int) : Va := ⟨2, u, s, []⟩
def vT (l : List UInt8) : Va := ⟨3, 0, 0, l⟩
def vB (b : Bool) : Va := ⟨4, if b then 1 else 0, 0, []⟩
def vP (x y : Int) : Va := ⟨5, x, y, []⟩
def vO (t : Int) : Va := if t = 0 ∨ t = 1 then ⟨4, t, 0, []⟩ else nul

/-- What is answered: a value and an error's number. -/
abbrev rs (r : Va × Int) : Value := .tuple #[vv r.1, .int .i64 r.2]

def wholeR (z e : Int) : Va × Int := if e = 0 then (vI z, 0) else (nul, e)
def exactR (u s e : Int) : Va × Int := if e = 0 then (vD u s, 0) else (nul, e)
def placedR (x y e : Int) : Va × Int := if e = 0 then (vP x y, 0) else (nul, e)

/-- A comparison of two that stand so. -/
def cmpR (op c : Int) : Va × Int :=
  if op = 11 then (vB (c == 0), 0) else if op = 12 then (vB (!(c == 0)), 0) else if op = 13 then (vB (decide (c < 0)), 0) else if op = 14 then (vB (decide (c ≤ 0)), 0)
  else if op = 15 then (vB (decide (c > 0)), 0) else if op = 16 then (vB (decide (c ≥ 0)), 0) else (nul, 31)

def quoR (a b : Int) : Int × Int := if b = 0 then (0, 33) else if b = -1 then (nz (-a), nErr (-a)) else (a.tdiv b, 0)
def remR (a b : Int) : Int × Int := if b = 0 then (0, 33) else (a.tmod b, 0)

def intsR (op a b : Int) : Va × Int :=
  if op = 9 then wholeR (nz (a + b)) (nErr (a + b)) else if op = 10 then wholeR (nz (a - b)) (nErr (a - b)) else if op = 6 then wholeR (nz (a * b)) (nErr (a * b))
  else if op = 7 then wholeR (quoR a b).1 (quoR a b).2 else if op = 8 then wholeR (remR a b).1 (remR a b).2 else cmpR op (numc a b)

/-- The greater scale. -/
def gsc (s t : Int) : Int := if t ≤ s then s else t
/-- The scale of a product. -/
def psc (s t : Int) : Int := if s + t ≤ 6 then s + t else 6

def decR (z s : Int) : Va × Int := exactR (nz z) (fs z s) (nErr z)
def numsR (op : Int) (a b : Va) : Va × Int :=
  if op = 9 then decR (at10 a.n a.m (gsc a.m b.m) + at10 b.n b.m (gsc a.m b.m)) (gsc a.m b.m)
  else if op = 10 then decR (at10 a.n a.m (gsc a.m b.m) - at10 b.n b.m (gsc a.m b.m)) (gsc a.m b.m)
  else if op = 6 then decR (rq (a.n * b.n) (10 ^ (a.m + b.m - psc a.m b.m).toNat : Nat)) (psc a.m b.m)
  else if op = 7 then (if b.n = 0 then (nul, 33) else decR (dq a.n a.m b.n b.m 6) 6)
  else cmpR op (numc (at6 a) (at6 b))

def ptR (x y : Int) : Va × Int := placedR (Ga.tX x y) (Ga.tY x y) (Ga.tE x y)
def ptsR (op : Int) (a b : Va) : Va × Int :=
  if op = 9 then ptR (a.n + b.n) (a.m + b.m)
  else if op = 10 then ptR (a.n - b.n) (a.m - b.m)
  else if op = 6 then ptR (a.n * b.n - a.m * b.m) (a.n * b.m + a.m * b.n)
  else if op = 7 then (if b.n = 0 ∧ b.m = 0 then (nul, 33) else (vP (Ga.qX a.n a.m b.n b.m) (Ga.qY a.n a.m b.n b.m), 0))
  else if op = 8 then (if b.n = 0 ∧ b.m = 0 then (nul, 33) else (vP (Ga.rX a.n a.m b.n b.m) (Ga.rY a.n a.m b.n b.m), 0))
  else cmpR op (pcmp a b)

def txtR (op : Int) (a b : Va) : Va × Int :=
  if op = 9 then (if 256 < a.b.length + b.b.length then (nul, 32) else (vT (a.b ++ b.b), 0)) else cmpR op (pcmp a b)

/-- The truth that a value stands for, and whether it stands for one. -/
def tN (a : Va) : Int := truN a.k a.n a.m ⟨a.b.toArray⟩
def tB (a : Va) : Bool := truB a.k a.n a.m ⟨a.b.toArray⟩
def truR (op : Int) (a b : Va) : Va × Int :=
  if (tB a && tB b) = true then (if op = 17 then (vO (tand (tN a) (tN b)), 0) else (vO (tor (tN a) (tN b)), 0)) else (nul, 31)

/-- What an op of two comes to. -/
def binR (op : Int) (a b : Va) : Va × Int :=
  if ¬ (6 ≤ op ∧ op ≤ 18 ∧ vr a = true ∧ vr b = true) then (nul, 1)
  else if op = 17 ∨ op = 18 then truR op a b
  else if a.k = 0 ∨ b.k = 0 then (nul, 0)
  else if a.k = 1 ∧ b.k = 1 then intsR op a.n b.n
  else if isn a ∧ isn b then numsR op a b
  else if a.k = 5 ∧ b.k = 5 then ptsR op a b
  else if a.k = 3 ∧ b.k = 3 then txtR op a b
  else if a.k = 4 ∧ b.k = 4 then cmpR op (pcmp a b)
  else (nul, 31)

def negR (a : Va) : Va × Int :=
  if a.k = 0 then (nul, 0) else if a.k = 1 then wholeR (nz (0 - a.n)) (nErr (0 - a.n)) else if a.k = 2 then decR (-a.n) a.m
  else if a.k = 5 then (vP (-a.n) (-a.m), 0) else (nul, 31)
def notR (a : Va) : Va × Int := if tB a = true then (vO (tnot (tN a)), 0) else (nul, 31)
/-- What an op of one comes to. -/
def unR (op : Int) (a : Va) : Va × Int :=
  if ¬ (3 ≤ op ∧ op ≤ 5 ∧ vr a = true) then (nul, 1)
  else if op = 5 then (vB (a.k == 0), 0) else if op = 4 then notR a else negR a
end Go.Proofs.YtgapmofhnjfdiaaGreatDoor

namespace Go.Proofs.YtgapmofhnjfdiaaGreatDoor

/-- As Q; by a goto: what is behind its label, at most n times. -/
def onward (P : Program) (c : Code) (Q : Exit → Act → World → Prop) : Nat → Exit → Act → World → Prop
  | 0, .goto _, _, _ => False
  | n + 1, .goto l, a, w => ∃ rest, findLabel c l = some rest ∧ rest.wp P (onward P c Q n) a w
  | _, e, a, w => Q e a w

theorem goto_on {P : Program} {c rest : Code} {Q : Exit → Act → World → Prop} {K : Act → World → Prop} {n l : Nat} {a : Act} {w : World} (hf : findLabel c l = some rest) (h : rest.wp P (onward P c Q n) a w) : (Code.goto l).wp P (Exit.then K (onward P c Q (n + 1))) a w :=
  wp_goto (show onward P c Q (n + 1) (.goto l) a w from ⟨rest, hf, h⟩)
theorem onward_ret {P : Program} {c : Code} {Q : Exit → Act → World → Prop} {n : Nat} {e : Exit} {a : Act} {w : World} (he : ∀ l, e ≠ .goto l) (h : Q e a w) : onward P c Q n e a w := by
  cases n <;> cases e <;> first | exact h | exact absurd rfl (he _)

theorem wp_scope_on {P : Program} {a : Act} {w : World} {Q : Exit → Act → World → Prop} {c : Code} (n : Nat) (h : c.wp P (onward P c Q n) a w) : (Code.scope c).wp P Q a w := by
  intro b k cs
  have key : ∀ n e a w, onward P c Q n e a w → ∃ e' a' w', Q e' a' w' ∧ ∀ s, Arrives P s b (.inScope c :: k) cs e a w → Arrives P s b k cs e' a' w' := by
    intro n
    induction n with
    | zero =>
      intro e a w h
      cases e with
      | normal => exact ⟨.normal, a, w, h, fun s harr => Steps.trans harr (.one step_inScope)⟩
      | exit id => exact ⟨.exit id, a, w, h, fun s harr k' hk => harr k' (by simp [exitTo, hk])⟩
      | goto l' => exact h.elim
      | ret => exact ⟨_, a, w, h, fun s harr => harr⟩
      | panic ch => exact ⟨_, a, w, h, fun s harr => harr⟩
      | outgrown => exact ⟨_, a, w, h, fun s harr => harr⟩
    | succ n ih =>
      intro e a w h
      cases e with
      | normal => exact ⟨.normal, a, w, h, fun s harr => Steps.trans harr (.one step_inScope)⟩
      | exit id => exact ⟨.exit id, a, w, h, fun s harr k' hk => harr k' (by simp [exitTo, hk])⟩
      | goto l' =>
        obtain ⟨rest, hf, hp⟩ := h
        obtain ⟨e₁, a₁, w₁, hq, harr₁⟩ := hp b (.inScope c :: k) cs
        obtain ⟨e', a', w', hQ, hk⟩ := ih e₁ a₁ w₁ hq
        have hg : gotoIn l' (.inScope c :: k) = some (.code rest :: .inScope c :: k) := by simp [gotoIn, hf]
        exact ⟨e', a', w', hQ, fun s harr => .of_steps (harr _ hg) (hk _ harr₁)⟩
      | ret => exact ⟨_, a, w, h, fun s harr => harr⟩
      | panic ch => exact ⟨_, a, w, h, fun s harr => harr⟩
      | outgrown => exact ⟨_, a, w, h, fun s harr => harr⟩
  obtain ⟨e, a₁, w₁, hq, harr⟩ := h b (.inScope c :: k) cs
  obtain ⟨e', a', w', hQ, hk⟩ := key n e a₁ w₁ hq
  exact ⟨e', a', w', hQ, .of_steps (.one step_scope) (hk _ harr)⟩
end Go.Proofs.YtgapmofhnjfdiaaGreatDoor

namespace Go.Proofs.YtgapmofhnjfdiaaGreatDoor
open Go.RowKit Go.Shelf
attribute [local go_sem] cell?_more frozen?_more setCell_more more_lt more_more more_drew more_drewN setCell_drewN alloc_drewN

theorem qnumber_any (k n m : Int) (b : ByteArray) (w : World) : Calls Tryz.prog 60 #[va k n m b] w fun e w' => e = .returned (.bool (k == 1 || k == 2)) ∧ Grew w w' := by
  by_cases h : k = 1
  · subst h
    go_enter Tryz.func60, Tryz.ntmps60
    go_wp2
    all_goals go_ret
    all_goals exact ⟨rfl, by repeat (first | exact Grew.refl _ | apply Grew.drew | apply Grew.drewN | apply Grew.alloc | apply Grew.more)⟩
  · have h' : (k == 1) = false := by simpa using h
    rw [h', Bool.false_or]
    go_enter Tryz.func60, Tryz.ntmps60
    go_wp2
    all_goals go_ret
    all_goals exact ⟨rfl, by repeat (first | exact Grew.refl _ | apply Grew.drew | apply Grew.drewN | apply Grew.alloc | apply Grew.more)⟩

theorem qunits_any (k n m : Int) (b : ByteArray) (w : World) : Calls Tryz.prog 62 #[va k n m b] w fun e w' => e = .returned (dv n m) ∧ Grew w w' := by
  go_enter Tryz.func62, Tryz.ntmps62
  go_wp2
  refine bodyPost_ret_by (v := dv n m) ?_ rfl ⟨rfl, ?_⟩
  · simp [results, Tryz.results62, go_sem]
  · repeat (first | exact Grew.refl _ | apply Grew.drew | apply Grew.drewN | apply Grew.alloc | apply Grew.more)

theorem qpoint_any (k n m : Int) (b : ByteArray) (w : World) : Calls Tryz.prog 111 #[va k n m b] w fun e w' => e = .returned (dv n m) ∧ Grew w w' := by
  go_enter Tryz.func111, Tryz.ntmps111
  go_wp2
  refine bodyPost_ret_by (v := dv n m) ?_ rfl ⟨rfl, ?_⟩
  · simp [results, Tryz.results111, go_sem]
  · repeat (first | exact Grew.refl _ | apply Grew.drew | apply Grew.drewN | apply Grew.alloc | apply Grew.more)

theorem qtruth_any (b : Bool) (w : World) : Calls Tryz.prog 43 #[.bool b] w fun e w' => e = .returned (vv (vB b)) ∧ Grew w w' := by
  have O1 : ∀ W, Calls Tryz.prog 103 #[.int .i64 1] W fun e w' => e = .returned (va 4 1 0 ⟨#[]⟩) ∧ Grew W w' := fun W => of_any 1 W
  have O0 : ∀ W, Calls Tryz.prog 103 #[.int .i64 0] W fun e w' => e = .returned (va 4 0 0 ⟨#[]⟩) ∧ Grew W w' := fun W => of_any 0 W
  cases b
  · go_enter Tryz.func43, Tryz.ntmps43
    go_wp2_with (first
      | (go_at_call_of 103 (Value.int IntKind.i64 1); refine (O1 _).mono ?_; rintro e w1 ⟨rfl, os1, n1, rfl⟩)
      | (go_at_call_of 103 (Value.int IntKind.i64 0); refine (O0 _).mono ?_; rintro e w1 ⟨rfl, os1, n1, rfl⟩))
    refine bodyPost_ret_by (v := vv (vB false)) ?_ rfl ⟨rfl, ?_⟩
    · simp [results, Tryz.results43, go_sem, vB]
    · repeat (first | exact Grew.refl _ | apply Grew.drew | apply Grew.drewN | apply Grew.alloc | apply Grew.more)
  · go_enter Tryz.func43, Tryz.ntmps43
    go_wp2_with (first
      | (go_at_call_of 103 (Value.int IntKind.i64 1); refine (O1 _).mono ?_; rintro e w1 ⟨rfl, os1, n1, rfl⟩)
      | (go_at_call_of 103 (Value.int IntKind.i64 0); refine (O0 _).mono ?_; rintro e w1 ⟨rfl, os1, n1, rfl⟩))
    refine bodyPost_ret_by (v := vv (vB true)) ?_ rfl ⟨rfl, ?_⟩
    · simp [results, Tryz.results43, go_sem, vB]
    · repeat (first | exact Grew.refl _ | apply Grew.drew | apply Grew.drewN | apply Grew.alloc | apply Grew.more)

theorem qwhole_any (n x : Int) (w : World) : Calls Tryz.prog 105 #[.int .i64 n, .int .i64 x] w fun e w' => e = .returned (rs (wholeR n x)) ∧ Grew w w' := by
  unfold wholeR
  by_cases h : x = 0
  · subst h
    rw [if_pos rfl]
    go_enter Tryz.func105, Tryz.ntmps105
    go_wp2
    refine bodyPost_ret_by (v := rs (vI n, 0)) ?_ rfl ⟨rfl, ?_⟩
    · simp [results, Tryz.results105, go_sem, vI]
    · repeat (first | exact Grew.refl _ | apply Grew.drew | apply Grew.drewN | apply Grew.alloc | apply Grew.more)
  · rw [if_neg h]
    have h' : (x == 0) = false := by simpa using h
    go_enter Tryz.func105, Tryz.ntmps105
    go_wp2
    refine bodyPost_ret_by (v := rs (nul, x)) ?_ rfl ⟨rfl, ?_⟩
    · simp [results, Tryz.results105, go_sem, nul]
    · repeat (first | exact Grew.refl _ | apply Grew.drew | apply Grew.drewN | apply Grew.alloc | apply Grew.more)

theorem qexact_any (u s x : Int) (w : World) : Calls Tryz.prog 107 #[dv u s, .int .i64 x] w fun e w' => e = .returned (rs (exactR u s x)) ∧ Grew w w' := by
  unfold exactR
  by_cases h : x = 0
  · subst h
    rw [if_pos rfl]
    go_enter Tryz.func107, Tryz.ntmps107
    go_wp2
    refine bodyPost_ret_by (v := rs (vD u s, 0)) ?_ rfl ⟨rfl, ?_⟩
    · simp [results, Tryz.results107, go_sem, vD]
    · repeat (first | exact Grew.refl _ | apply Grew.drew | apply Grew.drewN | apply Grew.alloc | apply Grew.more)
  · rw [if_neg h]
    have h' : (x == 0) = false := by simpa using h
    go_enter Tryz.func107, Tryz.ntmps107
    go_wp2
    refine bodyPost_ret_by (v := rs (nul, x)) ?_ rfl ⟨rfl, ?_⟩
    · simp [results, Tryz.results107, go_sem, nul]
    · repeat (first | exact Grew.refl _ | apply Grew.drew | apply Grew.drewN | apply Grew.alloc | apply Grew.more)

theorem qplaced_any (u s x : Int) (w : World) : Calls Tryz.prog 109 #[dv u s, .int .i64 x] w fun e w' => e = .returned (rs (placedR u s x)) ∧ Grew w w' := by
  unfold placedR
  by_cases h : x = 0
  · subst h
    rw [if_pos rfl]
    go_enter Tryz.func109, Tryz.ntmps109
    go_wp2
    refine bodyPost_ret_by (v := rs (vP u s, 0)) ?_ rfl ⟨rfl, ?_⟩
    · simp [results, Tryz.results109, go_sem, vP]
    · repeat (first | exact Grew.refl _ | apply Grew.drew | apply Grew.drewN | apply Grew.alloc | apply Grew.more)
  · rw [if_neg h]
    have h' : (x == 0) = false := by simpa using h
    go_enter Tryz.func109, Tryz.ntmps109
    go_wp2
    refine bodyPost_ret_by (v := rs (nul, x)) ?_ rfl ⟨rfl, ?_⟩
    · simp [results, Tryz.results109, go_sem, nul]
    · repeat (first | exact Grew.refl _ | apply Grew.drew | apply Grew.drewN | apply Grew.alloc | apply Grew.more)

theorem qcompared_any (op c : Int) (w : World) : Calls Tryz.prog 65 #[.int .i64 op, .int .i64 c] w fun e w' => e = .returned (rs (cmpR op c)) ∧ Grew w w' := by
  have T := fun b W => qtruth_any b W
  unfold cmpR
  by_cases h11 : op = 11
  · subst h11
    rw [if_pos rfl]
    go_enter Tryz.func65, Tryz.ntmps65
    go_wp2_with (go_at_call 43; refine (T (c == 0) _).mono ?_; rintro e w1 ⟨rfl, os1, n1, rfl⟩)
    refine bodyPost_ret_by (v := rs (vB (c == 0), 0)) ?_ rfl ⟨rfl, ?_⟩
    · simp [results, Tryz.results65, go_sem]
    · repeat (first | exact Grew.refl _ | apply Grew.drew | apply Grew.drewN | apply Grew.alloc | apply Grew.more)
  have c11 : (op == 11) = false := by simpa using h11
  by_cases h12 : op = 12
  · subst h12
    rw [if_neg (by decide), if_pos rfl]
    go_enter Tryz.func65, Tryz.ntmps65
    go_wp2_with (go_at_call 43; refine (T (!(c == 0)) _).mono ?_; rintro e w1 ⟨rfl, os1, n1, rfl⟩)
    refine bodyPost_ret_by (v := rs (vB (!(c == 0)), 0)) ?_ rfl ⟨rfl, ?_⟩
    · simp [results, Tryz.results65, go_sem]
    · repeat (first | exact Grew.refl _ | apply Grew.drew | apply Grew.drewN | apply Grew.alloc | apply Grew.more)
  have c12 : (op == 12) = false := by simpa using h12
  by_cases h13 : op = 13
  · subst h13
    rw [if_neg (by decide), if_neg (by decide), if_pos rfl]
    go_enter Tryz.func65, Tryz.ntmps65
    go_wp2_with (go_at_call 43; refine (T (decide (c < 0)) _).mono ?_; rintro e w1 ⟨rfl, os1, n1, rfl⟩)
    refine bodyPost_ret_by (v := rs (vB (decide (c < 0)), 0)) ?_ rfl ⟨rfl, ?_⟩
    · simp [results, Tryz.results65, go_sem]
    · repeat (first | exact Grew.refl _ | apply Grew.drew | apply Grew.drewN | apply Grew.alloc | apply Grew.more)
  have c13 : (op == 13) = false := by simpa using h13
  by_cases h14 : op = 14
  · subst h14
    rw [if_neg (by decide), if_neg (by decide), if_neg (by decide), if_pos rfl]
    go_enter Tryz.func65, Tryz.ntmps65
    go_wp2_with (go_at_call 43; refine (T (decide (c ≤ 0)) _).mono ?_; rintro e w1 ⟨rfl, os1, n1, rfl⟩)
    refine bodyPost_ret_by (v := rs (vB (decide (c ≤ 0)), 0)) ?_ rfl ⟨rfl, ?_⟩
    · simp [results, Tryz.results65, go_sem]
    · repeat (first | exact Grew.refl _ | apply Grew.drew | apply Grew.drewN | apply Grew.alloc | apply Grew.more)
  have c14 : (op == 14) = false := by simpa using h14
  by_cases h15 : op = 15
  · subst h15
    rw [if_neg (by decide), if_neg (by decide), if_neg (by decide), if_neg (by decide), if_pos rfl]
    go_enter Tryz.func65, Tryz.ntmps65
    go_wp2_with (go_at_call 43; refine (T (decide (c > 0)) _).mono ?_; rintro e w1 ⟨rfl, os1, n1, rfl⟩)
    refine bodyPost_ret_by (v := rs (vB (decide (c > 0)), 0)) ?_ rfl ⟨rfl, ?_⟩
    · simp [results, Tryz.results65, go_sem]
    · repeat (first | exact Grew.refl _ | apply Grew.drew | apply Grew.drewN | apply Grew.alloc | apply Grew.more)
  have c15 : (op == 15) = false := by simpa using h15
  by_cases h16 : op = 16
  · subst h16
    rw [if_neg (by decide), if_neg (by decide), if_neg (by decide), if_neg (by decide), if_neg (by decide), if_pos rfl]
    go_enter Tryz.func65, Tryz.ntmps65
    go_wp2_with (go_at_call 43; refine (T (decide (c ≥ 0)) _).mono ?_; rintro e w1 ⟨rfl, os1, n1, rfl⟩)
    refine bodyPost_ret_by (v := rs (vB (decide (c ≥ 0)), 0)) ?_ rfl ⟨rfl, ?_⟩
    · simp [results, Tryz.results65, go_sem]
    · repeat (first | exact Grew.refl _ | apply Grew.drew | apply Grew.drewN | apply Grew.alloc | apply Grew.more)
  have c16 : (op == 16) = false := by simpa using h16
  rw [if_neg h11, if_neg h12, if_neg h13, if_neg h14, if_neg h15, if_neg h16]
  clear T
  go_enter Tryz.func65, Tryz.ntmps65
  go_wp2
  refine bodyPost_ret_by (v := rs (nul, 31)) ?_ rfl ⟨rfl, ?_⟩
  · simp [results, Tryz.results65, go_sem, nul]
  · repeat (first | exact Grew.refl _ | apply Grew.drew | apply Grew.drewN | apply Grew.alloc | apply Grew.more)
end Go.Proofs.YtgapmofhnjfdiaaGreatDoor

namespace Go.Proofs.YtgapmofhnjfdiaaGreatDoor
open Go.RowKit Go.Shelf
attribute [local go_sem] cell?_more frozen?_more setCell_more more_lt more_more more_drew more_drewN setCell_drewN alloc_drewN


/-- A call gives this value in every world that has grown out of that one. -/
abbrev Tells (f : Nat) (args : Array Value) (w : World) (v : Value) : Prop := ∀ W : World, Below w.heap.size w W → Calls Tryz.prog f args W fun e w' => e = .returned v ∧ Below W.heap.size W w'
theorem Tells.later {f : Nat} {args : Array Value} {w w' : World} {v : Value} (h : Tells f args w v) (hb : Below w.heap.size w w') : Tells f args w' v := fun W hW => h W (below_trans hb hW)

theorem three_boxes (w : World) (a b : Va) : ∃ w0, w0 = (((w.alloc (.cells #[.int .i64 a.k, .int .i64 a.n, .int .i64 a.m, .string ⟨a.b.toArray⟩] 30)).alloc (.cells #[.int .i64 b.k, .int .i64 b.n, .int .i64 b.m, .string ⟨b.b.toArray⟩] 30)).alloc (.cells #[.int .i64 0, .int .i64 0, .int .i64 0, .string ⟨#[]⟩] 30)) ∧
    Box w0 w.heap.size a ∧ Box w0 (w.heap.size + 1) b ∧ Box w0 (w.heap.size + 1 + 1) nul ∧ Below w.heap.size w w0 := by
  obtain ⟨h1, h2, h3⟩ := two_boxes w a b
  refine ⟨_, rfl, h1.later ((Below.refl _ _).alloc (Nat.le_refl _) _), h2.later ((Below.refl _ _).alloc (Nat.le_refl _) _), ?_, h3.alloc (by simp; omega) _⟩
  have := Box.new (((w.alloc (.cells #[.int .i64 a.k, .int .i64 a.n, .int .i64 a.m, .string ⟨a.b.toArray⟩] 30)).alloc (.cells #[.int .i64 b.k, .int .i64 b.n, .int .i64 b.m, .string ⟨b.b.toArray⟩] 30))) 0 0 0 []
  simp only [World.size_alloc] at this
  exact this
end Go.Proofs.YtgapmofhnjfdiaaGreatDoor

namespace Go.Proofs.YtgapmofhnjfdiaaGreatDoor
open Go.RowKit Go.Shelf
attribute [local go_sem] cell?_more frozen?_more setCell_more more_lt more_more more_drew more_drewN setCell_drewN alloc_drewN

theorem rnumber7_any (k n m : Int) (b : ByteArray) (w : World) : Calls Tryz.prog 70 #[va k n m b] w fun e w' => e = .returned (.bool (k == 1 || k == 2)) ∧ Grew w w' := by
  by_cases h : k = 1
  · subst h
    go_enter Tryz.func70, Tryz.ntmps70
    go_wp2
    all_goals go_ret
    all_goals exact ⟨rfl, by repeat (first | exact Grew.refl _ | apply Grew.drew | apply Grew.drewN | apply Grew.alloc | apply Grew.more)⟩
  · have h' : (k == 1) = false := by simpa using h
    rw [h', Bool.false_or]
    go_enter Tryz.func70, Tryz.ntmps70
    go_wp2
    all_goals go_ret
    all_goals exact ⟨rfl, by repeat (first | exact Grew.refl _ | apply Grew.drew | apply Grew.drewN | apply Grew.alloc | apply Grew.more)⟩

theorem rdec7_any (k n m : Int) (b : ByteArray) (w : World) : Calls Tryz.prog 52 #[va k n m b] w fun e w' => e = .returned (dv n m) ∧ Grew w w' := by
  go_enter Tryz.func52, Tryz.ntmps52
  go_wp2
  refine bodyPost_ret_by (v := dv n m) ?_ rfl ⟨rfl, ?_⟩
  · simp [results, Tryz.results52, go_sem]
  · repeat (first | exact Grew.refl _ | apply Grew.drew | apply Grew.drewN | apply Grew.alloc | apply Grew.more)

theorem rpoint7_any (k n m : Int) (b : ByteArray) (w : World) : Calls Tryz.prog 57 #[va k n m b] w fun e w' => e = .returned (dv n m) ∧ Grew w w' := by
  go_enter Tryz.func57, Tryz.ntmps57
  go_wp2
  refine bodyPost_ret_by (v := dv n m) ?_ rfl ⟨rfl, ?_⟩
  · simp [results, Tryz.results57, go_sem]
  · repeat (first | exact Grew.refl _ | apply Grew.drew | apply Grew.drewN | apply Grew.alloc | apply Grew.more)

theorem rofInt_any (n x : Int) (w : World) : Calls Tryz.prog 53 #[.int .i64 n, .int .i64 x] w fun e w' => e = .returned (rs (wholeR n x)) ∧ Grew w w' := by
  unfold wholeR
  by_cases h : x = 0
  · subst h
    rw [if_pos rfl]
    go_enter Tryz.func53, Tryz.ntmps53
    go_wp2
    refine bodyPost_ret_by (v := rs (vI n, 0)) ?_ rfl ⟨rfl, ?_⟩
    · simp [results, Tryz.results53, go_sem, vI]
    · repeat (first | exact Grew.refl _ | apply Grew.drew | apply Grew.drewN | apply Grew.alloc | apply Grew.more)
  · rw [if_neg h]
    have h' : (x == 0) = false := by simpa using h
    go_enter Tryz.func53, Tryz.ntmps53
    go_wp2
    refine bodyPost_ret_by (v := rs (nul, x)) ?_ rfl ⟨rfl, ?_⟩
    · simp [results, Tryz.results53, go_sem, nul]
    · repeat (first | exact Grew.refl _ | apply Grew.drew | apply Grew.drewN | apply Grew.alloc | apply Grew.more)

theorem rofDec_any (u s x : Int) (w : World) : Calls Tryz.prog 54 #[dv u s, .int .i64 x] w fun e w' => e = .returned (rs (exactR u s x)) ∧ Grew w w' := by
  unfold exactR
  by_cases h : x = 0
  · subst h
    rw [if_pos rfl]
    go_enter Tryz.func54, Tryz.ntmps54
    go_wp2
    refine bodyPost_ret_by (v := rs (vD u s, 0)) ?_ rfl ⟨rfl, ?_⟩
    · simp [results, Tryz.results54, go_sem, vD]
    · repeat (first | exact Grew.refl _ | apply Grew.drew | apply Grew.drewN | apply Grew.alloc | apply Grew.more)
  · rw [if_neg h]
    have h' : (x == 0) = false := by simpa using h
    go_enter Tryz.func54, Tryz.ntmps54
    go_wp2
    refine bodyPost_ret_by (v := rs (nul, x)) ?_ rfl ⟨rfl, ?_⟩
    · simp [results, Tryz.results54, go_sem, nul]
    · repeat (first | exact Grew.refl _ | apply Grew.drew | apply Grew.drewN | apply Grew.alloc | apply Grew.more)

theorem rofPoint_any (u s x : Int) (w : World) : Calls Tryz.prog 55 #[dv u s, .int .i64 x] w fun e w' => e = .returned (rs (placedR u s x)) ∧ Grew w w' := by
  unfold placedR
  by_cases h : x = 0
  · subst h
    rw [if_pos rfl]
    go_enter Tryz.func55, Tryz.ntmps55
    go_wp2
    refine bodyPost_ret_by (v := rs (vP u s, 0)) ?_ rfl ⟨rfl, ?_⟩
    · simp [results, Tryz.results55, go_sem, vP]
    · repeat (first | exact Grew.refl _ | apply Grew.drew | apply Grew.drewN | apply Grew.alloc | apply Grew.more)
  · rw [if_neg h]
    have h' : (x == 0) = false := by simpa using h
    go_enter Tryz.func55, Tryz.ntmps55
    go_wp2
    refine bodyPost_ret_by (v := rs (nul, x)) ?_ rfl ⟨rfl, ?_⟩
    · simp [results, Tryz.results55, go_sem, nul]
    · repeat (first | exact Grew.refl _ | apply Grew.drew | apply Grew.drewN | apply Grew.alloc | apply Grew.more)

theorem rnull7_any (k n m : Int) (b : ByteArray) (w : World) : Calls Tryz.prog 47 #[va k n m b] w fun e w' => e = .returned (.bool (k == 0)) ∧ Grew w w' := by
  go_enter Tryz.func47, Tryz.ntmps47
  go_wp2
  all_goals go_ret
  all_goals exact ⟨rfl, (by repeat (first | assumption | exact Grew.refl _ | apply Grew.drew | apply Grew.drewN | apply Grew.alloc | apply Grew.more))⟩

end Go.Proofs.YtgapmofhnjfdiaaGreatDoor

namespace Go.Proofs.YtgapmofhnjfdiaaGreatDoor
open Go.RowKit

/-- The same world, that many draws. -/
def drawTo (w : World) (d : Nat) : World := { w with drawn := d }
theorem cell?_drawTo (w : World) (d : Nat) (a : Addr) : (drawTo w d).cell? a = w.cell? a := rfl
theorem frozen?_drawTo (w : World) (d : Nat) (a : Addr) : (drawTo w d).frozen? a = w.frozen? a := rfl
theorem heap_drawTo (w : World) (d : Nat) : (drawTo w d).heap = w.heap := rfl
theorem setCell_drawTo (w : World) (d : Nat) (a : Addr) (v : Value) : (drawTo w d).setCell a v = drawTo (w.setCell a v) d := by
  unfold World.setCell drawTo
  split <;> rfl
theorem alloc_drawTo (w : World) (d : Nat) (o : Obj) : (drawTo w d).alloc o = drawTo (w.alloc o) d := rfl
theorem drewN_drawTo (w : World) (d n : Nat) : (drawTo w d).drewN n = drawTo w (d + n) := rfl
theorem drew_drawTo (w : World) (d : Nat) : (drawTo w d).drew = drawTo w (d + 1) := rfl
theorem drawTo_drewN (w : World) (d n : Nat) : drawTo (w.drewN n) d = drawTo w d := rfl
theorem drawTo_drew (w : World) (d : Nat) : drawTo w.drew d = drawTo w d := rfl
theorem drawTo_drawTo (w : World) (d n : Nat) : drawTo (drawTo w d) n = drawTo w n := rfl
theorem more_drawTo (os : List Obj) (d : Nat) : ∀ w : World, more (drawTo w d) os = drawTo (more w os) d := by
  induction os with
  | nil => intro w; rfl
  | cons p a ih => intro w; exact ih (w.alloc p)
theorem more_heap (os : List Obj) : ∀ w : World, (more w os).heap = w.heap ++ os.toArray := by
  induction os with
  | nil => intro w; simp [more]
  | cons p a ih =>
    intro w
    show (more (w.alloc p) a).heap = _
    rw [ih, World.alloc]
    simp
theorem more_rest (os : List Obj) : ∀ w : World, (more w os).tape = w.tape ∧ (more w os).os = w.os ∧ (more w os).output = w.output := by
  induction os with
  | nil => intro w; exact ⟨rfl, rfl, rfl⟩
  | cons p a ih => intro w; exact ih (w.alloc p)
/-- What a call may have done: blocks more, whatever was drawn. -/
theorem wide {w w' : World} (h : Below w.heap.size w w') : ∃ (os : List Obj) (d : Nat), w' = drawTo (more w os) d := by
  refine ⟨w'.heap.toList.drop w.heap.size, w'.drawn, ?_⟩
  have e1 : w'.heap = (more w (w'.heap.toList.drop w.heap.size)).heap := by
    rw [more_heap]
    apply Array.ext'
    have : w.heap.toList = w'.heap.toList.take w.heap.size := by
      apply List.ext_getElem?
      intro i
      rw [List.getElem?_take]
      by_cases hi : i < w.heap.size
      · rw [if_pos hi]
        have := h.block i hi
        simpa using this.symm
      · rw [if_neg hi]
        simp
        omega
    simp only [Array.toList_append]
    rw [this, List.take_append_drop]
  obtain ⟨t, o, p⟩ := more_rest (w'.heap.toList.drop w.heap.size) w
  generalize more w (w'.heap.toList.drop w.heap.size) = m at *
  obtain ⟨h', t', d', o', p'⟩ := w'
  obtain ⟨hm, tm, dm, om, pm⟩ := m
  simp only [drawTo, World.mk.injEq] at *
  exact ⟨e1, h.tape.trans t.symm, trivial, h.os.trans o.symm, h.output.trans p.symm⟩

/-- Blocks more, whatever was drawn. -/
def Grown (w w' : World) : Prop := ∃ (os : List Obj) (d : Nat), w' = drawTo (more w os) d
theorem Grown.refl (w : World) : Grown w w := ⟨[], w.drawn, rfl⟩
theorem Grown.alloc {a w : World} (h : Grown a w) (o : Obj) : Grown a (w.alloc o) := by
  obtain ⟨os, n, rfl⟩ := h
  exact ⟨os ++ [o], n, by rw [more_snoc]; rfl⟩
theorem Grown.drawTo {a w : World} (h : Grown a w) (m : Nat) : Grown a (drawTo w m) := by
  obtain ⟨os, n, rfl⟩ := h
  exact ⟨os, m, rfl⟩
theorem Grown.drewN {a w : World} (h : Grown a w) (m : Nat) : Grown a (w.drewN m) := by
  obtain ⟨os, n, rfl⟩ := h
  exact ⟨os, n + m, rfl⟩
theorem Grown.drew {a w : World} (h : Grown a w) : Grown a w.drew := h.drewN 1
theorem Grown.trans {a b c : World} (h : Grown a b) (k : Grown b c) : Grown a c := by
  obtain ⟨os, n, rfl⟩ := h
  obtain ⟨ps, m, rfl⟩ := k
  exact ⟨os ++ ps, m, by rw [more_drawTo, more_more]; rfl⟩
theorem Grown.more {a w : World} (h : Grown a w) (os : List Obj) : Grown a (more w os) := h.trans ⟨os, (Proofs.YtgapmofhnjfdiaaGreatDoor.more w os).drawn, rfl⟩
theorem Grown.below {w w' : World} (h : Grown w w') : Below w.heap.size w w' := by
  obtain ⟨os, n, rfl⟩ := h
  have := more_below os w w _ (Below.refl _ _) (Nat.le_refl _)
  exact ⟨this.os, this.tape, this.output, this.size, this.block⟩
end Go.Proofs.YtgapmofhnjfdiaaGreatDoor

namespace Go.Proofs.YtgapmofhnjfdiaaGreatDoor
open Go.RowKit Go.Shelf
attribute [local go_sem] cell?_more frozen?_more setCell_more more_lt more_more more_drew more_drewN setCell_drewN alloc_drewN

set_option maxHeartbeats 1000000 in
theorem qall_any (ao : Option Addr) (cap : Nat) (l : List Va) (w : World) (hT : Tabs w) (hv : Vs w ao l) (hl : l.length ≤ 9223372036854775807) :
    Calls Tryz.prog 76 #[.slice ao l.length cap] w fun e w' => e = .returned (.bool (l.all vr)) ∧ Below w.heap.size w w' := by
  obtain ⟨E, hE⟩ : ∃ E, E = l.all vr := ⟨_, rfl⟩
  rw [← hE]
  have HE : Hid (E = l.all vr) := hE
  obtain ⟨n, hn⟩ : ∃ n, l.length = n := ⟨_, rfl⟩
  rw [hn] at hl ⊢
  have HN : Hid (l.length = n) := hn
  clear hE hn
  go_enter Tryz.func76, Tryz.ntmps76
  go_wp2
  go_loopw [7] (fun r wr => ∃ k : Nat, r = .int .i64 (k : Int) ∧ k ≤ n ∧ Below w.heap.size w wr ∧ Hid (∀ i (h : i < l.length), i < k → vr l[i] = true)) (fun r _ => n - (intOf r).toNat)
  case atStart => exact ⟨0, rfl, Nat.zero_le _, Below.refl _ _, fun i _ h => by omega⟩
  case round =>
    obtain ⟨k, rfl, hk, hB, hA⟩ := hrel
    have sB := hB.size
    by_cases hlt : k < n
    · have hlt' : (k : Int) < (n : Int) := by omega
      have hkl : k < l.length := by rw [HN.out]; exact hlt
      obtain ⟨b, off, rfl, hc⟩ := hv (by omega)
      obtain ⟨c0, c1, c2, c3⟩ := ((hc k (by omega)).later hB)
      have hg := (hc k (by omega)).lt
      have hg' : b < wr.heap.size := by omega
      have hT' := hT.later hB
      have R : ∀ W, Grew wr W → Calls Tryz.prog 42 #[vv l[k]] W fun e w' => e = .returned (.bool (vr l[k])) ∧ Below W.heap.size W w' := fun W h => vright_any _ _ _ _ W (hT'.later h.below)
      obtain ⟨⟨vk, vn, vm, vb⟩, he⟩ : ∃ v : Va, v = l[k] := ⟨_, rfl⟩
      rw [← he] at c0 c1 c2 c3 R
      have HV : Hid (Va.mk vk vn vm vb = l[k]) := he
      clear hc hT' hT he
      cases hvr : vr ⟨vk, vn, vm, vb⟩
      · rw [hvr] at R
        go_wp2_with (go_at_call 42; refine (R _ (by repeat (first | exact Grew.refl _ | apply Grew.drew | apply Grew.drewN | apply Grew.alloc | apply Grew.more))).mono ?_; rintro e w2 ⟨rfl, hb2⟩)
        go_ret
        have hall : (l.all vr) = false := by
          rw [List.all_eq_false]
          exact ⟨l[k]'(by have := HN.out; omega), List.getElem_mem _, by rw [← HV.out, hvr]; simp⟩
        refine ⟨by rw [HE.out, hall]; rfl, ?_⟩
        exact hB.trans ((Below.mono (below_trans (Grew.below (by repeat (first | exact Grew.refl _ | apply Grew.drew | apply Grew.drewN | apply Grew.alloc | apply Grew.more))) hb2)) sB)
      · rw [hvr] at R
        go_wp2_with (go_at_call 42; refine (R _ (by repeat (first | exact Grew.refl _ | apply Grew.drew | apply Grew.drewN | apply Grew.alloc | apply Grew.more))).mono ?_; rintro e w2 ⟨rfl, hb2⟩)
        go_roundw
        case rel =>
          refine ⟨k + 1, by go_num, by omega, hB.trans ((Below.mono (below_trans (Grew.below (by repeat (first | exact Grew.refl _ | apply Grew.drew | apply Grew.drewN | apply Grew.alloc | apply Grew.more))) hb2)) sB), fun i hi hik => ?_⟩
          by_cases h : i < k
          · exact hA.out i hi h
          · have : i = k := by omega
            subst this
            rw [← HV.out, hvr]
        case measure => simp [intOf]; omega
    · have hlt' : ¬ (k : Int) < (n : Int) := by omega
      go_wp2
      go_ret
      have hall : (l.all vr) = true := by
        rw [List.all_eq_true]
        intro v hv'
        obtain ⟨i, hi, rfl⟩ := List.getElem_of_mem hv'
        exact hA.out i hi (by have := HN.out; omega)
      exact ⟨by rw [HE.out, hall]; rfl, hB⟩

/-- Is it the value Null? -/
def zq (x : Va) : Bool := eqv 0 0 0 ⟨#[]⟩ x.k x.n x.m ⟨x.b.toArray⟩

theorem cstq (k : Nat) : ((k + 1 : Nat) : Int) = (k : Int) + 1 := by omega

set_option maxHeartbeats 1000000 in
theorem qidx_any (ao : Option Addr) (cap : Nat) (l : List Va) (w : World) (hv : Vs w ao l) (hn : l.length ≤ 140737488351232) :
    Calls Tryz.prog 143 #[.slice ao l.length cap, va 0 0 0 ⟨#[]⟩] w fun e w' => (∃ i : Int, e = .returned (.int .i64 i) ∧ decide (0 ≤ i) = l.any zq) ∧ Below w.heap.size w w' := by
  obtain ⟨R, hR⟩ : ∃ R, R = l.any zq := ⟨_, rfl⟩
  rw [← hR]
  have HR : Hid (R = (l.drop 0).any zq) := hR
  clear hR
  obtain ⟨n, hnn⟩ : ∃ n, l.length = n := ⟨_, rfl⟩
  rw [hnn] at hn ⊢
  have HN : Hid (l.length = n) := hnn
  clear hnn
  go_enter Tryz.func143, Tryz.ntmps143
  go_wp2
  go_loopw [8] (fun r wr => ∃ k : Nat, r = .int .i64 (k : Int) ∧ k ≤ n ∧ Box wr w.heap.size nul ∧ Below w.heap.size w wr ∧ Hid (R = (l.drop k).any zq)) (fun r _ => n - (intOf r).toNat)
  case atStart => exact ⟨0, rfl, Nat.zero_le _, Box.new w 0 0 0 [], (Below.refl _ w).alloc (Nat.le_refl _) _, HR⟩
  case round =>
    obtain ⟨k, rfl, hk, hc, hb, hH⟩ := hrel
    have sB := hb.size
    by_cases hlt : k < n
    · have hlt' : (k : Int) < (n : Int) := by omega
      have k0 : (0 : Int) ≤ (k : Int) := by omega
      have hkl : k < l.length := by rw [HN.out]; exact hlt
      obtain ⟨b, off, rfl, hcl⟩ := hv (by omega)
      obtain ⟨c0, c1, c2, c3⟩ := ((hcl k hkl).later hb)
      have hg := (hcl k hkl).lt
      have hg' : b < wr.heap.size := by omega
      have hdr : l.drop k = l[k] :: l.drop (k + 1) := List.drop_eq_getElem_cons hkl
      obtain ⟨x, he⟩ : ∃ x : Va, x = l[k] := ⟨_, rfl⟩
      rw [← he] at c0 c1 c2 c3 hdr
      have HST : Hid (R = (zq x || (l.drop (k + 1)).any zq)) := by
        show R = _
        rw [hH.out, hdr]; rfl
      obtain ⟨xk, xn, xm, xb⟩ := x
      have eqx : ∀ W, (Op.equalIn 10000 30 (va 0 0 0 ⟨#[]⟩) (va xk xn xm ⟨xb.toArray⟩)).run Tryz.prog W = .ok (zq ⟨xk, xn, xm, xb⟩) W := fun W => eqVb 0 0 0 xk xn xm ⟨#[]⟩ ⟨xb.toArray⟩ W
      generalize zq ⟨xk, xn, xm, xb⟩ = q at eqx HST
      obtain ⟨z0, z1, z2, z3⟩ := hc.at4
      have zl := hc.lt
      have HC : Hid (Box wr w.heap.size nul) := hc
      dsimp only [nul] at z0 z1 z2 z3
      simp only [Nat.zero_add] at z1 z2 z3
      clear hdr he hcl hH HR hc
      cases q with
      | true =>
        go_wp2
        go_region
        all_goals go_wp2
        all_goals go_ret
        all_goals exact ⟨⟨(k : Int), rfl, by rw [HST.out]; simp⟩, by first | exact hb | exact hb.drew⟩
      | false =>
        have HF : Hid (R = (l.drop (k + 1)).any zq) := by show R = _; rw [HST.out, Bool.false_or]
        go_wp2
        go_region
        all_goals go_wp2
        all_goals exact ⟨⟨k + 1, by rw [cstq], by omega, HC.out, by first | exact hb | exact hb.drew, HF⟩, by simp [intOf]; omega⟩
    · have hlt' : ¬ (k : Int) < (n : Int) := by omega
      have HF : Hid (R = false) := by
        show R = false
        rw [hH.out, List.drop_eq_nil_of_le (by rw [HN.out]; omega)]; rfl
      clear hH HR hc
      go_wp2
      go_ret
      exact ⟨⟨-1, rfl, by rw [HF.out]; rfl⟩, hb⟩

theorem qcont_any (ao : Option Addr) (cap : Nat) (l : List Va) (w : World) (hv : Vs w ao l) (hn : l.length ≤ 140737488351232) :
    Calls Tryz.prog 79 #[.slice ao l.length cap, va 0 0 0 ⟨#[]⟩] w fun e w' => e = .returned (.bool (l.any zq)) ∧ Below w.heap.size w w' := by
  have I : ∀ W, Below w.heap.size w W → _ := fun W h => qidx_any ao cap l W (hv.later h) hn
  have A0 := (Below.refl w.heap.size w).alloc (Nat.le_refl _) (.cells #[.int .i64 0, .int .i64 0, .int .i64 0, .string ⟨#[]⟩] 30)
  clear hv
  generalize l.any zq = q at *
  generalize l.length = n at *
  go_enter Tryz.func79, Tryz.ntmps79
  go_wp2_with fail
  refine (I _ (by first | exact A0 | exact Below.refl _ _)).mono ?_
  rintro e w1 ⟨⟨i, rfl, hi⟩, b1⟩
  have HI : Hid (decide (0 ≤ i) = q) := hi
  clear hi I
  go_wp2
  go_ret
  exact ⟨by rw [← HI.out]; rfl, by first | exact A0.trans (b1.mono A0.size) | exact b1⟩
end Go.Proofs.YtgapmofhnjfdiaaGreatDoor
