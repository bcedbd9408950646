/-
  The smallest functions of package eval.
  What a call gives in every later world; three boxes.
-/
import Derived.Test.YtnpdecbgakgbgaaGreatDoorMyQJump
namespace Go.Proofs.YtnpdecbgakgbgaaGreatDoor
open Go.RowKit Go.Shelf
attribute [local go_sem] cell?_more frozen?_more setCell_more more_lt more_more more_drew more_drewN setCell_drewN alloc_drewN

theorem qnumber_any (k n m : Int) (b : ByteArray) (w : World) : Calls Tryz.prog 52 #[va k n m b] w fun e w' => e = .returned (.bool (k == 1 || k == 2)) ∧ Grew w w' := by
  by_cases h : k = 1
  · subst h
    go_enter Tryz.func52, Tryz.ntmps52
    go_wp2
    all_goals go_ret
    all_goals exact ⟨rfl, by repeat (first | exact Grew.refl _ | apply Grew.drew | apply Grew.drewN | apply Grew.alloc | apply Grew.more)⟩
  · have h' : (k == 1) = false := by simpa using h
    rw [h', Bool.false_or]
    go_enter Tryz.func52, Tryz.ntmps52
    go_wp2
    all_goals go_ret
    all_goals exact ⟨rfl, by repeat (first | exact Grew.refl _ | apply Grew.drew | apply Grew.drewN | apply Grew.alloc | apply Grew.more)⟩

theorem qunits_any (k n m : Int) (b : ByteArray) (w : World) : Calls Tryz.prog 54 #[va k n m b] w fun e w' => e = .returned (dv n m) ∧ Grew w w' := by
  go_enter Tryz.func54, Tryz.ntmps54
  go_wp2
  refine bodyPost_ret_by (v := dv n m) ?_ rfl ⟨rfl, ?_⟩
  · simp [results, Tryz.results54, go_sem]
  · repeat (first | exact Grew.refl _ | apply Grew.drew | apply Grew.drewN | apply Grew.alloc | apply Grew.more)

theorem qpoint_any (k n m : Int) (b : ByteArray) (w : World) : Calls Tryz.prog 99 #[va k n m b] w fun e w' => e = .returned (dv n m) ∧ Grew w w' := by
  go_enter Tryz.func99, Tryz.ntmps99
  go_wp2
  refine bodyPost_ret_by (v := dv n m) ?_ rfl ⟨rfl, ?_⟩
  · simp [results, Tryz.results99, go_sem]
  · repeat (first | exact Grew.refl _ | apply Grew.drew | apply Grew.drewN | apply Grew.alloc | apply Grew.more)

theorem qtruth_any (b : Bool) (w : World) : Calls Tryz.prog 36 #[.bool b] w fun e w' => e = .returned (vv (vB b)) ∧ Grew w w' := by
  have O1 : ∀ W, Calls Tryz.prog 90 #[.int .i64 1] W fun e w' => e = .returned (va 4 1 0 ⟨#[]⟩) ∧ Grew W w' := fun W => of_any 1 W
  have O0 : ∀ W, Calls Tryz.prog 90 #[.int .i64 0] W fun e w' => e = .returned (va 4 0 0 ⟨#[]⟩) ∧ Grew W w' := fun W => of_any 0 W
  cases b
  · go_enter Tryz.func36, Tryz.ntmps36
    go_wp2_with (first
      | (go_at_call_of 90 (Value.int IntKind.i64 1); refine (O1 _).mono ?_; rintro e w1 ⟨rfl, os1, n1, rfl⟩)
      | (go_at_call_of 90 (Value.int IntKind.i64 0); refine (O0 _).mono ?_; rintro e w1 ⟨rfl, os1, n1, rfl⟩))
    refine bodyPost_ret_by (v := vv (vB false)) ?_ rfl ⟨rfl, ?_⟩
    · simp [results, Tryz.results36, go_sem, vB]
    · repeat (first | exact Grew.refl _ | apply Grew.drew | apply Grew.drewN | apply Grew.alloc | apply Grew.more)
  · go_enter Tryz.func36, Tryz.ntmps36
    go_wp2_with (first
      | (go_at_call_of 90 (Value.int IntKind.i64 1); refine (O1 _).mono ?_; rintro e w1 ⟨rfl, os1, n1, rfl⟩)
      | (go_at_call_of 90 (Value.int IntKind.i64 0); refine (O0 _).mono ?_; rintro e w1 ⟨rfl, os1, n1, rfl⟩))
    refine bodyPost_ret_by (v := vv (vB true)) ?_ rfl ⟨rfl, ?_⟩
    · simp [results, Tryz.results36, go_sem, vB]
    · repeat (first | exact Grew.refl _ | apply Grew.drew | apply Grew.drewN | apply Grew.alloc | apply Grew.more)

theorem qwhole_any (n x : Int) (w : World) : Calls Tryz.prog 93 #[.int .i64 n, .int .i64 x] w fun e w' => e = .returned (rs (wholeR n x)) ∧ Grew w w' := by
  unfold wholeR
  by_cases h : x = 0
  · subst h
    rw [if_pos rfl]
    go_enter Tryz.func93, Tryz.ntmps93
    go_wp2
    refine bodyPost_ret_by (v := rs (vI n, 0)) ?_ rfl ⟨rfl, ?_⟩
    · simp [results, Tryz.results93, go_sem, vI]
    · repeat (first | exact Grew.refl _ | apply Grew.drew | apply Grew.drewN | apply Grew.alloc | apply Grew.more)
  · rw [if_neg h]
    have h' : (x == 0) = false := by simpa using h
    go_enter Tryz.func93, Tryz.ntmps93
    go_wp2
    refine bodyPost_ret_by (v := rs (nul, x)) ?_ rfl ⟨rfl, ?_⟩
    · simp [results, Tryz.results93, go_sem, nul]
    · repeat (first | exact Grew.refl _ | apply Grew.drew | apply Grew.drewN | apply Grew.alloc | apply Grew.more)

theorem qexact_any (u s x : Int) (w : World) : Calls Tryz.prog 95 #[dv u s, .int .i64 x] w fun e w' => e = .returned (rs (exactR u s x)) ∧ Grew w w' := by
  unfold exactR
  by_cases h : x = 0
  · subst h
    rw [if_pos rfl]
    go_enter Tryz.func95, Tryz.ntmps95
    go_wp2
    refine bodyPost_ret_by (v := rs (vD u s, 0)) ?_ rfl ⟨rfl, ?_⟩
    · simp [results, Tryz.results95, go_sem, vD]
    · repeat (first | exact Grew.refl _ | apply Grew.drew | apply Grew.drewN | apply Grew.alloc | apply Grew.more)
  · rw [if_neg h]
    have h' : (x == 0) = false := by simpa using h
    go_enter Tryz.func95, Tryz.ntmps95
    go_wp2
    refine bodyPost_ret_by (v := rs (nul, x)) ?_ rfl ⟨rfl, ?_⟩
    · simp [results, Tryz.results95, go_sem, nul]
    · repeat (first | exact Grew.refl _ | apply Grew.drew | apply Grew.drewN | apply Grew.alloc | apply Grew.more)

theorem qplaced_any (u s x : Int) (w : World) : Calls Tryz.prog 97 #[dv u s, .int .i64 x] w fun e w' => e = .returned (rs (placedR u s x)) ∧ Grew w w' := by
  unfold placedR
  by_cases h : x = 0
  · subst h
    rw [if_pos rfl]
    go_enter Tryz.func97, Tryz.ntmps97
    go_wp2
    refine bodyPost_ret_by (v := rs (vP u s, 0)) ?_ rfl ⟨rfl, ?_⟩
    · simp [results, Tryz.results97, go_sem, vP]
    · repeat (first | exact Grew.refl _ | apply Grew.drew | apply Grew.drewN | apply Grew.alloc | apply Grew.more)
  · rw [if_neg h]
    have h' : (x == 0) = false := by simpa using h
    go_enter Tryz.func97, Tryz.ntmps97
    go_wp2
    refine bodyPost_ret_by (v := rs (nul, x)) ?_ rfl ⟨rfl, ?_⟩
    · simp [results, Tryz.results97, go_sem, nul]
    · repeat (first | exact Grew.refl _ | apply Grew.drew | apply Grew.drewN | apply Grew.alloc | apply Grew.more)

theorem qcompared_any (op c : Int) (w : World) : Calls Tryz.prog 57 #[.int .i64 op, .int .i64 c] w fun e w' => e = .returned (rs (cmpR op c)) ∧ Grew w w' := by
  have T := fun b W => qtruth_any b W
  unfold cmpR
  by_cases h11 : op = 11
  · subst h11
    rw [if_pos rfl]
    go_enter Tryz.func57, Tryz.ntmps57
    go_wp2_with (go_at_call 36; refine (T (c == 0) _).mono ?_; rintro e w1 ⟨rfl, os1, n1, rfl⟩)
    refine bodyPost_ret_by (v := rs (vB (c == 0), 0)) ?_ rfl ⟨rfl, ?_⟩
    · simp [results, Tryz.results57, go_sem]
    · repeat (first | exact Grew.refl _ | apply Grew.drew | apply Grew.drewN | apply Grew.alloc | apply Grew.more)
  have c11 : (op == 11) = false := by simpa using h11
  by_cases h12 : op = 12
  · subst h12
    rw [if_neg (by decide), if_pos rfl]
    go_enter Tryz.func57, Tryz.ntmps57
    go_wp2_with (go_at_call 36; refine (T (!(c == 0)) _).mono ?_; rintro e w1 ⟨rfl, os1, n1, rfl⟩)
    refine bodyPost_ret_by (v := rs (vB (!(c == 0)), 0)) ?_ rfl ⟨rfl, ?_⟩
    · simp [results, Tryz.results57, go_sem]
    · repeat (first | exact Grew.refl _ | apply Grew.drew | apply Grew.drewN | apply Grew.alloc | apply Grew.more)
  have c12 : (op == 12) = false := by simpa using h12
  by_cases h13 : op = 13
  · subst h13
    rw [if_neg (by decide), if_neg (by decide), if_pos rfl]
    go_enter Tryz.func57, Tryz.ntmps57
    go_wp2_with (go_at_call 36; refine (T (decide (c < 0)) _).mono ?_; rintro e w1 ⟨rfl, os1, n1, rfl⟩)
    refine bodyPost_ret_by (v := rs (vB (decide (c < 0)), 0)) ?_ rfl ⟨rfl, ?_⟩
    · simp [results, Tryz.results57, go_sem]
    · repeat (first | exact Grew.refl _ | apply Grew.drew | apply Grew.drewN | apply Grew.alloc | apply Grew.more)
  have c13 : (op == 13) = false := by simpa using h13
  by_cases h14 : op = 14
  · subst h14
    rw [if_neg (by decide), if_neg (by decide), if_neg (by decide), if_pos rfl]
    go_enter Tryz.func57, Tryz.ntmps57
    go_wp2_with (go_at_call 36; refine (T (decide (c ≤ 0)) _).mono ?_; rintro e w1 ⟨rfl, os1, n1, rfl⟩)
    refine bodyPost_ret_by (v := rs (vB (decide (c ≤ 0)), 0)) ?_ rfl ⟨rfl, ?_⟩
    · simp [results, Tryz.results57, go_sem]
    · repeat (first | exact Grew.refl _ | apply Grew.drew | apply Grew.drewN | apply Grew.alloc | apply Grew.more)
  have c14 : (op == 14) = false := by simpa using h14
  by_cases h15 : op = 15
  · subst h15
    rw [if_neg (by decide), if_neg (by decide), if_neg (by decide), if_neg (by decide), if_pos rfl]
    go_enter Tryz.func57, Tryz.ntmps57
    go_wp2_with (go_at_call 36; refine (T (decide (c > 0)) _).mono ?_; rintro e w1 ⟨rfl, os1, n1, rfl⟩)
    refine bodyPost_ret_by (v := rs (vB (decide (c > 0)), 0)) ?_ rfl ⟨rfl, ?_⟩
    · simp [results, Tryz.results57, go_sem]
    · repeat (first | exact Grew.refl _ | apply Grew.drew | apply Grew.drewN | apply Grew.alloc | apply Grew.more)
  have c15 : (op == 15) = false := by simpa using h15
  by_cases h16 : op = 16
  · subst h16
    rw [if_neg (by decide), if_neg (by decide), if_neg (by decide), if_neg (by decide), if_neg (by decide), if_pos rfl]
    go_enter Tryz.func57, Tryz.ntmps57
    go_wp2_with (go_at_call 36; refine (T (decide (c ≥ 0)) _).mono ?_; rintro e w1 ⟨rfl, os1, n1, rfl⟩)
    refine bodyPost_ret_by (v := rs (vB (decide (c ≥ 0)), 0)) ?_ rfl ⟨rfl, ?_⟩
    · simp [results, Tryz.results57, go_sem]
    · repeat (first | exact Grew.refl _ | apply Grew.drew | apply Grew.drewN | apply Grew.alloc | apply Grew.more)
  have c16 : (op == 16) = false := by simpa using h16
  rw [if_neg h11, if_neg h12, if_neg h13, if_neg h14, if_neg h15, if_neg h16]
  clear T
  go_enter Tryz.func57, Tryz.ntmps57
  go_wp2
  refine bodyPost_ret_by (v := rs (nul, 31)) ?_ rfl ⟨rfl, ?_⟩
  · simp [results, Tryz.results57, go_sem, nul]
  · repeat (first | exact Grew.refl _ | apply Grew.drew | apply Grew.drewN | apply Grew.alloc | apply Grew.more)
end Go.Proofs.YtnpdecbgakgbgaaGreatDoor

namespace Go.Proofs.YtnpdecbgakgbgaaGreatDoor
open Go.RowKit Go.Shelf
attribute [local go_sem] cell?_more frozen?_more setCell_more more_lt more_more more_drew more_drewN setCell_drewN alloc_drewN


/-- A call gives this value in every world that has grown out of that one. -/
abbrev Tells (f : Nat) (args : Array Value) (w : World) (v : Value) : Prop := ∀ W : World, Below w.heap.size w W → Calls Tryz.prog f args W fun e w' => e = .returned v ∧ Below W.heap.size W w'
theorem Tells.later {f : Nat} {args : Array Value} {w w' : World} {v : Value} (h : Tells f args w v) (hb : Below w.heap.size w w') : Tells f args w' v := fun W hW => h W (below_trans hb hW)

theorem three_boxes (w : World) (a b : Va) : ∃ w0, w0 = (((w.alloc (.cells #[.int .i64 a.k, .int .i64 a.n, .int .i64 a.m, .string ⟨a.b.toArray⟩] 30)).alloc (.cells #[.int .i64 b.k, .int .i64 b.n, .int .i64 b.m, .string ⟨b.b.toArray⟩] 30)).alloc (.cells #[.int .i64 0, .int .i64 0, .int .i64 0, .string ⟨#[]⟩] 30)) ∧
    Box w0 w.heap.size a ∧ Box w0 (w.heap.size + 1) b ∧ Box w0 (w.heap.size + 1 + 1) nul ∧ Below w.heap.size w w0 := by
  obtain ⟨h1, h2, h3⟩ := two_boxes w a b
  refine ⟨_, rfl, h1.later ((Below.refl _ _).alloc (Nat.le_refl _) _), h2.later ((Below.refl _ _).alloc (Nat.le_refl _) _), ?_, h3.alloc (by simp; omega) _⟩
  have := Box.new (((w.alloc (.cells #[.int .i64 a.k, .int .i64 a.n, .int .i64 a.m, .string ⟨a.b.toArray⟩] 30)).alloc (.cells #[.int .i64 b.k, .int .i64 b.n, .int .i64 b.m, .string ⟨b.b.toArray⟩] 30))) 0 0 0 []
  simp only [World.size_alloc] at this
  exact this
end Go.Proofs.YtnpdecbgakgbgaaGreatDoor
