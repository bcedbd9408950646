/-
  The document's answers for eval: the smallest functions.
-/
import Derived.Test.YtnpdecbgakgbgaaGreatDoorMtQTells
namespace Go.Proofs.YtnpdecbgakgbgaaGreatDoor
open Go.RowKit Go.Shelf
attribute [local go_sem] cell?_more frozen?_more setCell_more more_lt more_more more_drew more_drewN setCell_drewN alloc_drewN

theorem rnumber7_any (k n m : Int) (b : ByteArray) (w : World) : Calls Tryz.prog 62 #[va k n m b] w fun e w' => e = .returned (.bool (k == 1 || k == 2)) ∧ Grew w w' := by
  by_cases h : k = 1
  · subst h
    go_enter Tryz.func62, Tryz.ntmps62
    go_wp2
    all_goals go_ret
    all_goals exact ⟨rfl, by repeat (first | exact Grew.refl _ | apply Grew.drew | apply Grew.drewN | apply Grew.alloc | apply Grew.more)⟩
  · have h' : (k == 1) = false := by simpa using h
    rw [h', Bool.false_or]
    go_enter Tryz.func62, Tryz.ntmps62
    go_wp2
    all_goals go_ret
    all_goals exact ⟨rfl, by repeat (first | exact Grew.refl _ | apply Grew.drew | apply Grew.drewN | apply Grew.alloc | apply Grew.more)⟩

theorem rdec7_any (k n m : Int) (b : ByteArray) (w : World) : Calls Tryz.prog 44 #[va k n m b] w fun e w' => e = .returned (dv n m) ∧ Grew w w' := by
  go_enter Tryz.func44, Tryz.ntmps44
  go_wp2
  refine bodyPost_ret_by (v := dv n m) ?_ rfl ⟨rfl, ?_⟩
  · simp [results, Tryz.results44, go_sem]
  · repeat (first | exact Grew.refl _ | apply Grew.drew | apply Grew.drewN | apply Grew.alloc | apply Grew.more)

theorem rpoint7_any (k n m : Int) (b : ByteArray) (w : World) : Calls Tryz.prog 49 #[va k n m b] w fun e w' => e = .returned (dv n m) ∧ Grew w w' := by
  go_enter Tryz.func49, Tryz.ntmps49
  go_wp2
  refine bodyPost_ret_by (v := dv n m) ?_ rfl ⟨rfl, ?_⟩
  · simp [results, Tryz.results49, go_sem]
  · repeat (first | exact Grew.refl _ | apply Grew.drew | apply Grew.drewN | apply Grew.alloc | apply Grew.more)

theorem rofInt_any (n x : Int) (w : World) : Calls Tryz.prog 45 #[.int .i64 n, .int .i64 x] w fun e w' => e = .returned (rs (wholeR n x)) ∧ Grew w w' := by
  unfold wholeR
  by_cases h : x = 0
  · subst h
    rw [if_pos rfl]
    go_enter Tryz.func45, Tryz.ntmps45
    go_wp2
    refine bodyPost_ret_by (v := rs (vI n, 0)) ?_ rfl ⟨rfl, ?_⟩
    · simp [results, Tryz.results45, go_sem, vI]
    · repeat (first | exact Grew.refl _ | apply Grew.drew | apply Grew.drewN | apply Grew.alloc | apply Grew.more)
  · rw [if_neg h]
    have h' : (x == 0) = false := by simpa using h
    go_enter Tryz.func45, Tryz.ntmps45
    go_wp2
    refine bodyPost_ret_by (v := rs (nul, x)) ?_ rfl ⟨rfl, ?_⟩
    · simp [results, Tryz.results45, go_sem, nul]
    · repeat (first | exact Grew.refl _ | apply Grew.drew | apply Grew.drewN | apply Grew.alloc | apply Grew.more)

theorem rofDec_any (u s x : Int) (w : World) : Calls Tryz.prog 46 #[dv u s, .int .i64 x] w fun e w' => e = .returned (rs (exactR u s x)) ∧ Grew w w' := by
  unfold exactR
  by_cases h : x = 0
  · subst h
    rw [if_pos rfl]
    go_enter Tryz.func46, Tryz.ntmps46
    go_wp2
    refine bodyPost_ret_by (v := rs (vD u s, 0)) ?_ rfl ⟨rfl, ?_⟩
    · simp [results, Tryz.results46, go_sem, vD]
    · repeat (first | exact Grew.refl _ | apply Grew.drew | apply Grew.drewN | apply Grew.alloc | apply Grew.more)
  · rw [if_neg h]
    have h' : (x == 0) = false := by simpa using h
    go_enter Tryz.func46, Tryz.ntmps46
    go_wp2
    refine bodyPost_ret_by (v := rs (nul, x)) ?_ rfl ⟨rfl, ?_⟩
    · simp [results, Tryz.results46, go_sem, nul]
    · repeat (first | exact Grew.refl _ | apply Grew.drew | apply Grew.drewN | apply Grew.alloc | apply Grew.more)

theorem rofPoint_any (u s x : Int) (w : World) : Calls Tryz.prog 47 #[dv u s, .int .i64 x] w fun e w' => e = .returned (rs (placedR u s x)) ∧ Grew w w' := by
  unfold placedR
  by_cases h : x = 0
  · subst h
    rw [if_pos rfl]
    go_enter Tryz.func47, Tryz.ntmps47
    go_wp2
    refine bodyPost_ret_by (v := rs (vP u s, 0)) ?_ rfl ⟨rfl, ?_⟩
    · simp [results, Tryz.results47, go_sem, vP]
    · repeat (first | exact Grew.refl _ | apply Grew.drew | apply Grew.drewN | apply Grew.alloc | apply Grew.more)
  · rw [if_neg h]
    have h' : (x == 0) = false := by simpa using h
    go_enter Tryz.func47, Tryz.ntmps47
    go_wp2
    refine bodyPost_ret_by (v := rs (nul, x)) ?_ rfl ⟨rfl, ?_⟩
    · simp [results, Tryz.results47, go_sem, nul]
    · repeat (first | exact Grew.refl _ | apply Grew.drew | apply Grew.drewN | apply Grew.alloc | apply Grew.more)

theorem rtruth7_any (b : Bool) (w : World) : Calls Tryz.prog 63 #[.bool b] w fun e w' => e = .returned (vv (vB b)) ∧ Grew w w' := by
  have O1 : ∀ W, Calls Tryz.prog 40 #[.int .i64 1] W fun e w' => e = .returned (va 4 1 0 ⟨#[]⟩) ∧ Grew W w' := fun W => rof_any 1 W
  have O0 : ∀ W, Calls Tryz.prog 40 #[.int .i64 0] W fun e w' => e = .returned (va 4 0 0 ⟨#[]⟩) ∧ Grew W w' := fun W => rof_any 0 W
  cases b
  · go_enter Tryz.func63, Tryz.ntmps63
    go_wp2_with (first
      | (go_at_call_of 40 (Value.int IntKind.i64 1); refine (O1 _).mono ?_; rintro e w1 ⟨rfl, os1, n1, rfl⟩)
      | (go_at_call_of 40 (Value.int IntKind.i64 0); refine (O0 _).mono ?_; rintro e w1 ⟨rfl, os1, n1, rfl⟩))
    refine bodyPost_ret_by (v := vv (vB false)) ?_ rfl ⟨rfl, ?_⟩
    · simp [results, Tryz.results63, go_sem, vB]
    · repeat (first | exact Grew.refl _ | apply Grew.drew | apply Grew.drewN | apply Grew.alloc | apply Grew.more)
  · go_enter Tryz.func63, Tryz.ntmps63
    go_wp2_with (first
      | (go_at_call_of 40 (Value.int IntKind.i64 1); refine (O1 _).mono ?_; rintro e w1 ⟨rfl, os1, n1, rfl⟩)
      | (go_at_call_of 40 (Value.int IntKind.i64 0); refine (O0 _).mono ?_; rintro e w1 ⟨rfl, os1, n1, rfl⟩))
    refine bodyPost_ret_by (v := vv (vB true)) ?_ rfl ⟨rfl, ?_⟩
    · simp [results, Tryz.results63, go_sem, vB]
    · repeat (first | exact Grew.refl _ | apply Grew.drew | apply Grew.drewN | apply Grew.alloc | apply Grew.more)

theorem rnull7_any (k n m : Int) (b : ByteArray) (w : World) : Calls Tryz.prog 39 #[va k n m b] w fun e w' => e = .returned (.bool (k == 0)) ∧ Grew w w' := by
  go_enter Tryz.func39, Tryz.ntmps39
  go_wp2
  all_goals go_ret
  all_goals exact ⟨rfl, (by repeat (first | assumption | exact Grew.refl _ | apply Grew.drew | apply Grew.drewN | apply Grew.alloc | apply Grew.more))⟩

/-- Does a comparison hold of two that stand so? -/
def hb7 (op c : Int) : Bool := if op = 11 then c == 0 else if op = 12 then !(c == 0) else if op = 13 then decide (c < 0) else if op = 14 then decide (c ≤ 0) else if op = 15 then decide (c > 0) else decide (c ≥ 0)
theorem cmpR_hb (op c : Int) (h1 : 11 ≤ op) (h2 : op ≤ 16) : cmpR op c = (vB (hb7 op c), 0) := by
  unfold cmpR hb7
  split
  · rfl
  split
  · rfl
  split
  · rfl
  split
  · rfl
  split
  · rfl
  split
  · rfl
  · omega

theorem rholds_any (op c : Int) (w : World) : Calls Tryz.prog 64 #[.int .i64 op, .int .i64 c] w fun e w' => e = .returned (.bool (hb7 op c)) ∧ w = w' := by
  unfold hb7
  by_cases h11 : op = 11
  · subst h11
    rw [if_pos rfl]
    go_enter Tryz.func64, Tryz.ntmps64
    go_wp2
    go_ret
    exact ⟨rfl, rfl⟩
  have c11 : (op == 11) = false := by simpa using h11
  by_cases h12 : op = 12
  · subst h12
    rw [if_neg (by decide), if_pos rfl]
    go_enter Tryz.func64, Tryz.ntmps64
    go_wp2
    go_ret
    exact ⟨rfl, rfl⟩
  have c12 : (op == 12) = false := by simpa using h12
  by_cases h13 : op = 13
  · subst h13
    rw [if_neg (by decide), if_neg (by decide), if_pos rfl]
    go_enter Tryz.func64, Tryz.ntmps64
    go_wp2
    go_ret
    exact ⟨rfl, rfl⟩
  have c13 : (op == 13) = false := by simpa using h13
  by_cases h14 : op = 14
  · subst h14
    rw [if_neg (by decide), if_neg (by decide), if_neg (by decide), if_pos rfl]
    go_enter Tryz.func64, Tryz.ntmps64
    go_wp2
    go_ret
    exact ⟨rfl, rfl⟩
  have c14 : (op == 14) = false := by simpa using h14
  by_cases h15 : op = 15
  · subst h15
    rw [if_neg (by decide), if_neg (by decide), if_neg (by decide), if_neg (by decide), if_pos rfl]
    go_enter Tryz.func64, Tryz.ntmps64
    go_wp2
    go_ret
    exact ⟨rfl, rfl⟩
  have c15 : (op == 15) = false := by simpa using h15
  rw [if_neg h11, if_neg h12, if_neg h13, if_neg h14, if_neg h15]
  go_enter Tryz.func64, Tryz.ntmps64
  go_wp2
  go_ret
  exact ⟨rfl, rfl⟩
end Go.Proofs.YtnpdecbgakgbgaaGreatDoor
