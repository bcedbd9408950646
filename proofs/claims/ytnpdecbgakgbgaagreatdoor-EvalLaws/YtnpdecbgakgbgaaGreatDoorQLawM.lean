/-
  Comparisons and their opposites; ops that can be turned round.
-/
import Derived.Test.YtnpdecbgakgbgaaGreatDoorQLaw
namespace Go.Proofs.YtnpdecbgakgbgaaGreatDoor
open Go.RowKit Go.Shelf

theorem bin_cmp (a b : Va) : (∃ e, ∀ op, 11 ≤ op → op ≤ 16 → binR op a b = (nul, e)) ∨ (∃ c, ∀ op, 11 ≤ op → op ≤ 16 → binR op a b = cmpR op c) := by
  by_cases hr : vr a = true ∧ vr b = true
  · by_cases hn : a.k = 0 ∨ b.k = 0
    · refine .inl ⟨0, fun op h1 h2 => ?_⟩
      unfold binR
      rw [if_neg (by simp [hr.1, hr.2]; omega), if_neg (by omega), if_pos hn]
    by_cases hi : a.k = 1 ∧ b.k = 1
    · refine .inr ⟨numc a.n b.n, fun op h1 h2 => ?_⟩
      unfold binR intsR
      rw [if_neg (by simp [hr.1, hr.2]; omega), if_neg (by omega), if_neg hn, if_pos hi, if_neg (by omega), if_neg (by omega), if_neg (by omega), if_neg (by omega), if_neg (by omega)]
    by_cases hm : isn a ∧ isn b
    · refine .inr ⟨numc (at6 a) (at6 b), fun op h1 h2 => ?_⟩
      unfold binR numsR
      rw [if_neg (by simp [hr.1, hr.2]; omega), if_neg (by omega), if_neg hn, if_neg hi, if_pos hm, if_neg (by omega), if_neg (by omega), if_neg (by omega), if_neg (by omega)]
    by_cases hp : a.k = 5 ∧ b.k = 5
    · refine .inr ⟨pcmp a b, fun op h1 h2 => ?_⟩
      unfold binR ptsR
      rw [if_neg (by simp [hr.1, hr.2]; omega), if_neg (by omega), if_neg hn, if_neg hi, if_neg hm, if_pos hp, if_neg (by omega), if_neg (by omega), if_neg (by omega), if_neg (by omega), if_neg (by omega)]
    by_cases ht : a.k = 3 ∧ b.k = 3
    · refine .inr ⟨pcmp a b, fun op h1 h2 => ?_⟩
      unfold binR txtR
      rw [if_neg (by simp [hr.1, hr.2]; omega), if_neg (by omega), if_neg hn, if_neg hi, if_neg hm, if_neg hp, if_pos ht, if_neg (by omega)]
    by_cases hb : a.k = 4 ∧ b.k = 4
    · refine .inr ⟨pcmp a b, fun op h1 h2 => ?_⟩
      unfold binR
      rw [if_neg (by simp [hr.1, hr.2]; omega), if_neg (by omega), if_neg hn, if_neg hi, if_neg hm, if_neg hp, if_neg ht, if_pos hb]
    · refine .inl ⟨31, fun op h1 h2 => ?_⟩
      unfold binR
      rw [if_neg (by simp [hr.1, hr.2]; omega), if_neg (by omega), if_neg hn, if_neg hi, if_neg hm, if_neg hp, if_neg ht, if_neg hb]
  · refine .inl ⟨1, fun op h1 h2 => ?_⟩
    unfold binR
    rw [if_pos (fun h => hr h.2.2)]

theorem vr_nul' : vr nul = true := vr_of (by simp [vok, nul])
theorem vr_bool (b : Bool) : vr (vB b) = true := vr_of (by cases b <;> simp [vok, vB])
theorem not_nul : unR 4 nul = (nul, 0) := by
  have t1 : tB nul = true := by
    show (vr nul && _) = true
    rw [vr_nul']; rfl
  have n1 : tN nul = 2 := by
    unfold tN truN
    rw [if_neg (by simp [nul])]
  unfold unR notR
  rw [if_neg (by simp [vr_nul']), if_neg (by decide), if_pos rfl, if_pos t1, n1]
  rfl
theorem not_bool (b : Bool) : unR 4 (vB b) = (vB (!b), 0) := by
  have t1 : tB (vB b) = true := by
    show (vr (vB b) && _) = true
    rw [vr_bool]; rfl
  have n1 : tN (vB b) = if b then 1 else 0 := by
    unfold tN truN
    rw [if_pos ⟨vr_bool b, rfl⟩]; rfl
  unfold unR notR
  rw [if_neg (by simp [vr_bool]), if_neg (by decide), if_pos rfl, if_pos t1, n1]
  cases b <;> rfl

theorem opp_bin (a b : Va) (p q : Int) (h : (p = 11 ∧ q = 12) ∨ (p = 13 ∧ q = 16) ∨ (p = 15 ∧ q = 14)) :
    (binR p a b).2 = (binR q a b).2 ∧ ((binR p a b).2 = 0 → unR 4 (binR p a b).1 = ((binR q a b).1, 0)) := by
  rcases bin_cmp a b with ⟨e, he⟩ | ⟨c, hc⟩
  · rw [he p (by omega) (by omega), he q (by omega) (by omega)]
    refine ⟨rfl, fun _ => not_nul⟩
  · rw [hc p (by omega) (by omega), hc q (by omega) (by omega)]
    rcases h with ⟨rfl, rfl⟩ | ⟨rfl, rfl⟩ | ⟨rfl, rfl⟩
    · exact ⟨rfl, fun _ => not_bool _⟩
    · refine ⟨rfl, fun _ => (not_bool _).trans ?_⟩
      show (vB (!decide (c < 0)), (0 : Int)) = (vB (decide (c ≥ 0)), 0)
      by_cases h : c < 0
      · rw [decide_eq_true h, decide_eq_false (by omega : ¬ c ≥ 0)]; rfl
      · rw [decide_eq_false h, decide_eq_true (by omega : c ≥ 0)]; rfl
    · refine ⟨rfl, fun _ => (not_bool _).trans ?_⟩
      show (vB (!decide (c > 0)), (0 : Int)) = (vB (decide (c ≤ 0)), 0)
      by_cases h : c > 0
      · rw [decide_eq_true h, decide_eq_false (by omega : ¬ c ≤ 0)]; rfl
      · rw [decide_eq_false h, decide_eq_true (by omega : c ≤ 0)]; rfl

theorem numc0 (a b : Int) : numc a b = 0 ↔ a = b := by unfold numc; split <;> (try split) <;> omega
theorem eq_turn (op x y : Int) (h : x = 0 ↔ y = 0) (h11 : op = 11) : cmpR op x = cmpR op y := by
  subst h11
  show (vB (x == 0), (0 : Int)) = (vB (y == 0), 0)
  by_cases hx : x = 0
  · rw [hx, h.1 hx]
  · rw [beq_eq_false_iff_ne.2 hx, beq_eq_false_iff_ne.2 (fun hy => hx (h.2 hy))]
theorem orr0 (a b : Int) : orr a b = 0 ↔ a = 0 ∧ b = 0 := by unfold orr; split <;> omega
theorem lexc0 (x y : List UInt8) : lexc x y = 0 ↔ x = y := by
  have := lexc_eq x y
  by_cases h : x = y
  · subst h
    rw [beq_self_eq_true] at this
    exact ⟨fun _ => rfl, fun _ => by simpa using this.symm⟩
  · rw [beq_eq_false_iff_ne.2 h] at this
    exact ⟨fun e => absurd e (by simpa using this.symm), fun e => absurd e h⟩
theorem pcmp_turn (a b : Va) (h : ¬ (isn a ∧ isn b)) : pcmp a b = 0 ↔ pcmp b a = 0 := by
  unfold pcmp
  rw [if_neg (fun h' => h ⟨h'.1, h'.2.1⟩), if_neg (fun h' => h ⟨h'.2.1, h'.1⟩)]
  simp only [orL, orr0, numc0, lexc0, and_true]
  constructor <;> (rintro ⟨h1, h2, h3, h4⟩; exact ⟨h1.symm, h2.symm, h3.symm, h4.symm⟩)
theorem gsc_turn (s t : Int) : gsc t s = gsc s t := by unfold gsc; split <;> split <;> omega
theorem psc_turn (s t : Int) : psc t s = psc s t := by unfold psc; rw [Int.add_comm t s]
theorem tand_turn (a b : Int) : tand b a = tand a b := by unfold tand; repeat' split <;> omega
theorem tor_turn (a b : Int) : tor b a = tor a b := by unfold tor; repeat' split <;> omega

theorem turn_bin (op : Int) (a b : Va) (h : op ∈ LT) (hT : ¬ (a.k = 3 ∧ b.k = 3)) : binR op b a = binR op a b := by
  have hop : op = 11 ∨ op = 9 ∨ op = 6 ∨ op = 17 ∨ op = 18 := by simpa [LT] using h
  by_cases hr : vr a = true ∧ vr b = true
  · unfold binR
    rw [if_neg (show ¬ ¬ (6 ≤ op ∧ op ≤ 18 ∧ vr b = true ∧ vr a = true) by simp [hr.1, hr.2]; omega), if_neg (show ¬ ¬ (6 ≤ op ∧ op ≤ 18 ∧ vr a = true ∧ vr b = true) by simp [hr.1, hr.2]; omega)]
    by_cases ht : op = 17 ∨ op = 18
    · rw [if_pos ht, if_pos ht]
      unfold truR
      rw [Bool.and_comm (tB b) (tB a), tand_turn (tN a) (tN b), tor_turn (tN a) (tN b)]
    rw [if_neg ht, if_neg ht]
    by_cases hn : a.k = 0 ∨ b.k = 0
    · rw [if_pos hn, if_pos (Or.comm.1 hn)]
    rw [if_neg hn, if_neg (fun h => hn (Or.comm.1 h))]
    have ho : op = 11 ∨ op = 9 ∨ op = 6 := by omega
    by_cases hi : a.k = 1 ∧ b.k = 1
    · rw [if_pos hi, if_pos (And.comm.1 hi)]
      unfold intsR
      rw [Int.add_comm b.n a.n, Int.mul_comm b.n a.n]
      rcases ho with rfl | rfl | rfl
      · exact eq_turn 11 _ _ (by rw [numc0, numc0]; exact eq_comm) rfl
      · rfl
      · rfl
    rw [if_neg hi, if_neg (fun h => hi (And.comm.1 h))]
    by_cases hm : isn a ∧ isn b
    · rw [if_pos hm, if_pos (And.comm.1 hm)]
      unfold numsR
      rw [gsc_turn a.m b.m, psc_turn a.m b.m, Int.mul_comm b.n a.n, Int.add_comm b.m a.m]
      rcases ho with rfl | rfl | rfl
      · exact eq_turn 11 _ _ (by rw [numc0, numc0]; exact eq_comm) rfl
      · show decR _ _ = decR _ _
        rw [Int.add_comm]
      · rfl
    rw [if_neg hm, if_neg (fun h => hm (And.comm.1 h))]
    by_cases hp : a.k = 5 ∧ b.k = 5
    · rw [if_pos hp, if_pos (And.comm.1 hp)]
      unfold ptsR
      rcases ho with rfl | rfl | rfl
      · exact eq_turn 11 _ _ (pcmp_turn b a (fun h => hm (And.comm.1 h))) rfl
      · show ptR _ _ = ptR _ _
        rw [Int.add_comm b.n, Int.add_comm b.m]
      · show ptR _ _ = ptR _ _
        rw [Int.mul_comm b.n a.n, Int.mul_comm b.m a.m, Int.mul_comm b.n a.m, Int.mul_comm b.m a.n, Int.add_comm (a.m * b.n)]
    rw [if_neg hp, if_neg (fun h => hp (And.comm.1 h)), if_neg hT, if_neg (fun h => hT (And.comm.1 h))]
    by_cases hb : a.k = 4 ∧ b.k = 4
    · rw [if_pos hb, if_pos (And.comm.1 hb)]
      rcases ho with rfl | rfl | rfl
      · exact eq_turn 11 _ _ (pcmp_turn b a (fun h => hm (And.comm.1 h))) rfl
      · rfl
      · rfl
    · rw [if_neg hb, if_neg (fun h => hb (And.comm.1 h))]
  · unfold binR
    rw [if_pos (fun h => hr ⟨h.2.2.2, h.2.2.1⟩), if_pos (fun h => hr h.2.2)]

theorem laws_all (a b : Va) (w : World) (hT : Tabs w) (hP : Pw w) (ia : vin a) (ib : vin b) :
    Calls Tryz.prog 6 #[vv a, vv b] w fun e w' => e = .returned (.bool true) ∧ Below w.heap.size w w' := by
  refine laws_walk a.k a.n a.m b.k b.n b.m a.b b.b (fun op => binR op a b) w (fun op W h => qbin_any op a b W (hT.later h) (hP.below h) ia ib) (fun hk op hm W h => ?_) (fun j hj hj2 => ?_) (fun W h => knows7_any W (hT.later h) (hP.below h))
  · have := qbin_any op b a W (hT.later h) (hP.below h) ib ia
    rw [turn_bin op a b hm (fun h => by rw [h.1, h.2] at hk; cases hk)] at this
    exact this
  · have hpq : (LP.getD j 0 = 11 ∧ LP.getD (j + 1) 0 = 12) ∨ (LP.getD j 0 = 13 ∧ LP.getD (j + 1) 0 = 16) ∨ (LP.getD j 0 = 15 ∧ LP.getD (j + 1) 0 = 14) := by
      rcases (by omega : j = 0 ∨ j = 2 ∨ j = 4) with rfl | rfl | rfl
      · exact .inl ⟨rfl, rfl⟩
      · exact .inr (.inl ⟨rfl, rfl⟩)
      · exact .inr (.inr ⟨rfl, rfl⟩)
    obtain ⟨e1, e2⟩ := opp_bin a b _ _ hpq
    refine ⟨e1, fun hz W h => ?_⟩
    have hv : vin (binR (LP.getD j 0) a b).1 := by
      rcases bin_cmp a b with ⟨e, he⟩ | ⟨c, hc⟩
      · rw [he _ (by omega) (by omega)]
        show vin nul
        exact ⟨⟨by decide, by decide⟩, ⟨by decide, by decide⟩⟩
      · rw [hc _ (by omega) (by omega)]
        have hb : ∀ x : Bool, vin (vB x) := fun x => by cases x <;> exact ⟨⟨by decide, by decide⟩, ⟨by decide, by decide⟩⟩
        rcases hpq with ⟨h1, _⟩ | ⟨h1, _⟩ | ⟨h1, _⟩ <;> (rw [h1]; exact hb _)
    have := qun_any 4 _ W (hT.later h) (hP.below h) hv
    rw [e2 hz] at this
    exact this
end Go.Proofs.YtnpdecbgakgbgaaGreatDoor
