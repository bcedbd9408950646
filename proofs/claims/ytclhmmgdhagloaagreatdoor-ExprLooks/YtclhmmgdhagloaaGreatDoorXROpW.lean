/-
  The document's operands of a node, whole.
-/
import Derived.Test.YtclhmmgdhagloaaGreatDoorXROps
namespace Go.Proofs.YtclhmmgdhagloaaGreatDoor
open Go.RowKit Go.Shelf
attribute [local go_sem] cell?_more frozen?_more setCell_more more_lt more_more more_drew more_drewN setCell_drewN alloc_drewN

set_option maxHeartbeats 2000000 in
theorem ro2_tt (b : Bool) (TB NB VB : ByteArray) (vk vn vm : Int) (w : World) (tE : TB.toList.isEmpty = false)
    (SA : ∀ W, Calls Tryz.prog 32 #[va vk vn vm VB, va 0 0 0 ⟨#[]⟩] W fun e w' => e = .returned (.bool true) ∧ Grew W w')
    (F1 : ∀ W, Calls Tryz.prog 67 #[.string NB] W fun e w' => e = .returned (.bool true) ∧ Below W.heap.size W w')
    (F2 : ∀ W, Calls Tryz.prog 67 #[.string TB] W fun e w' => e = .returned (.bool b) ∧ Below W.heap.size W w') :
    Calls Tryz.prog 40 #[.agg #[.int .i64 2, .string TB, .string NB, .int .i64 vk, .int .i64 vn, .int .i64 vm, .string VB, .int .i64 0]] w fun e w' => e = .returned (.int .i64 (if b = true then 0 else -1)) ∧ Below w.heap.size w w' := by
  have Z := Cbox.new w #[.int .i64 2, .string TB, .string NB, .int .i64 vk, .int .i64 vn, .int .i64 vm, .string VB, .int .i64 0] 67
  have A0 := (Below.refl w.heap.size w).alloc (Nat.le_refl _) (.cells #[.int .i64 2, .string TB, .string NB, .int .i64 vk, .int .i64 vn, .int .i64 vm, .string VB, .int .i64 0] 67)
  cases b
  all_goals go_enter Tryz.func40, Tryz.ntmps40
  all_goals go_wp2_with fail
  all_goals refine (SA _).mono ?_
  all_goals rintro e w1 ⟨rfl, g1⟩
  all_goals have b1 := g1.below
  all_goals have B1 := A0.trans (b1.mono A0.size)
  all_goals have z0 := (Z.later b1).at 0
  all_goals have z1 := (Z.later b1).at 1
  all_goals have z2 := (Z.later b1).at 2
  all_goals have z7 := (Z.later b1).at 7
  all_goals have zl := (Z.later b1).lt
  all_goals go_wp2_with fail
  all_goals refine (F1 _).mono ?_
  all_goals rintro e w2 ⟨rfl, b2⟩
  all_goals have y1 := ((Z.later b1).later b2).at 1
  all_goals have yl := ((Z.later b1).later b2).lt
  all_goals go_wp2_with fail
  all_goals refine (F2 _).mono ?_
  all_goals rintro e w3 ⟨rfl, b3⟩
  all_goals go_wp2
  all_goals go_ret
  all_goals exact ⟨rfl, below_trans (below_trans B1 b2) b3⟩

theorem emp_iff (l : List UInt8) : (ByteArray.mk l.toArray).toList.isEmpty = (l == []) := by
  rw [ByteArray.toList_eq]
  cases l <;> rfl

theorem rops_any (x : Nd) (w : World) (FN : ∀ W, Calls Tryz.prog 67 #[.string ⟨x.n.toArray⟩] W fun e w' => e = .returned (.bool (nameL x.n)) ∧ Below W.heap.size W w') (FT : ∀ W, Calls Tryz.prog 67 #[.string ⟨x.t.toArray⟩] W fun e w' => e = .returned (.bool (nameL x.t)) ∧ Below W.heap.size W w') :
    Calls Tryz.prog 40 #[ndv x] w fun e w' => e = .returned (.int .i64 (if mayN x = true then opsN x else -1)) ∧ Below w.heap.size w w' := by
  have L : ∀ W, Calls Tryz.prog 66 #[va x.v.k x.v.n x.v.m ⟨x.v.b.toArray⟩] W fun e w' => e = .returned (.bool (litV x.v)) ∧ Below W.heap.size W w' := fun W => rlit_any x.v W
  have SA : ∀ W, Calls Tryz.prog 32 #[va x.v.k x.v.n x.v.m ⟨x.v.b.toArray⟩, va 0 0 0 ⟨#[]⟩] W fun e w' => e = .returned (.bool (sameV0 x.v vz0)) ∧ Grew W w' := fun W => by
    have := rsame_any x.v.k x.v.n x.v.m ⟨x.v.b.toArray⟩ 0 0 0 ⟨#[]⟩ W
    rw [show ((ByteArray.mk x.v.b.toArray).toList == (ByteArray.mk #[]).toList) = (x.v.b == []) by rw [ByteArray.toList_eq, ByteArray.toList_eq]] at this
    exact this
  have tE := emp_iff x.t
  have nE := emp_iff x.n
  obtain ⟨o, t, n, v, a⟩ := x
  obtain ⟨vk, vn, vm, vb⟩ := v
  simp only at L SA tE nE FN FT
  have key : mayN ⟨o, t, n, ⟨vk, vn, vm, vb⟩, a⟩ = (
      if o = 1 then (t == [] && (n == [] && (a == 0 && litV ⟨vk, vn, vm, vb⟩)))
      else if o = 2 then (sameV0 ⟨vk, vn, vm, vb⟩ vz0 && (a == 0 && (nameL n && (t == [] || nameL t))))
      else if o = 19 then (sameV0 ⟨vk, vn, vm, vb⟩ vz0 && (decide (0 ≤ a) && (decide (a ≤ 4) && (nameL n && t == []))))
      else (t == [] && (n == [] && (sameV0 ⟨vk, vn, vm, vb⟩ vz0 && (a == 0 && (decide (3 ≤ o) && decide (o ≤ 18))))))) := by
    have hvv : sameV0 ⟨vk, vn, vm, vb⟩ ⟨vk, vn, vm, vb⟩ = true := by simp [sameV0]
    unfold mayN fitN namedN sameN
    by_cases h1 : o = 1
    · subst h1
      simp only [if_true, hvv, beq_self_eq_true, Bool.true_and]
      cases (t == []) <;> cases (n == []) <;> cases (a == 0) <;> simp
    by_cases h2 : o = 2
    · subst h2
      simp only [if_true, if_neg h1, beq_self_eq_true, Bool.true_and]
      cases sameV0 ⟨vk, vn, vm, vb⟩ vz0 <;> cases (a == 0) <;> simp
    by_cases h3 : o = 19
    · subst h3
      simp only [if_true, if_neg h1, if_neg h2, beq_self_eq_true, Bool.true_and, Bool.and_true]
      cases sameV0 ⟨vk, vn, vm, vb⟩ vz0 <;> cases (t == []) <;> cases nameL n <;> simp
    · simp only [if_neg h1, if_neg h2, if_neg h3, beq_self_eq_true, Bool.true_and]
      cases sameV0 ⟨vk, vn, vm, vb⟩ vz0 <;> cases (t == []) <;> cases (n == []) <;> cases (a == 0) <;> simp
  rw [key]
  clear key
  unfold opsN
  simp only
  generalize sameV0 ⟨vk, vn, vm, vb⟩ vz0 = sv at *
  generalize litV ⟨vk, vn, vm, vb⟩ = lv at *
  generalize nameL n = fn at *
  generalize nameL t = ft at *
  generalize (t == []) = bt at *
  generalize (n == []) = bn at *
  show Calls _ _ #[.agg #[.int .i64 o, .string ⟨t.toArray⟩, .string ⟨n.toArray⟩, .int .i64 vk, .int .i64 vn, .int .i64 vm, .string ⟨vb.toArray⟩, .int .i64 a]] _ _
  generalize ByteArray.mk t.toArray = TB at *
  generalize ByteArray.mk n.toArray = NB at *
  generalize ByteArray.mk vb.toArray = VB at *
  by_cases h1 : o = 1
  · subst h1
    simp only [if_true]
    cases bt with
    | false => exact ro1_t TB NB VB vk vn vm a w tE sv SA
    | true =>
      cases bn with
      | false => exact ro1_n TB NB VB vk vn vm a w tE nE sv SA
      | true =>
        by_cases ha : a = 0
        · subst ha
          cases lv with
          | false => exact ro1_false TB NB VB vk vn vm w tE nE sv SA L
          | true => exact ro1_true TB NB VB vk vn vm w tE nE sv SA L
        · have ha' : (a == 0) = false := by rw [beq_eq_false_iff_ne]; exact ha
          rw [ha']
          exact ro1_a TB NB VB vk vn vm a w tE nE ha sv SA
  by_cases h2 : o = 2
  · subst h2
    simp only [if_true, if_neg h1]
    cases sv with
    | false =>
      cases bt with
      | true => exact ro2_ve TB NB VB vk vn vm a w tE SA
      | false => exact ro2_vt TB NB VB vk vn vm a w tE SA
    | true =>
      by_cases ha : a = 0
      · subst ha
        cases fn with
        | false =>
          cases bt with
          | true => exact ro2_fe TB NB VB vk vn vm w tE SA FN
          | false => exact ro2_ft TB NB VB vk vn vm w tE SA FN
        | true =>
          cases bt with
          | true => exact ro2_e TB NB VB vk vn vm w tE SA FN
          | false =>
            have := ro2_tt ft TB NB VB vk vn vm w tE SA FN FT
            cases ft <;> exact this
      · have ha' : (a == 0) = false := by rw [beq_eq_false_iff_ne]; exact ha
        rw [ha']
        cases bt with
        | true => exact ro2_ae TB NB VB vk vn vm a w tE ha SA
        | false => exact ro2_at TB NB VB vk vn vm a w tE ha SA
  by_cases h3 : o = 19
  · subst h3
    simp only [if_true, if_neg h1, if_neg h2]
    cases sv with
    | false =>
      cases bt with
      | true => exact ro19_ve TB NB VB vk vn vm a w tE SA
      | false => exact ro19_vt TB NB VB vk vn vm a w tE SA
    | true =>
      by_cases h0 : a < 0
      · rw [decide_eq_false (show ¬ 0 ≤ a by omega)]
        cases bt with
        | true => exact ro19_le TB NB VB vk vn vm a w tE h0 SA
        | false => exact ro19_lt TB NB VB vk vn vm a w tE h0 SA
      by_cases h4 : 4 < a
      · rw [decide_eq_true (show 0 ≤ a by omega), decide_eq_false (show ¬ a ≤ 4 by omega)]
        cases bt with
        | true => exact ro19_he TB NB VB vk vn vm a w tE h0 h4 SA
        | false => exact ro19_ht TB NB VB vk vn vm a w tE h0 h4 SA
      rw [decide_eq_true (show 0 ≤ a by omega), decide_eq_true (show a ≤ 4 by omega)]
      cases fn with
      | false =>
        cases bt with
        | true => exact ro19_fe TB NB VB vk vn vm a w tE h0 h4 SA FN
        | false => exact ro19_ft TB NB VB vk vn vm a w tE h0 h4 SA FN
      | true =>
        cases bt with
        | true => exact ro19_e TB NB VB vk vn vm a w tE h0 h4 SA FN
        | false => exact ro19_t TB NB VB vk vn vm a w tE h0 h4 SA FN
  simp only [if_neg h1, if_neg h2, if_neg h3]
  have o1 : (o == 1) = false := by rw [beq_eq_false_iff_ne]; exact h1
  have o2 : (o == 2) = false := by rw [beq_eq_false_iff_ne]; exact h2
  have o19 : (o == 19) = false := by rw [beq_eq_false_iff_ne]; exact h3
  cases bt with
  | false => exact roo_t o TB NB VB vk vn vm a w tE o1 o2 o19 sv SA
  | true =>
    cases bn with
    | false => exact roo_n o TB NB VB vk vn vm a w tE nE o1 o2 o19 sv SA
    | true =>
      cases sv with
      | false => exact roo_v o TB NB VB vk vn vm a w tE nE o1 o2 o19 SA
      | true =>
        by_cases ha : a = 0
        case neg =>
          have ha' : (a == 0) = false := by rw [beq_eq_false_iff_ne]; exact ha
          rw [ha']
          exact roo_a o TB NB VB vk vn vm a w tE nE o1 o2 o19 ha SA
        subst ha
        by_cases h3' : o < 3
        · rw [decide_eq_false (show ¬ 3 ≤ o by omega)]
          exact roo_l o TB NB VB vk vn vm w tE nE o1 o2 o19 h3' SA
        by_cases h18 : 18 < o
        · rw [decide_eq_true (show 3 ≤ o by omega), decide_eq_false (show ¬ o ≤ 18 by omega)]
          exact roo_h o TB NB VB vk vn vm w tE nE o1 o2 o19 h3' h18 SA
        rw [decide_eq_true (show 3 ≤ o by omega), decide_eq_true (show o ≤ 18 by omega)]
        by_cases h5 : o ≤ 5
        · rw [if_neg (show ¬ 6 ≤ o by omega), if_pos (show 3 ≤ o by omega)]
          exact roo_1 o TB NB VB vk vn vm w tE nE o1 o2 o19 h3' h18 h5 SA
        · rw [if_pos (show 6 ≤ o by omega)]
          exact roo_2 o TB NB VB vk vn vm w tE nE o1 o2 o19 h3' h18 h5 SA
end Go.Proofs.YtclhmmgdhagloaaGreatDoor
