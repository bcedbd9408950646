/-
  The document's operands of a node, whole.
  The document's Print: Ints, Decs and Texts.
  The document's Print of values that a literal may have.
  The document's lexer: its small functions.
  The document's lexer: sign and Word.
  ExprLooks: what the row's form asks of the program's own text.
-/
import Derived.Test.YtclhmmgdhagloaaGreatDoorXROps
import Derived.Test.YtclhmmgdhagloaaGreatDoorMBVTruW
import Derived.Test.YtclhmmgdhagloaaGreatDoorMCLByte
import Derived.Test.YtclhmmgdhagloaaGreatDoorMEEDep
import Derived.BigRegion
import Derived.Test.YtclhmmgdhagloaaGreatDoorMNXROp
import Derived.Test.YtclhmmgdhagloaaGreatDoorLTold
import Derived.Test.YtclhmmgdhagloaaGreatDoorMFEFit
import Derived.Test.YtclhmmgdhagloaaGreatDoorMhDText1
namespace Go.Proofs.YtclhmmgdhagloaaGreatDoor
open Go.RowKit Go.Shelf
attribute [local go_sem] cell?_more frozen?_more setCell_more more_lt more_more more_drew more_drewN setCell_drewN alloc_drewN

set_option maxHeartbeats 2000000 in
theorem ro2_tt (b : Bool) (TB NB VB : ByteArray) (vk vn vm : Int) (w : World) (tE : TB.toList.isEmpty = false)
    (SA : ∀ W, Calls Tryz.prog 32 #[va vk vn vm VB, va 0 0 0 ⟨#[]⟩] W fun e w' => e = .returned (.bool true) ∧ Grew W w')
    (F1 : ∀ W, Calls Tryz.prog 67 #[.string NB] W fun e w' => e = .returned (.bool true) ∧ Below W.heap.size W w')
    (F2 : ∀ W, Calls Tryz.prog 67 #[.string TB] W fun e w' => e = .returned (.bool b) ∧ Below W.heap.size W w') :
    Calls Tryz.prog 40 #[.agg #[.int .i64 2, .string TB, .string NB, .int .i64 vk, .int .i64 vn, .int .i64 vm, .string VB, .int .i64 0]] w fun e w' => e = .returned (.int .i64 (if b = true then 0 else -1)) ∧ Below w.heap.size w w' := by
  have Z := Cbox.new w #[.int .i64 2, .string TB, .string NB, .int .i64 vk, .int .i64 vn, .int .i64 vm, .string VB, .int .i64 0] 67
  have A0 := (Below.refl w.heap.size w).alloc (Nat.le_refl _) (.cells #[.int .i64 2, .string TB, .string NB, .int .i64 vk, .int .i64 vn, .int .i64 vm, .string VB, .int .i64 0] 67)
  cases b
  all_goals go_enter Tryz.func40, Tryz.ntmps40
  all_goals go_wp2_with fail
  all_goals refine (SA _).mono ?_
  all_goals rintro e w1 ⟨rfl, g1⟩
  all_goals have b1 := g1.below
  all_goals have B1 := A0.trans (b1.mono A0.size)
  all_goals have z0 := (Z.later b1).at 0
  all_goals have z1 := (Z.later b1).at 1
  all_goals have z2 := (Z.later b1).at 2
  all_goals have z7 := (Z.later b1).at 7
  all_goals have zl := (Z.later b1).lt
  all_goals go_wp2_with fail
  all_goals refine (F1 _).mono ?_
  all_goals rintro e w2 ⟨rfl, b2⟩
  all_goals have y1 := ((Z.later b1).later b2).at 1
  all_goals have yl := ((Z.later b1).later b2).lt
  all_goals go_wp2_with fail
  all_goals refine (F2 _).mono ?_
  all_goals rintro e w3 ⟨rfl, b3⟩
  all_goals go_wp2
  all_goals go_ret
  all_goals exact ⟨rfl, below_trans (below_trans B1 b2) b3⟩

theorem emp_iff (l : List UInt8) : (ByteArray.mk l.toArray).toList.isEmpty = (l == []) := by
  rw [ByteArray.toList_eq]
  cases l <;> rfl

theorem rops_any (x : Nd) (w : World) (FN : ∀ W, Calls Tryz.prog 67 #[.string ⟨x.n.toArray⟩] W fun e w' => e = .returned (.bool (nameL x.n)) ∧ Below W.heap.size W w') (FT : ∀ W, Calls Tryz.prog 67 #[.string ⟨x.t.toArray⟩] W fun e w' => e = .returned (.bool (nameL x.t)) ∧ Below W.heap.size W w') :
    Calls Tryz.prog 40 #[ndv x] w fun e w' => e = .returned (.int .i64 (if mayN x = true then opsN x else -1)) ∧ Below w.heap.size w w' := by
  have L : ∀ W, Calls Tryz.prog 66 #[va x.v.k x.v.n x.v.m ⟨x.v.b.toArray⟩] W fun e w' => e = .returned (.bool (litV x.v)) ∧ Below W.heap.size W w' := fun W => rlit_any x.v W
  have SA : ∀ W, Calls Tryz.prog 32 #[va x.v.k x.v.n x.v.m ⟨x.v.b.toArray⟩, va 0 0 0 ⟨#[]⟩] W fun e w' => e = .returned (.bool (sameV0 x.v vz0)) ∧ Grew W w' := fun W => by
    have := rsame_any x.v.k x.v.n x.v.m ⟨x.v.b.toArray⟩ 0 0 0 ⟨#[]⟩ W
    rw [show ((ByteArray.mk x.v.b.toArray).toList == (ByteArray.mk #[]).toList) = (x.v.b == []) by rw [ByteArray.toList_eq, ByteArray.toList_eq]] at this
    exact this
  have tE := emp_iff x.t
  have nE := emp_iff x.n
  obtain ⟨o, t, n, v, a⟩ := x
  obtain ⟨vk, vn, vm, vb⟩ := v
  simp only at L SA tE nE FN FT
  have key : mayN ⟨o, t, n, ⟨vk, vn, vm, vb⟩, a⟩ = (
      if o = 1 then (t == [] && (n == [] && (a == 0 && litV ⟨vk, vn, vm, vb⟩)))
      else if o = 2 then (sameV0 ⟨vk, vn, vm, vb⟩ vz0 && (a == 0 && (nameL n && (t == [] || nameL t))))
      else if o = 19 then (sameV0 ⟨vk, vn, vm, vb⟩ vz0 && (decide (0 ≤ a) && (decide (a ≤ 4) && (nameL n && t == []))))
      else (t == [] && (n == [] && (sameV0 ⟨vk, vn, vm, vb⟩ vz0 && (a == 0 && (decide (3 ≤ o) && decide (o ≤ 18))))))) := by
    have hvv : sameV0 ⟨vk, vn, vm, vb⟩ ⟨vk, vn, vm, vb⟩ = true := by simp [sameV0]
    unfold mayN fitN namedN sameN
    by_cases h1 : o = 1
    · subst h1
      simp only [if_true, hvv, beq_self_eq_true, Bool.true_and]
      cases (t == []) <;> cases (n == []) <;> cases (a == 0) <;> simp
    by_cases h2 : o = 2
    · subst h2
      simp only [if_true, if_neg h1, beq_self_eq_true, Bool.true_and]
      cases sameV0 ⟨vk, vn, vm, vb⟩ vz0 <;> cases (a == 0) <;> simp
    by_cases h3 : o = 19
    · subst h3
      simp only [if_true, if_neg h1, if_neg h2, beq_self_eq_true, Bool.true_and, Bool.and_true]
      cases sameV0 ⟨vk, vn, vm, vb⟩ vz0 <;> cases (t == []) <;> cases nameL n <;> simp
    · simp only [if_neg h1, if_neg h2, if_neg h3, beq_self_eq_true, Bool.true_and]
      cases sameV0 ⟨vk, vn, vm, vb⟩ vz0 <;> cases (t == []) <;> cases (n == []) <;> cases (a == 0) <;> simp
  rw [key]
  clear key
  unfold opsN
  simp only
  generalize sameV0 ⟨vk, vn, vm, vb⟩ vz0 = sv at *
  generalize litV ⟨vk, vn, vm, vb⟩ = lv at *
  generalize nameL n = fn at *
  generalize nameL t = ft at *
  generalize (t == []) = bt at *
  generalize (n == []) = bn at *
  show Calls _ _ #[.agg #[.int .i64 o, .string ⟨t.toArray⟩, .string ⟨n.toArray⟩, .int .i64 vk, .int .i64 vn, .int .i64 vm, .string ⟨vb.toArray⟩, .int .i64 a]] _ _
  generalize ByteArray.mk t.toArray = TB at *
  generalize ByteArray.mk n.toArray = NB at *
  generalize ByteArray.mk vb.toArray = VB at *
  by_cases h1 : o = 1
  · subst h1
    simp only [if_true]
    cases bt with
    | false => exact ro1_t TB NB VB vk vn vm a w tE sv SA
    | true =>
      cases bn with
      | false => exact ro1_n TB NB VB vk vn vm a w tE nE sv SA
      | true =>
        by_cases ha : a = 0
        · subst ha
          cases lv with
          | false => exact ro1_false TB NB VB vk vn vm w tE nE sv SA L
          | true => exact ro1_true TB NB VB vk vn vm w tE nE sv SA L
        · have ha' : (a == 0) = false := by rw [beq_eq_false_iff_ne]; exact ha
          rw [ha']
          exact ro1_a TB NB VB vk vn vm a w tE nE ha sv SA
  by_cases h2 : o = 2
  · subst h2
    simp only [if_true, if_neg h1]
    cases sv with
    | false =>
      cases bt with
      | true => exact ro2_ve TB NB VB vk vn vm a w tE SA
      | false => exact ro2_vt TB NB VB vk vn vm a w tE SA
    | true =>
      by_cases ha : a = 0
      · subst ha
        cases fn with
        | false =>
          cases bt with
          | true => exact ro2_fe TB NB VB vk vn vm w tE SA FN
          | false => exact ro2_ft TB NB VB vk vn vm w tE SA FN
        | true =>
          cases bt with
          | true => exact ro2_e TB NB VB vk vn vm w tE SA FN
          | false =>
            have := ro2_tt ft TB NB VB vk vn vm w tE SA FN FT
            cases ft <;> exact this
      · have ha' : (a == 0) = false := by rw [beq_eq_false_iff_ne]; exact ha
        rw [ha']
        cases bt with
        | true => exact ro2_ae TB NB VB vk vn vm a w tE ha SA
        | false => exact ro2_at TB NB VB vk vn vm a w tE ha SA
  by_cases h3 : o = 19
  · subst h3
    simp only [if_true, if_neg h1, if_neg h2]
    cases sv with
    | false =>
      cases bt with
      | true => exact ro19_ve TB NB VB vk vn vm a w tE SA
      | false => exact ro19_vt TB NB VB vk vn vm a w tE SA
    | true =>
      by_cases h0 : a < 0
      · rw [decide_eq_false (show ¬ 0 ≤ a by omega)]
        cases bt with
        | true => exact ro19_le TB NB VB vk vn vm a w tE h0 SA
        | false => exact ro19_lt TB NB VB vk vn vm a w tE h0 SA
      by_cases h4 : 4 < a
      · rw [decide_eq_true (show 0 ≤ a by omega), decide_eq_false (show ¬ a ≤ 4 by omega)]
        cases bt with
        | true => exact ro19_he TB NB VB vk vn vm a w tE h0 h4 SA
        | false => exact ro19_ht TB NB VB vk vn vm a w tE h0 h4 SA
      rw [decide_eq_true (show 0 ≤ a by omega), decide_eq_true (show a ≤ 4 by omega)]
      cases fn with
      | false =>
        cases bt with
        | true => exact ro19_fe TB NB VB vk vn vm a w tE h0 h4 SA FN
        | false => exact ro19_ft TB NB VB vk vn vm a w tE h0 h4 SA FN
      | true =>
        cases bt with
        | true => exact ro19_e TB NB VB vk vn vm a w tE h0 h4 SA FN
        | false => exact ro19_t TB NB VB vk vn vm a w tE h0 h4 SA FN
  simp only [if_neg h1, if_neg h2, if_neg h3]
  have o1 : (o == 1) = false := by rw [beq_eq_false_iff_ne]; exact h1
  have o2 : (o == 2) = false := by rw [beq_eq_false_iff_ne]; exact h2
  have o19 : (o == 19) = false := by rw [beq_eq_false_iff_ne]; exact h3
  cases bt with
  | false => exact roo_t o TB NB VB vk vn vm a w tE o1 o2 o19 sv SA
  | true =>
    cases bn with
    | false => exact roo_n o TB NB VB vk vn vm a w tE nE o1 o2 o19 sv SA
    | true =>
      cases sv with
      | false => exact roo_v o TB NB VB vk vn vm a w tE nE o1 o2 o19 SA
      | true =>
        by_cases ha : a = 0
        case neg =>
          have ha' : (a == 0) = false := by rw [beq_eq_false_iff_ne]; exact ha
          rw [ha']
          exact roo_a o TB NB VB vk vn vm a w tE nE o1 o2 o19 ha SA
        subst ha
        by_cases h3' : o < 3
        · rw [decide_eq_false (show ¬ 3 ≤ o by omega)]
          exact roo_l o TB NB VB vk vn vm w tE nE o1 o2 o19 h3' SA
        by_cases h18 : 18 < o
        · rw [decide_eq_true (show 3 ≤ o by omega), decide_eq_false (show ¬ o ≤ 18 by omega)]
          exact roo_h o TB NB VB vk vn vm w tE nE o1 o2 o19 h3' h18 SA
        rw [decide_eq_true (show 3 ≤ o by omega), decide_eq_true (show o ≤ 18 by omega)]
        by_cases h5 : o ≤ 5
        · rw [if_neg (show ¬ 6 ≤ o by omega), if_pos (show 3 ≤ o by omega)]
          exact roo_1 o TB NB VB vk vn vm w tE nE o1 o2 o19 h3' h18 h5 SA
        · rw [if_pos (show 6 ≤ o by omega)]
          exact roo_2 o TB NB VB vk vn vm w tE nE o1 o2 o19 h3' h18 h5 SA
end Go.Proofs.YtclhmmgdhagloaaGreatDoor

namespace Go.Proofs.YtclhmmgdhagloaaGreatDoor
open Go.RowKit Go.Shelf
attribute [local go_sem] cell?_more frozen?_more setCell_more more_lt more_more more_drew more_drewN setCell_drewN alloc_drewN

set_option maxRecDepth 20000 in
set_option maxHeartbeats 2000000 in
theorem rprint1 (n m : Int) (b : ByteArray) (w : World) (hn : -9223372036854775808 ≤ n ∧ n ≤ 9223372036854775807)
    (R : ∀ W, Calls Tryz.prog 68 #[va 1 n m b] W fun e w' => e = .returned (.bool true) ∧ Below W.heap.size W w') :
    Calls Tryz.prog 41 #[va 1 n m b] w fun e w' => e = .returned (.string (⟨(dtext n 0).toArray⟩)) ∧ Below w.heap.size w w' := by
  have P : ∀ W, Calls Tryz.prog 69 #[dv n 0] W fun e w' => e = .returned (.string ⟨(dtext n 0).toArray⟩) ∧ Grew W w' := fun W => rprint_good n 0 W (by decide) hn.1 hn.2
  have Z := Cbox.new w #[.int .i64 1, .int .i64 n, .int .i64 m, .string b] 42
  generalize ByteArray.mk (dtext n 0).toArray = D at *
  go_enter Tryz.func41, Tryz.ntmps41
  go_wp2_with (first
    | (go_at_call 68; refine (R _).mono ?_; rintro e w1 ⟨rfl, b1⟩; have bb : Below w.heap.size w w1 := ((Below.refl _ w).alloc (Nat.le_refl _) _).trans (b1.mono (by simp)); have zz := Z.later b1; have c0 := zz.at 0; have c1 := zz.at 1; have c2 := zz.at 2; have c3 := zz.at 3; have lt1 := zz.lt; clear zz)
    | (go_at_call 69; refine (P _).mono ?_; rintro e w2 ⟨rfl, os2, k2, rfl⟩))
  go_ret
  exact ⟨rfl, below_trans bb (Grew.below (by repeat (first | assumption | exact Grew.refl _ | apply Grew.drew | apply Grew.drewN | apply Grew.alloc | apply Grew.more)))⟩

theorem rdtext_len (n : Int) (m : Nat) (_hm : m ≤ 6) (hn : -9223372036854775808 ≤ n ∧ n ≤ 9223372036854775807) : (dtext n m).length ≤ 9223372036854775806 := by
  have := digs_len 19 n.natAbs (by have : (10 : Nat) ^ (19 + 1) = 100000000000000000000 := by decide
                                   omega)
  have h1 := pad_len m (digs n.natAbs)
  have h0 := pad_len 0 (digs n.natAbs)
  unfold dtext
  split <;> split <;> simp [List.length_take] <;> omega

set_option maxRecDepth 20000 in
set_option maxHeartbeats 2000000 in
theorem rprint2a (n m : Int) (b : ByteArray) (w : World) (hn : -9223372036854775808 ≤ n ∧ n ≤ 9223372036854775807) (_hm : 0 ≤ m ∧ m ≤ 6) (hm0 : m = 0)
    (R : ∀ W, Calls Tryz.prog 68 #[va 2 n m b] W fun e w' => e = .returned (.bool true) ∧ Below W.heap.size W w') :
    Calls Tryz.prog 41 #[va 2 n m b] w fun e w' => e = .returned (.string (⟨(dpt n m).toArray⟩)) ∧ Below w.heap.size w w' := by
  have P : ∀ W, Calls Tryz.prog 69 #[dv n m] W fun e w' => e = .returned (.string ⟨(dtext n m.toNat).toArray⟩) ∧ Grew W w' := fun W => by
    have := rprint_good n m.toNat W (by omega) hn.1 hn.2
    rwa [show ((m.toNat : Nat) : Int) = m by omega] at this
  have hlen := rdtext_len n m.toNat (by omega) hn
  unfold dpt
  generalize dtext n m.toNat = D at *
  rw [if_pos hm0]
  have hm0' : (m == 0) = true := by simpa using hm0
  have hadd : (ByteArray.mk D.toArray) ++ (ByteArray.mk #[46]) = ⟨(D ++ [46]).toArray⟩ := ba_app D [46]
  have hsz : ¬ 9223372036854775807 < (ByteArray.mk D.toArray).size + 1 := by show ¬ _ < D.length + 1; omega
  have hsz2 : (ByteArray.mk D.toArray).size = D.length := rfl
  clear _hm hn hm0
  generalize ByteArray.mk (D ++ [46]).toArray = R2 at *
  generalize ByteArray.mk D.toArray = E at *
  have Z := Cbox.new w #[.int .i64 2, .int .i64 n, .int .i64 m, .string b] 42
  go_enter Tryz.func41, Tryz.ntmps41
  go_wp2_with (first
    | (go_at_call 68; refine (R _).mono ?_; rintro e w1 ⟨rfl, b1⟩; have bb : Below w.heap.size w w1 := ((Below.refl _ w).alloc (Nat.le_refl _) _).trans (b1.mono (by simp)); have zz := Z.later b1; have c0 := zz.at 0; have c1 := zz.at 1; have c2 := zz.at 2; have c3 := zz.at 3; have lt1 := zz.lt; clear zz)
    | (go_at_call 69; refine (P _).mono ?_; rintro e w2 ⟨rfl, os2, k2, rfl⟩))
  go_ret
  exact ⟨rfl, below_trans bb (Grew.below (by repeat (first | assumption | exact Grew.refl _ | apply Grew.drew | apply Grew.drewN | apply Grew.alloc | apply Grew.more)))⟩

set_option maxRecDepth 20000 in
set_option maxHeartbeats 2000000 in
theorem rprint2b (n m : Int) (b : ByteArray) (w : World) (hn : -9223372036854775808 ≤ n ∧ n ≤ 9223372036854775807) (hm : 0 ≤ m ∧ m ≤ 6) (hm0 : ¬ m = 0)
    (R : ∀ W, Calls Tryz.prog 68 #[va 2 n m b] W fun e w' => e = .returned (.bool true) ∧ Below W.heap.size W w') :
    Calls Tryz.prog 41 #[va 2 n m b] w fun e w' => e = .returned (.string (⟨(dpt n m).toArray⟩)) ∧ Below w.heap.size w w' := by
  have P : ∀ W, Calls Tryz.prog 69 #[dv n m] W fun e w' => e = .returned (.string ⟨(dtext n m.toNat).toArray⟩) ∧ Grew W w' := fun W => by
    have := rprint_good n m.toNat W (by omega) hn.1 hn.2
    rwa [show ((m.toNat : Nat) : Int) = m by omega] at this
  have hlen := rdtext_len n m.toNat (by omega) hn
  unfold dpt
  generalize dtext n m.toNat = D at *
  rw [if_neg hm0, List.append_nil]
  clear hm hn hlen
  generalize ByteArray.mk D.toArray = E at *
  have Z := Cbox.new w #[.int .i64 2, .int .i64 n, .int .i64 m, .string b] 42
  go_enter Tryz.func41, Tryz.ntmps41
  go_wp2_with (first
    | (go_at_call 68; refine (R _).mono ?_; rintro e w1 ⟨rfl, b1⟩; have bb : Below w.heap.size w w1 := ((Below.refl _ w).alloc (Nat.le_refl _) _).trans (b1.mono (by simp)); have zz := Z.later b1; have c0 := zz.at 0; have c1 := zz.at 1; have c2 := zz.at 2; have c3 := zz.at 3; have lt1 := zz.lt; clear zz)
    | (go_at_call 69; refine (P _).mono ?_; rintro e w2 ⟨rfl, os2, k2, rfl⟩))
  go_ret
  exact ⟨rfl, below_trans bb (Grew.below (by repeat (first | assumption | exact Grew.refl _ | apply Grew.drew | apply Grew.drewN | apply Grew.alloc | apply Grew.more)))⟩

set_option maxRecDepth 20000 in
set_option maxHeartbeats 2000000 in
theorem rprint3 (n m : Int) (b : ByteArray) (w : World) (hb : b.size ≤ 256)
    (R : ∀ W, Calls Tryz.prog 68 #[va 3 n m b] W fun e w' => e = .returned (.bool true) ∧ Below W.heap.size W w') :
    Calls Tryz.prog 41 #[va 3 n m b] w fun e w' => e = .returned (.string (⟨(quoL b.data.toList).toArray⟩)) ∧ Below w.heap.size w w' := by
  obtain ⟨R3, hR3⟩ : ∃ R3, R3 = quoL b.data.toList := ⟨_, rfl⟩
  rw [← hR3]
  have HR : Hid (R3 = quoL b.data.toList) := hR3
  clear hR3
  have hbl : b.data.toList.length = b.size := rfl
  have Z := Cbox.new w #[.int .i64 3, .int .i64 n, .int .i64 m, .string b] 42
  go_enter Tryz.func41, Tryz.ntmps41
  go_wp2_with (first
    | (go_at_call 68; refine (R _).mono ?_; rintro e w1 ⟨rfl, b1⟩; have bb : Below w.heap.size w w1 := ((Below.refl _ w).alloc (Nat.le_refl _) _).trans (b1.mono (by simp)); have zz := Z.later b1; have c0 := zz.at 0; have c1 := zz.at 1; have c2 := zz.at 2; have c3 := zz.at 3; have lt1 := zz.lt; clear zz))
  go_loopw [4, 5] (fun r4 r5 wr => ∃ k : Nat, r5 = .int .i64 (k : Int) ∧ r4 = .string ⟨(39 :: dbl (b.data.toList.take k)).toArray⟩ ∧ k ≤ b.size ∧ w1 = wr) (fun _ r _ => b.size - (intOf r).toNat)
  case atStart => exact ⟨0, rfl, rfl, Nat.zero_le _, rfl⟩
  case round =>
    obtain ⟨k, rfl, rfl, hk, rfl⟩ := hrel
    have hdl := dbl_len (b.data.toList.take k)
    rw [List.length_take] at hdl
    by_cases hlt : k < b.size
    · have hlt' : (k : Int) < (b.size : Int) := by omega
      have j0 : (0 : Int) ≤ (k : Int) := by omega
      have j1 : (k : Int) + 1 ≤ (b.size : Int) := by omega
      have j2 : (k : Int) ≤ (k : Int) + 1 := by omega
      have j3 : ((k : Int) + 1).toNat = k + 1 := by omega
      have hdt := dbl_take b.data.toList k (by omega)
      obtain ⟨c, hc0⟩ : ∃ c, c = b.data.toList[k]'(by omega) := ⟨_, rfl⟩
      have hc : ∀ h, b[k]'h = c := fun h => by rw [hc0]; rfl
      have hex : b.extract k (k + 1) = ⟨#[c]⟩ := by
        have := ba_extract b.data.toList k (k + 1)
        rw [show (ByteArray.mk b.data.toList.toArray) = b from rfl] at this
        rw [this, List.drop_take, Nat.add_sub_cancel_left, List.drop_eq_getElem_cons (by omega), ← hc0]
        rfl
      have hexH : Hid (b.extract k (k + 1) = ⟨#[c]⟩) := hex
      rw [← hc0] at hdt
      obtain ⟨D, hD⟩ : ∃ D, D = 39 :: dbl (b.data.toList.take k) := ⟨_, rfl⟩
      have hDl : D.length ≤ 1000 := by rw [hD]; simp; omega
      rw [← hD]
      have hadd : (ByteArray.mk D.toArray) ++ (ByteArray.mk #[c]) = ⟨(D ++ [c]).toArray⟩ := ba_app D [c]
      have hs1 : (ByteArray.mk D.toArray).size = D.length := rfl
      have hs2 : ¬ 9223372036854775807 < D.length + 1 := by omega
      have hs3 : (ByteArray.mk #[c]).size = 1 := rfl
      by_cases hq : c = 39
      · have hq' : (c.toNat : Int) = 39 := by rw [hq]; rfl
        have hadd2 : (ByteArray.mk (D ++ [c]).toArray) ++ (ByteArray.mk #[39]) = ⟨((D ++ [c]) ++ [39]).toArray⟩ := ba_app (D ++ [c]) [39]
        have hs4 : (ByteArray.mk (D ++ [c]).toArray).size = D.length + 1 := by show (D ++ [c]).length = _; simp
        have hs5 : ¬ 9223372036854775807 < D.length + 1 + 1 := by omega
        have HE : Hid (((D ++ [c]) ++ [39]) = 39 :: dbl (b.data.toList.take (k + 1))) := by
          show _ = _
          rw [hdt, hD, if_pos hq, hq]; simp
        obtain ⟨X2, hX2⟩ : ∃ X2, X2 = (D ++ [c]) ++ [39] := ⟨_, rfl⟩
        rw [← hX2] at hadd2 HE
        obtain ⟨X1, hX1⟩ : ∃ X1, X1 = D ++ [c] := ⟨_, rfl⟩
        rw [← hX1] at hadd hadd2 hs4
        clear hdt hD hc0 hq hX1 hX2 hex hdl
        have hex' := hexH.out
        generalize ByteArray.mk X1.toArray = Y1 at *
        generalize ByteArray.mk D.toArray = YD at *
        go_wp2
        exact ⟨⟨k + 1, by rw [cast1], by rw [HE.out], by omega, trivial⟩, by simp [intOf] <;> omega⟩
      · have hq' : ¬ (c.toNat : Int) = 39 := fun h => hq (UInt8.toNat_inj.1 (by show c.toNat = 39; omega))
        have HE : Hid ((D ++ [c]) = 39 :: dbl (b.data.toList.take (k + 1))) := by
          show _ = _
          rw [hdt, hD, if_neg hq]; simp
        obtain ⟨X1, hX1⟩ : ∃ X1, X1 = D ++ [c] := ⟨_, rfl⟩
        rw [← hX1] at hadd HE
        clear hdt hD hc0 hq hX1 hex hdl
        have hex' := hexH.out
        generalize ByteArray.mk D.toArray = YD at *
        go_wp2
        exact ⟨⟨k + 1, by rw [cast1], by rw [HE.out], by omega, trivial⟩, by simp [intOf] <;> omega⟩
    · have hlt' : ¬ (k : Int) < (b.size : Int) := by omega
      have hkb : k = b.size := by omega
      obtain ⟨D, hD⟩ : ∃ D, D = 39 :: dbl (b.data.toList.take k) := ⟨_, rfl⟩
      have hDl : D.length ≤ 1000 := by rw [hD]; simp; omega
      rw [← hD]
      have hadd : (ByteArray.mk D.toArray) ++ (ByteArray.mk #[39]) = ⟨(D ++ [39]).toArray⟩ := ba_app D [39]
      have hs1 : (ByteArray.mk D.toArray).size = D.length := rfl
      have hs2 : ¬ 9223372036854775807 < D.length + 1 := by omega
      have HE : Hid (R3 = D ++ [39]) := by
        show R3 = _
        rw [HR.out, hD, List.take_of_length_le (by omega)]
        rfl
      obtain ⟨X1, hX1⟩ : ∃ X1, X1 = D ++ [39] := ⟨_, rfl⟩
      rw [← hX1] at hadd HE
      clear hD hX1 hdl HR hkb
      generalize ByteArray.mk D.toArray = YD at *
      go_wp2
      go_ret
      exact ⟨by rw [HE.out]; rfl, bb⟩

end Go.Proofs.YtclhmmgdhagloaaGreatDoor

namespace Go.Proofs.YtclhmmgdhagloaaGreatDoor
open Go.RowKit Go.Shelf

set_option maxHeartbeats 2000000 in
theorem rprint0 (n m : Int) (b : ByteArray) (w : World)
    (R : ∀ W, Calls Tryz.prog 68 #[va 0 n m b] W fun e w' => e = .returned (.bool true) ∧ Below W.heap.size W w') :
    Calls Tryz.prog 41 #[va 0 n m b] w fun e w' => e = .returned (.string ⟨#[110, 117, 108, 108]⟩) ∧ Below w.heap.size w w' := by
  have BX := Cbox.new w #[.int .i64 0, .int .i64 n, .int .i64 m, .string b] 42
  go_enter Tryz.func41, Tryz.ntmps41
  go_wp2_with fail
  refine (R _).mono ?_
  rintro e w1 ⟨rfl, b1⟩
  have e0 := (BX.later b1).at 0
  have e1 := (BX.later b1).at 1
  have el := (BX.later b1).lt
  go_wp2
  go_ret
  exact ⟨rfl, below_trans ((Below.refl _ w).alloc (Nat.le_refl _) _) b1⟩
set_option maxHeartbeats 2000000 in
theorem rprint4 (n m : Int) (b : ByteArray) (w : World)
    (R : ∀ W, Calls Tryz.prog 68 #[va 4 n m b] W fun e w' => e = .returned (.bool true) ∧ Below W.heap.size W w') :
    Calls Tryz.prog 41 #[va 4 n m b] w fun e w' => e = .returned (.string ⟨(if n = 1 then [116, 114, 117, 101] else [102, 97, 108, 115, 101] : List UInt8).toArray⟩) ∧ Below w.heap.size w w' := by
  have BX := Cbox.new w #[.int .i64 4, .int .i64 n, .int .i64 m, .string b] 42
  by_cases h : n = 1
  · subst h
    rw [if_pos rfl]
    go_enter Tryz.func41, Tryz.ntmps41
    go_wp2_with fail
    refine (R _).mono ?_
    rintro e w1 ⟨rfl, b1⟩
    have e0 := (BX.later b1).at 0
    have e1 := (BX.later b1).at 1
    have el := (BX.later b1).lt
    go_wp2
    go_ret
    exact ⟨rfl, below_trans ((Below.refl _ w).alloc (Nat.le_refl _) _) b1⟩
  · rw [if_neg h]
    have h' : (n == 1) = false := by rw [beq_eq_false_iff_ne]; exact h
    go_enter Tryz.func41, Tryz.ntmps41
    go_wp2_with fail
    refine (R _).mono ?_
    rintro e w1 ⟨rfl, b1⟩
    have e0 := (BX.later b1).at 0
    have e1 := (BX.later b1).at 1
    have el := (BX.later b1).lt
    go_wp2
    go_ret
    exact ⟨rfl, below_trans ((Below.refl _ w).alloc (Nat.le_refl _) _) b1⟩

theorem rvprint_lit (v : Va) (w : World) (hl : litV v = true) (hn : -9223372036854775808 ≤ v.n ∧ v.n ≤ 9223372036854775807) :
    Calls Tryz.prog 41 #[vv v] w fun e w' => e = .returned (.string ⟨(pvl v).toArray⟩) ∧ Below w.heap.size w w' := by
  have hvr : vr v = true := by unfold litV at hl; rw [Bool.and_eq_true] at hl; exact hl.1
  have hk5 : v.k ≠ 5 := fun h => by unfold litV at hl; simp [h] at hl
  have hok' := (vr_iff v).1 hvr
  obtain ⟨k, n, m, b⟩ := v
  have R : ∀ W, Calls Tryz.prog 68 #[va k n m ⟨b.toArray⟩] W fun e w' => e = .returned (.bool true) ∧ Below W.heap.size W w' := fun W => by
    have : Calls Tryz.prog 68 #[va k n m ⟨b.toArray⟩] W fun e w' => e = .returned (.bool (vr ⟨k, n, m, b⟩)) ∧ Below W.heap.size W w' := rright_any k n m ⟨b.toArray⟩ W
    rw [hvr] at this
    exact this
  unfold vok at hok'
  dsimp only at hok' hk5 hn ⊢
  unfold pvl
  dsimp only
  by_cases h123 : k = 1 ∨ k = 2 ∨ k = 3
  · rw [if_pos h123]
    unfold pv
    rw [hvr, if_pos rfl]
    rcases h123 with hk | hk | hk
    · subst hk
      exact rprint1 n m _ w hn R
    · subst hk
      have hm : 0 ≤ m ∧ m ≤ 6 := by simp at hok'; omega
      by_cases h0 : m = 0
      · exact rprint2a n m _ w hn hm h0 R
      · exact rprint2b n m _ w hn hm h0 R
    · subst hk
      have hl : b.length ≤ 256 := by simp at hok'; omega
      exact rprint3 n m _ w hl R
  · rw [if_neg h123, hvr, if_pos rfl]
    by_cases h4 : k = 4
    · subst h4
      rw [if_pos rfl]
      exact rprint4 n m _ w R
    · rw [if_neg h4]
      have h0 : k = 0 := by
        rcases hok' with h | h | h | h | h | h <;> omega
      subst h0
      exact rprint0 n m _ w R
end Go.Proofs.YtclhmmgdhagloaaGreatDoor

namespace Go.Proofs.YtclhmmgdhagloaaGreatDoor
open Go.RowKit

theorem rdigit_any (c : UInt8) (w : World) : Calls Tryz.prog 193 #[.int .u8 (c.toNat : Int)] w fun e w' => e = .returned (.bool (isD c)) ∧ w = w' := by
  have e : isD c = (decide ((48 : Int) ≤ (c.toNat : Int)) && decide ((c.toNat : Int) ≤ 57)) := by
    unfold isD
    have e1 : decide (48 ≤ c.toNat) = decide ((48 : Int) ≤ (c.toNat : Int)) := by simp; omega
    have e2 : decide (c.toNat ≤ 57) = decide ((c.toNat : Int) ≤ 57) := by simp; omega
    rw [e1, e2]
  rw [e]
  generalize (c.toNat : Int) = n
  by_cases h1 : (48 : Int) ≤ n
  · rw [decide_eq_true h1]
    go_enter Tryz.func193, Tryz.ntmps193
    go_wp2
    go_ret
    exact ⟨rfl, rfl⟩
  · rw [decide_eq_false h1]
    go_enter Tryz.func193, Tryz.ntmps193
    go_wp2
    go_ret
    exact ⟨rfl, rfl⟩

theorem rletter_any (c : UInt8) (w : World) : Calls Tryz.prog 192 #[.int .u8 (c.toNat : Int)] w fun e w' => e = .returned (.bool (isL c)) ∧ w = w' := by
  have e : isL c = ((decide ((97 : Int) ≤ (c.toNat : Int)) && decide ((c.toNat : Int) ≤ 122)) || ((c.toNat : Int) == 95)) := by
    unfold isL
    have e1 : decide (97 ≤ c.toNat) = decide ((97 : Int) ≤ (c.toNat : Int)) := by simp; omega
    have e2 : decide (c.toNat ≤ 122) = decide ((c.toNat : Int) ≤ 122) := by simp; omega
    have e3 : decide (c.toNat = 95) = ((c.toNat : Int) == 95) := by
      by_cases h : c.toNat = 95
      · rw [h]; rfl
      · rw [decide_eq_false h]; symm; rw [beq_eq_false_iff_ne]; omega
    rw [e1, e2, e3]
  rw [e]
  generalize (c.toNat : Int) = n
  by_cases h1 : (97 : Int) ≤ n
  · rw [decide_eq_true h1]
    by_cases h2 : n ≤ 122
    · rw [decide_eq_true h2]
      go_enter Tryz.func192, Tryz.ntmps192
      go_wp2
      go_ret
      exact ⟨rfl, rfl⟩
    · rw [decide_eq_false h2]
      go_enter Tryz.func192, Tryz.ntmps192
      go_wp2
      go_ret
      exact ⟨rfl, rfl⟩
  · rw [decide_eq_false h1]
    go_enter Tryz.func192, Tryz.ntmps192
    go_wp2
    go_ret
    exact ⟨rfl, rfl⟩

/-- A text's bytes, one by one. -/
theorem bat_get (l : List UInt8) : ∀ (k : Nat) h, (ByteArray.mk l.toArray)[k]'h = bat l k := fun k h => by
  have h' : k < l.length := h
  show l[k] = _
  unfold bat
  simp [List.getD, h']

end Go.Proofs.YtclhmmgdhagloaaGreatDoor

namespace Go.Proofs.YtclhmmgdhagloaaGreatDoor
open Go.RowKit

theorem wordN_all (m : List UInt8) : (wordN m = m.length) ↔ (∀ i (h : i < m.length), isW m[i] = true) := by
  induction m with
  | nil => simp [wordN]
  | cons c m ih =>
    by_cases hc : isW c = true
    · rw [wordN, if_pos hc]
      constructor
      · intro h i hi
        rw [List.length_cons] at h
        match i, hi with
        | 0, _ => exact hc
        | i + 1, hi => exact ih.1 (by omega) i (by simpa using hi)
      · intro h
        have := ih.2 (fun i hi => h (i + 1) (by simpa using hi))
        rw [List.length_cons]
        omega
    · rw [wordN, if_neg hc]
      constructor
      · intro h; simp at h
      · intro h; exact absurd (h 0 (by simp)) hc

/-- A word, byte by byte. -/
def okW (l : List UInt8) (i : Nat) : Bool := isL (bat l i) || (isD (bat l i) && decide (0 < i))
theorem wordL_iff (l : List UInt8) : wordL l = true ↔ ((∀ i, i < l.length → okW l i = true) ∧ 1 ≤ l.length ∧ l.length ≤ 32) := by
  match l with
  | [] => simp [wordL, lxt]
  | c :: m =>
    have hk : ∀ i (h : i < m.length), okW (c :: m) (i + 1) = isW m[i] := by
      intro i h
      unfold okW isW bat
      simp [List.getD, h]
    have h00 : okW (c :: m) 0 = isL c := by unfold okW bat; simp
    unfold wordL
    simp only [Bool.and_eq_true, decide_eq_true_eq]
    constructor
    · rintro ⟨h1, h2, h3⟩
      rw [lxt_cons] at h1 h2
      by_cases hL : isL c = true
      · rw [if_pos hL] at h2
        have hw := (wordN_all m).1 (by simpa using h2)
        refine ⟨?_, by simp, h3⟩
        intro i hi
        match i, hi with
        | 0, _ => rw [h00]; exact hL
        | i + 1, hi => rw [hk i (by simpa using hi)]; exact hw i (by simpa using hi)
      · rw [if_neg hL] at h1
        exfalso
        revert h1
        repeat' split
        all_goals simp
    · rintro ⟨h1, h2, h3⟩
      have hL : isL c = true := by rw [← h00]; exact h1 0 (by simp)
      rw [lxt_cons, if_pos hL]
      refine ⟨rfl, ?_, h3⟩
      have := (wordN_all m).2 (fun i hi => by rw [← hk i hi]; exact h1 (i + 1) (by simpa using hi))
      simp [this]

set_option maxRecDepth 20000 in
set_option maxHeartbeats 4000000 in
theorem rword_any (l : List UInt8) (w : World) (hl : l.length ≤ 140737488351232) : Calls Tryz.prog 125 #[.string ⟨l.toArray⟩] w fun e w' => e = .returned (.bool (wordL l)) ∧ w = w' := by
  have hs : (ByteArray.mk l.toArray).size = l.length := rfl
  have HG : Hid (∀ (k : Nat) h, (ByteArray.mk l.toArray)[k]'h = bat l k) := bat_get l
  obtain ⟨R, hR⟩ : ∃ R, R = wordL l := ⟨_, rfl⟩
  rw [← hR]
  have HR : Hid (R = wordL l) := hR
  clear hR
  have DD : ∀ c, ∀ W, Calls Tryz.prog 193 #[.int .u8 (c.toNat : Int)] W fun e w' => e = .returned (.bool (isD c)) ∧ W = w' := fun c W => rdigit_any c W
  have LL : ∀ c, ∀ W, Calls Tryz.prog 192 #[.int .u8 (c.toNat : Int)] W fun e w' => e = .returned (.bool (isL c)) ∧ W = w' := fun c W => rletter_any c W
  generalize ByteArray.mk l.toArray = S at *
  go_enter Tryz.func125, Tryz.ntmps125
  go_wp2
  go_loopw [3] (fun r3 wr => ∃ k : Nat, r3 = .int .i64 (k : Int) ∧ k ≤ l.length ∧ w = wr ∧ Hid (∀ i, i < k → okW l i = true)) (fun r _ => l.length - (intOf r).toNat)
  case atStart => exact ⟨0, rfl, Nat.zero_le _, rfl, fun i h => by omega⟩
  case round =>
    obtain ⟨k, rfl, hk, rfl, hH⟩ := hrel
    by_cases hlt : k < l.length
    · have hlt' : (k : Int) < (l.length : Int) := by omega
      have j0 : (0 : Int) ≤ (k : Int) := by omega
      have hgk := HG.out k
      have hokk : okW l k = (isL (bat l k) || (isD (bat l k) && decide (0 < k))) := rfl
      obtain ⟨c, hc⟩ : ∃ c, c = bat l k := ⟨_, rfl⟩
      rw [← hc] at hgk hokk
      have Dk := DD c
      have Lk := LL c
      clear HG DD LL hc
      have step : okW l k = true → Hid (∀ i, i < k + 1 → okW l i = true) := by
        intro h
        show ∀ i, i < k + 1 → okW l i = true
        intro i hi
        by_cases h' : i < k
        · exact hH.out i h'
        · have : i = k := by omega
          subst this; exact h
      have stop : okW l k = false → Hid (R = false) := by
        intro h
        show R = false
        rw [HR.out]
        cases hw : wordL l with
        | false => rfl
        | true =>
          have := ((wordL_iff l).1 hw).1 k hlt
          rw [h] at this; cases this
      cases hcl : isL c with
      | true =>
        rw [hcl] at Lk
        have hH' := step (by rw [hokk, hcl]; rfl)
        clear step stop hokk hcl hH HR
        go_wp2_with (first
          | (go_at_call 192; refine (Lk _).mono ?_; rintro e w' ⟨rfl, rfl⟩)
          | (go_at_call 193; refine (Dk _).mono ?_; rintro e w' ⟨rfl, rfl⟩))
        exact ⟨⟨k + 1, by rw [cast1], by omega, trivial, hH'⟩, by simp [intOf] <;> omega⟩
      | false =>
        rw [hcl] at Lk
        cases hcd : isD c with
        | false =>
          rw [hcd] at Dk
          have hR' := stop (by rw [hokk, hcl, hcd]; rfl)
          clear step stop hokk hcl hcd hH HR
          go_wp2_with (first
          | (go_at_call 192; refine (Lk _).mono ?_; rintro e w' ⟨rfl, rfl⟩)
          | (go_at_call 193; refine (Dk _).mono ?_; rintro e w' ⟨rfl, rfl⟩))
          go_ret
          exact ⟨by rw [hR'.out]; rfl, rfl⟩
        | true =>
          rw [hcd] at Dk
          by_cases h0 : 0 < k
          · have h0' : (0 : Int) < (k : Int) := by omega
            have hH' := step (by rw [hokk, hcl, hcd, decide_eq_true h0]; rfl)
            clear step stop hokk hcl hcd hH HR
            go_wp2_with (first
          | (go_at_call 192; refine (Lk _).mono ?_; rintro e w' ⟨rfl, rfl⟩)
          | (go_at_call 193; refine (Dk _).mono ?_; rintro e w' ⟨rfl, rfl⟩))
            exact ⟨⟨k + 1, by rw [cast1], by omega, trivial, hH'⟩, by simp [intOf] <;> omega⟩
          · have h0' : ¬ (0 : Int) < (k : Int) := by omega
            have hR' := stop (by rw [hokk, hcl, hcd, decide_eq_false h0]; rfl)
            clear step stop hokk hcl hcd hH HR
            go_wp2_with (first
          | (go_at_call 192; refine (Lk _).mono ?_; rintro e w' ⟨rfl, rfl⟩)
          | (go_at_call 193; refine (Dk _).mono ?_; rintro e w' ⟨rfl, rfl⟩))
            go_ret
            exact ⟨by rw [hR'.out]; rfl, rfl⟩
    · have hlt' : ¬ (k : Int) < (l.length : Int) := by omega
      have hR' : Hid (R = (decide ((1 : Int) ≤ (l.length : Int)) && decide ((l.length : Int) ≤ 32))) := by
        show R = _
        rw [HR.out]
        have hw := wordL_iff l
        have hall : ∀ i, i < l.length → okW l i = true := fun i hi => hH.out i (by omega)
        by_cases h1 : 1 ≤ l.length ∧ l.length ≤ 32
        · rw [hw.2 ⟨hall, h1⟩, decide_eq_true (show (1 : Int) ≤ (l.length : Int) by omega), decide_eq_true (show (l.length : Int) ≤ 32 by omega)]; rfl
        · cases hx : wordL l with
          | true => exact absurd (hw.1 hx).2 h1
          | false =>
            symm
            rw [Bool.and_eq_false_iff]
            by_cases h : 1 ≤ l.length
            · right; simp; omega
            · left; simp; omega
      by_cases h1 : (1 : Int) ≤ (l.length : Int)
      · rw [decide_eq_true h1, Bool.true_and] at hR'
        clear hH HR HG DD LL
        go_wp2
        go_ret
        exact ⟨by rw [hR'.out]; rfl, rfl⟩
      · rw [decide_eq_false h1, Bool.false_and] at hR'
        clear hH HR HG DD LL
        go_wp2
        go_ret
        exact ⟨by rw [hR'.out]; rfl, rfl⟩
end Go.Proofs.YtclhmmgdhagloaaGreatDoor

namespace Go.Proofs.YtclhmmgdhagloaaGreatDoor
open Go.ChangeShapes Go.WideShapes Go.ChangeAt Go.WideMaps Go.WideElems Go.RowKit Go.Shelf Go.Lib

theorem elk_b : joinedFacts Tryz.pinned.checked.prog 3 Tryz.f3 Rows.exprLooksSpec Rows.exprLooksRow = true := by kernel_rfl
end Go.Proofs.YtclhmmgdhagloaaGreatDoor
