/-
  The document's Print and Parse at whatever comes in.
-/
import Derived.Test.YtibbenhplmmmiaaGreatDoorDTm
import Derived.Test.YtibbenhplmmmiaaGreatDoorDTq
import Derived.Test.YtibbenhplmmmiaaGreatDoorDTr1
import Derived.Test.YtibbenhplmmmiaaGreatDoorDTr2
import Derived.Test.YtibbenhplmmmiaaGreatDoorMSDTfB
import Derived.Test.YtibbenhplmmmiaaGreatDoorPtR
import Derived.Test.YtibbenhplmmmiaaGreatDoorMYDRefP2
namespace Go.Proofs.YtibbenhplmmmiaaGreatDoor.Dt
open Go.RowKit Go.Shelf
attribute [local go_sem] cell?_more frozen?_more setCell_more more_lt more_more more_drew more_drewN setCell_drewN alloc_drewN
set_option maxHeartbeats 2000000 in
theorem rprint0 (n m : Int) (b : ByteArray) (w : World)
    (R : ∀ W, Calls Tryz.prog 13 #[va 0 n m b] W fun e w' => e = .returned (.bool true) ∧ Below W.heap.size W w') :
    Calls Tryz.prog 9 #[va 0 n m b] w fun e w' => e = .returned (.string ⟨#[110, 117, 108, 108]⟩) ∧ Below w.heap.size w w' := by
  have BX := Cbox.new w #[.int .i64 0, .int .i64 n, .int .i64 m, .string b] 23
  go_enter Tryz.func9, Tryz.ntmps9
  go_wp2_with fail
  refine (R _).mono ?_
  rintro e w1 ⟨rfl, b1⟩
  have e0 := (BX.later b1).at 0
  have e1 := (BX.later b1).at 1
  have el := (BX.later b1).lt
  go_wp2
  go_ret
  exact ⟨rfl, below_trans ((Below.refl _ w).alloc (Nat.le_refl _) _) b1⟩
set_option maxHeartbeats 2000000 in
theorem rprint4 (n m : Int) (b : ByteArray) (w : World)
    (R : ∀ W, Calls Tryz.prog 13 #[va 4 n m b] W fun e w' => e = .returned (.bool true) ∧ Below W.heap.size W w') :
    Calls Tryz.prog 9 #[va 4 n m b] w fun e w' => e = .returned (.string ⟨(if n = 1 then [116, 114, 117, 101] else [102, 97, 108, 115, 101] : List UInt8).toArray⟩) ∧ Below w.heap.size w w' := by
  have BX := Cbox.new w #[.int .i64 4, .int .i64 n, .int .i64 m, .string b] 23
  by_cases h : n = 1
  · subst h
    rw [if_pos rfl]
    go_enter Tryz.func9, Tryz.ntmps9
    go_wp2_with fail
    refine (R _).mono ?_
    rintro e w1 ⟨rfl, b1⟩
    have e0 := (BX.later b1).at 0
    have e1 := (BX.later b1).at 1
    have el := (BX.later b1).lt
    go_wp2
    go_ret
    exact ⟨rfl, below_trans ((Below.refl _ w).alloc (Nat.le_refl _) _) b1⟩
  · rw [if_neg h]
    have h' : (n == 1) = false := by rw [beq_eq_false_iff_ne]; exact h
    go_enter Tryz.func9, Tryz.ntmps9
    go_wp2_with fail
    refine (R _).mono ?_
    rintro e w1 ⟨rfl, b1⟩
    have e0 := (BX.later b1).at 0
    have e1 := (BX.later b1).at 1
    have el := (BX.later b1).lt
    go_wp2
    go_ret
    exact ⟨rfl, below_trans ((Below.refl _ w).alloc (Nat.le_refl _) _) b1⟩

theorem rvprint_any (v : Va) (w : World) (hk : v.k = 1 ∨ v.k = 2 ∨ v.k = 3) (hn : -9223372036854775808 ≤ v.n ∧ v.n ≤ 9223372036854775807) :
    Calls Tryz.prog 9 #[vv v] w fun e w' => e = .returned (.string ⟨(pv v).toArray⟩) ∧ Below w.heap.size w w' := by
  obtain ⟨k, n, m, b⟩ := v
  have R : ∀ W, Calls Tryz.prog 13 #[va k n m ⟨b.toArray⟩] W fun e w' => e = .returned (.bool (vr ⟨k, n, m, b⟩)) ∧ Below W.heap.size W w' := fun W => rright_any k n m ⟨b.toArray⟩ W
  have hok := vr_iff ⟨k, n, m, b⟩
  unfold pv
  cases hvr : vr ⟨k, n, m, b⟩ with
  | false =>
    rw [hvr] at R
    rw [if_neg (by simp)]
    exact rprint_no k n m _ w R
  | true =>
    rw [hvr] at R
    have hok' := hok.1 hvr
    rw [if_pos rfl]
    rcases hk with hk | hk | hk
    · have hk' : k = 1 := hk
      subst hk'
      exact rprint1 n m _ w hn R
    · have hk' : k = 2 := hk
      subst hk'
      have hm : 0 ≤ m ∧ m ≤ 6 := by
        have h := hok'
        unfold vok at h
        simp at h
        omega
      by_cases h0 : m = 0
      · exact rprint2a n m _ w hn hm h0 R
      · exact rprint2b n m _ w hn hm h0 R
    · have hk' : k = 3 := hk
      subst hk'
      have hl : b.length ≤ 256 := by
        have h := hok'
        unfold vok at h
        simp at h
        omega
      exact rprint3 n m _ w hl R


theorem rdp (t : List UInt8) (hl : t.length ≤ 140737488351232) : ∃ E, ∀ W, Calls Tryz.prog 33 #[.string ⟨t.toArray⟩] W fun e w' => e = .returned (.tuple #[dv (pU t) (pS t), .int .i64 E]) ∧ Below W.heap.size W w' := by
  obtain ⟨E, hE⟩ := PV_parts t
  refine ⟨E, fun W => ?_⟩
  refine (rparse_all t W hl).mono ?_
  rintro e w' ⟨h1, h2⟩
  exact ⟨by rw [h1, hE], h2.below⟩
set_option maxHeartbeats 2000000 in
theorem rprint5 (n m : Int) (b : ByteArray) (w : World) (T : List UInt8)
    (R : ∀ W, Calls Tryz.prog 13 #[va 5 n m b] W fun e w' => e = .returned (.bool true) ∧ Below W.heap.size W w')
    (P : ∀ W, Calls Tryz.prog 42 #[.agg #[.int .i64 n, .int .i64 m]] W fun e w' => e = .returned (.string ⟨T.toArray⟩) ∧ Below W.heap.size W w') :
    Calls Tryz.prog 9 #[va 5 n m b] w fun e w' => e = .returned (.string ⟨T.toArray⟩) ∧ Below w.heap.size w w' := by
  have BX := Cbox.new w #[.int .i64 5, .int .i64 n, .int .i64 m, .string b] 23
  generalize ByteArray.mk T.toArray = TB at *
  go_enter Tryz.func9, Tryz.ntmps9
  go_wp2_with fail
  refine (R _).mono ?_
  rintro e w1 ⟨rfl, b1⟩
  have e0 := (BX.later b1).at 0
  have e1 := (BX.later b1).at 1
  have e2 := (BX.later b1).at 2
  have el := (BX.later b1).lt
  have B1 := below_trans ((Below.refl _ w).alloc (Nat.le_refl _) _) b1
  go_wp2_with fail
  refine (P _).mono ?_
  rintro e w2 ⟨rfl, b2⟩
  have B2 := below_trans B1 b2
  go_wp2
  go_ret
  exact ⟨rfl, B2⟩
/-- The document's text of whatever value. -/
theorem rprint_all (v : Va) (w : World) (hn : rg v) : Calls Tryz.prog 9 #[vv v] w fun e w' => e = .returned (.string ⟨(tx v).toArray⟩) ∧ Below w.heap.size w w' := by
  cases hvr : vr v with
  | false =>
    rw [tx_no hvr]
    refine rprint_no v.k v.n v.m _ w (fun W => ?_)
    have : Calls Tryz.prog 13 #[va v.k v.n v.m ⟨v.b.toArray⟩] W fun e w' => e = .returned (.bool (vr v)) ∧ Below W.heap.size W w' := rright_any v.k v.n v.m ⟨v.b.toArray⟩ W
    rwa [hvr] at this
  | true =>
    have hok := (vr_iff v).1 hvr
    have hx : tx v = (if v.k = 1 ∨ v.k = 2 ∨ v.k = 3 then ptext v else if v.k = 4 then (if v.n = 1 then wT else wF) else if v.k = 5 then Pt.gtx v.n v.m else wN) := by unfold tx; rw [hvr, if_pos rfl]
    rw [hx]
    by_cases h123 : v.k = 1 ∨ v.k = 2 ∨ v.k = 3
    · rw [if_pos h123]
      have h := rvprint_any v w h123 hn
      have e : pv v = ptext v := by unfold pv; rw [hvr, if_pos rfl]
      rwa [e] at h
    rw [if_neg h123]
    obtain ⟨k, n, m, b⟩ := v
    have R : ∀ W, Calls Tryz.prog 13 #[va k n m ⟨b.toArray⟩] W fun e w' => e = .returned (.bool true) ∧ Below W.heap.size W w' := fun W => by
      have : Calls Tryz.prog 13 #[va k n m ⟨b.toArray⟩] W fun e w' => e = .returned (.bool (vr ⟨k, n, m, b⟩)) ∧ Below W.heap.size W w' := rright_any k n m ⟨b.toArray⟩ W
      rw [hvr] at this
      exact this
    dsimp only at h123 ⊢
    unfold vok at hok
    dsimp only at hok
    by_cases h4 : k = 4
    · subst h4; rw [if_pos rfl]; exact rprint4 n m _ w R
    rw [if_neg h4]
    by_cases h5 : k = 5
    · subst h5
      rw [if_pos rfl]
      have hq : (-1048576 ≤ n ∧ n ≤ 1048576) ∧ (-1048576 ≤ m ∧ m ≤ 1048576) := by simp at hok; omega
      have hg : (Pt.ok1 n && Pt.ok1 m) = true := by rw [(Pt.ok1_iff n).2 hq.1, (Pt.ok1_iff m).2 hq.2]; rfl
      exact rprint5 n m _ w _ R (fun W => Pt.rprint_ok n m W hg)
    · rw [if_neg h5]
      have hk : k = 0 := by
        rcases hok with h | h | h | h | h | h <;> omega
      subst hk
      exact rprint0 n m _ w R
theorem not_empty (c : UInt8) (l : List UInt8) : (ByteArray.mk (c :: l).toArray).toList.isEmpty = false := by rw [ByteArray.toList_eq]; rfl
theorem ba_is (t : List UInt8) : ((ByteArray.mk t.toArray).toList == t) = true := by rw [ByteArray.toList_eq]; simp
theorem ba_no (t u : List UInt8) (h : t ≠ u) : ((ByteArray.mk t.toArray).toList == u) = false := by rw [ByteArray.toList_eq, beq_eq_false_iff_ne]; exact h
theorem is_ba (t : List UInt8) : (t == (ByteArray.mk t.toArray).toList) = true := by rw [ByteArray.toList_eq]; simp
theorem tx_T : tx ⟨4, 1, 0, []⟩ = wT := by unfold tx; rw [if_pos (by decide +kernel), if_neg (by decide), if_pos rfl, if_pos rfl]
theorem tx_F : tx ⟨4, 0, 0, []⟩ = wF := by unfold tx; rw [if_pos (by decide +kernel), if_neg (by decide), if_pos rfl, if_neg (by decide)]
theorem tx_N : tx ⟨0, 0, 0, []⟩ = wN := by unfold tx; rw [if_pos (by decide +kernel), if_neg (by decide), if_neg (by decide), if_neg (by decide)]
theorem dr_T : drG wT = some ⟨4, 1, 0, []⟩ := by
  have e : rv wT = ⟨4, 1, 0, []⟩ := by unfold rv; rw [if_pos rfl]
  unfold drG; rw [e, if_pos ⟨by decide, tx_T⟩]
theorem dr_F : drG wF = some ⟨4, 0, 0, []⟩ := by
  have e : rv wF = ⟨4, 0, 0, []⟩ := by unfold rv; rw [if_neg (by decide), if_pos rfl]
  unfold drG; rw [e, if_pos ⟨by decide, tx_F⟩]
theorem dr_N : drG wN = some ⟨0, 0, 0, []⟩ := by
  have e : rv wN = ⟨0, 0, 0, []⟩ := by unfold rv; rw [if_neg (by decide), if_neg (by decide), if_neg (by decide), if_neg (by decide), if_neg (by decide), if_neg (by simp)]
  unfold drG; rw [e, if_pos ⟨by decide, tx_N⟩]
theorem rg0 (k n m : Int) (b : List UInt8) (h : n = 0 ∨ n = 1) : rg ⟨k, n, m, b⟩ := by unfold rg; dsimp only; omega
/-- The document's Parse of whatever text. -/
theorem rparse_all4 (t : List UInt8) (w : World) (hl : t.length ≤ 140737488351232) : Calls Tryz.prog 7 #[.string ⟨t.toArray⟩] w fun e w' => e = .returned (dpR (drG t)) ∧ Below w.heap.size w w' := by
  by_cases hT : t = wT
  · subst hT
    rw [dr_T]
    have P := fun W => rprint_all ⟨4, 1, 0, []⟩ W (rg0 _ _ _ _ (.inr rfl))
    rw [tx_T] at P
    exact rpT wT _ w rfl (is_ba wT) (not_empty _ _) (ba_no _ _ (by decide)) (ba_is _) (ba_no _ _ (by decide)) P
  by_cases hF : t = wF
  · subst hF
    rw [dr_F]
    have P := fun W => rprint_all ⟨4, 0, 0, []⟩ W (rg0 _ _ _ _ (.inl rfl))
    rw [tx_F] at P
    exact rpF wF _ w rfl (is_ba wF) (not_empty _ _) (ba_no _ _ (by decide)) (ba_no _ _ (by decide)) (ba_is _) P
  by_cases hN : t = wN
  · subst hN
    rw [dr_N]
    have P := fun W => rprint_all ⟨0, 0, 0, []⟩ W (rg0 _ _ _ _ (.inl rfl))
    rw [tx_N] at P
    exact rpN wN _ w rfl (is_ba wN) (not_empty _ _) (ba_is _) (ba_no _ _ (by decide)) (ba_no _ _ (by decide)) (fun _ => rfl) (fun _ => rfl) P
  cases t with
  | nil =>
    have e : drG [] = none := by unfold drG; rw [if_neg (by simp)]
    rw [e]
    exact rpE _ w rfl (by rw [ByteArray.toList_eq]; rfl) (by rw [ByteArray.toList_eq]; rfl) (by rw [ByteArray.toList_eq]; rfl)
  | cons c l =>
  have n0 := not_empty c l
  have n1 := ba_no _ _ hN
  have n2 := ba_no _ _ hT
  have n3 := ba_no _ _ hF
  have hS : (ByteArray.mk (c :: l).toArray).size = (c :: l).length := rfl
  have h1 : 1 ≤ (c :: l).length := by simp
  have hg0 : ∀ h, (ByteArray.mk (c :: l).toArray)[0]'h = c := fun h => rfl
  have hgl : ∀ h, (ByteArray.mk (c :: l).toArray)[(c :: l).length - 1]'h = (c :: l).getLast (by simp) := fun h => by
    rw [List.getLast_eq_getElem]; rfl
  have hlast : (c :: l).getLast? = some ((c :: l).getLast (by simp)) := List.getLast?_eq_some_getLast (by simp)
  have heq : ∀ q : List UInt8, (q == (ByteArray.mk (c :: l).toArray).toList) = decide (q = c :: l) := fun q => by
    rw [ByteArray.toList_eq]
    by_cases h : q = c :: l
    · subst h; simp
    · rw [decide_eq_false h, beq_eq_false_iff_ne]; exact h
  have rv_rg' := rv_rg (c :: l)
  unfold drG
  by_cases h2 : 2 ≤ (c :: l).length
  · by_cases c39 : c = 39
    · have hrv : rv (c :: l) = rvA (c :: l) := by unfold rv; rw [if_neg hT, if_neg hF, if_pos ⟨h2, by rw [c39]; rfl⟩]
      have h39 : ((c.toNat : Int) == 39) = true := by rw [c39]; rfl
      have Q := fun W => rquoted_any (c :: l) W hl h2
      rw [hrv]
      have P := fun W => rprint_all (rvA (c :: l)) W (by first | exact rv_rg' | (rw [← hrv]; exact rv_rg _))
      have he := heq (tx (rvA (c :: l)))
      by_cases h : tx (rvA (c :: l)) = c :: l
      · rw [if_pos ⟨by simp, h⟩]
        rw [decide_eq_true h] at he
        exact rpA (c :: l) _ _ c _ _ w hS he h1 hl n0 n1 n2 n3 hg0 hgl h39 h2 Q P
      · rw [if_neg (fun q => h q.2)]
        rw [decide_eq_false h] at he
        exact rpAn (c :: l) _ _ c _ _ w hS he h1 hl n0 n1 n2 n3 hg0 hgl h39 h2 Q P
    have h39 : ((c.toNat : Int) == 39) = false := by have := eqInt c 39; rwa [decide_eq_false c39] at this
    by_cases c60 : c = 60
    · have hrv : rv (c :: l) = ⟨5, (Pt.gpv (c :: l)).1, (Pt.gpv (c :: l)).2.1, []⟩ := by unfold rv; rw [if_neg hT, if_neg hF, if_neg (by simp [c39]), if_pos ⟨h2, by rw [c60]; rfl⟩]
      have h60 : ((c.toNat : Int) == 60) = true := by rw [c60]; rfl
      have D := fun W => Pt.rparse_any (c :: l) W (by omega)
      rw [hrv]
      have P := fun W => rprint_all (⟨5, (Pt.gpv (c :: l)).1, (Pt.gpv (c :: l)).2.1, []⟩) W (by first | exact rv_rg' | (rw [← hrv]; exact rv_rg _))
      have he := heq (tx (⟨5, (Pt.gpv (c :: l)).1, (Pt.gpv (c :: l)).2.1, []⟩))
      by_cases h : tx (⟨5, (Pt.gpv (c :: l)).1, (Pt.gpv (c :: l)).2.1, []⟩) = c :: l
      · rw [if_pos ⟨by simp, h⟩]
        rw [decide_eq_true h] at he
        exact rpL (c :: l) _ _ c _ _ _ _ w hS he h1 hl n0 n1 n2 n3 hg0 hgl h39 h60 h2 D P
      · rw [if_neg (fun q => h q.2)]
        rw [decide_eq_false h] at he
        exact rpLn (c :: l) _ _ c _ _ _ _ w hS he h1 hl n0 n1 n2 n3 hg0 hgl h39 h60 h2 D P
    have h60 : ((c.toNat : Int) == 60) = false := by have := eqInt c 60; rwa [decide_eq_false c60] at this
    by_cases h46 : (c :: l).getLast? = some 46
    · have hrv : rv (c :: l) = ⟨2, pU (c :: l).dropLast, pS (c :: l).dropLast, []⟩ := by unfold rv; rw [if_neg hT, if_neg hF, if_neg (by simp [c39]), if_neg (by simp [c60]), if_pos ⟨h2, h46⟩]; rfl
      have e46 : ((((c :: l).getLast (by simp)).toNat : Int) == 46) = true := by
        rw [hlast] at h46
        rw [Option.some.inj h46]; rfl
      have hx : (ByteArray.mk (c :: l).toArray).extract 0 ((c :: l).length - 1) = ⟨((c :: l).dropLast).toArray⟩ := by
        rw [ba_extract, List.dropLast_eq_take]; rfl
      obtain ⟨E, D⟩ := rdp (c :: l).dropLast (by rw [List.length_dropLast]; omega)
      rw [hrv]
      have P := fun W => rprint_all (⟨2, pU (c :: l).dropLast, pS (c :: l).dropLast, []⟩) W (by first | exact rv_rg' | (rw [← hrv]; exact rv_rg _))
      have he := heq (tx (⟨2, pU (c :: l).dropLast, pS (c :: l).dropLast, []⟩))
      by_cases h : tx (⟨2, pU (c :: l).dropLast, pS (c :: l).dropLast, []⟩) = c :: l
      · rw [if_pos ⟨by simp, h⟩]
        rw [decide_eq_true h] at he
        exact rpB (c :: l) _ _ c _ _ _ E _ w hS he h1 hl n0 n1 n2 n3 hg0 hgl h39 h60 e46 h2 hx D P
      · rw [if_neg (fun q => h q.2)]
        rw [decide_eq_false h] at he
        exact rpBn (c :: l) _ _ c _ _ _ E _ w hS he h1 hl n0 n1 n2 n3 hg0 hgl h39 h60 e46 h2 hx D P
    have e46 : ((((c :: l).getLast (by simp)).toNat : Int) == 46) = false := by
      have := eqInt ((c :: l).getLast (by simp)) 46
      rwa [decide_eq_false (fun h => h46 (by rw [hlast, h]))] at this
    have hrv0 : rv (c :: l) = rvC (c :: l) := by unfold rv; rw [if_neg hT, if_neg hF, if_neg (by simp [c39]), if_neg (by simp [c60]), if_neg (fun h => h46 h.2), if_pos ⟨by simp, hN⟩]
    obtain ⟨E, D⟩ := rdp (c :: l) hl
    by_cases hV : 0 < pS (c :: l)
    · have hrv : rv (c :: l) = ⟨2, pU (c :: l), pS (c :: l), []⟩ := by rw [hrv0]; unfold rvC; rw [if_pos hV]
      rw [hrv]
      have P := fun W => rprint_all (⟨2, pU (c :: l), pS (c :: l), []⟩) W (by first | exact rv_rg' | (rw [← hrv]; exact rv_rg _))
      have he := heq (tx (⟨2, pU (c :: l), pS (c :: l), []⟩))
      by_cases h : tx (⟨2, pU (c :: l), pS (c :: l), []⟩) = c :: l
      · rw [if_pos ⟨by simp, h⟩]
        rw [decide_eq_true h] at he
        exact rpC2 (c :: l) _ _ c _ _ _ E w hS he h1 hl n0 n1 n2 n3 hg0 hgl h39 h60 e46 h2 hV D P
      · rw [if_neg (fun q => h q.2)]
        rw [decide_eq_false h] at he
        exact rpC2n (c :: l) _ _ c _ _ _ E w hS he h1 hl n0 n1 n2 n3 hg0 hgl h39 h60 e46 h2 hV D P
    · have hrv : rv (c :: l) = ⟨1, pU (c :: l), 0, []⟩ := by rw [hrv0]; unfold rvC; rw [if_neg hV]
      rw [hrv]
      have P := fun W => rprint_all (⟨1, pU (c :: l), 0, []⟩) W (by first | exact rv_rg' | (rw [← hrv]; exact rv_rg _))
      have he := heq (tx (⟨1, pU (c :: l), 0, []⟩))
      by_cases h : tx (⟨1, pU (c :: l), 0, []⟩) = c :: l
      · rw [if_pos ⟨by simp, h⟩]
        rw [decide_eq_true h] at he
        exact rpC1 (c :: l) _ _ c _ _ _ E w hS he h1 hl n0 n1 n2 n3 hg0 hgl h39 h60 e46 h2 hV D P
      · rw [if_neg (fun q => h q.2)]
        rw [decide_eq_false h] at he
        exact rpC1n (c :: l) _ _ c _ _ _ E w hS he h1 hl n0 n1 n2 n3 hg0 hgl h39 h60 e46 h2 hV D P
  · have hrv0 : rv (c :: l) = rvC (c :: l) := by unfold rv; rw [if_neg hT, if_neg hF, if_neg (fun h => h2 h.1), if_neg (fun h => h2 h.1), if_neg (fun h => h2 h.1), if_pos ⟨by simp, hN⟩]
    obtain ⟨E, D⟩ := rdp (c :: l) hl
    by_cases hV : 0 < pS (c :: l)
    · have hrv : rv (c :: l) = ⟨2, pU (c :: l), pS (c :: l), []⟩ := by rw [hrv0]; unfold rvC; rw [if_pos hV]
      rw [hrv]
      have P := fun W => rprint_all (⟨2, pU (c :: l), pS (c :: l), []⟩) W (by first | exact rv_rg' | (rw [← hrv]; exact rv_rg _))
      have he := heq (tx (⟨2, pU (c :: l), pS (c :: l), []⟩))
      by_cases h : tx (⟨2, pU (c :: l), pS (c :: l), []⟩) = c :: l
      · rw [if_pos ⟨by simp, h⟩]
        rw [decide_eq_true h] at he
        exact rpD2 (c :: l) _ _ c _ _ _ E w hS he h1 hl n0 n1 n2 n3 hg0 hgl h2 hV D P
      · rw [if_neg (fun q => h q.2)]
        rw [decide_eq_false h] at he
        exact rpD2n (c :: l) _ _ c _ _ _ E w hS he h1 hl n0 n1 n2 n3 hg0 hgl h2 hV D P
    · have hrv : rv (c :: l) = ⟨1, pU (c :: l), 0, []⟩ := by rw [hrv0]; unfold rvC; rw [if_neg hV]
      rw [hrv]
      have P := fun W => rprint_all (⟨1, pU (c :: l), 0, []⟩) W (by first | exact rv_rg' | (rw [← hrv]; exact rv_rg _))
      have he := heq (tx (⟨1, pU (c :: l), 0, []⟩))
      by_cases h : tx (⟨1, pU (c :: l), 0, []⟩) = c :: l
      · rw [if_pos ⟨by simp, h⟩]
        rw [decide_eq_true h] at he
        exact rpD1 (c :: l) _ _ c _ _ _ E w hS he h1 hl n0 n1 n2 n3 hg0 hgl h2 hV D P
      · rw [if_neg (fun q => h q.2)]
        rw [decide_eq_false h] at he
        exact rpD1n (c :: l) _ _ c _ _ _ E w hS he h1 hl n0 n1 n2 n3 hg0 hgl h2 hV D P
end Go.Proofs.YtibbenhplmmmiaaGreatDoor.Dt
