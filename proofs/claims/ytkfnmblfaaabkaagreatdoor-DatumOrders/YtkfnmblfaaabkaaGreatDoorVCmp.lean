/-
  The contracts of the library's Compare and Or, and of datum's byParts.
-/
import Derived.Test.YtkfnmblfaaabkaaGreatDoorVRow
namespace Go.Proofs.YtkfnmblfaaabkaaGreatDoor
open Go.RowKit Go.Shelf
attribute [local go_sem] cell?_more frozen?_more setCell_more more_lt more_more more_drew more_drewN setCell_drewN alloc_drewN

theorem nanI_any (x : Int) (w : World) : Calls Tryz.prog 95 #[.int .i64 x] w fun e w' => e = .returned (.bool false) ∧ w = w' := by
  go_enter Tryz.func95, Tryz.ntmps95
  go_wp2
  all_goals go_ret
  all_goals exact ⟨rfl, rfl⟩
theorem nanS_any (x : ByteArray) (w : World) : Calls Tryz.prog 131 #[.string x] w fun e w' => e = .returned (.bool false) ∧ w = w' := by
  go_enter Tryz.func131, Tryz.ntmps131
  go_wp2
  all_goals go_ret
  all_goals exact ⟨rfl, rfl⟩

theorem cmpI_any (x y : Int) (w : World) : Calls Tryz.prog 57 #[.int .i64 x, .int .i64 y] w fun e w' => e = .returned (.int .i64 (numc x y)) ∧ w = w' := by
  by_cases h : x < y
  · rw [show numc x y = -1 by unfold numc; rw [if_pos h]]
    go_enter Tryz.func57, Tryz.ntmps57
    go_wp2_with (go_at_call 95; refine (nanI_any _ _).mono ?_; rintro e w' ⟨rfl, rfl⟩)
    all_goals go_ret
    all_goals exact ⟨rfl, rfl⟩
  · by_cases h' : y < x
    · rw [show numc x y = 1 by unfold numc; rw [if_neg h, if_pos h']]
      go_enter Tryz.func57, Tryz.ntmps57
      go_wp2_with (go_at_call 95; refine (nanI_any _ _).mono ?_; rintro e w' ⟨rfl, rfl⟩)
      all_goals go_ret
      all_goals exact ⟨rfl, rfl⟩
    · rw [show numc x y = 0 by unfold numc; rw [if_neg h, if_neg (by omega)]]
      go_enter Tryz.func57, Tryz.ntmps57
      go_wp2_with (go_at_call 95; refine (nanI_any _ _).mono ?_; rintro e w' ⟨rfl, rfl⟩)
      all_goals go_ret
      all_goals exact ⟨rfl, rfl⟩

theorem lexc_eq (x y : List UInt8) : (x == y) = decide (lexc x y = 0) := by
  by_cases h : x = y
  · subst h; simp [lexc_refl]
  · have : lexc x y ≠ 0 := fun h0 => h (lexc_zero h0)
    simp [h, this]

theorem cmpS_any (x y : ByteArray) (w : World) : Calls Tryz.prog 90 #[.string x, .string y] w fun e w' => e = .returned (.int .i64 (lexc x.data.toList y.data.toList)) ∧ w = w' := by
  have h1 := lexc_less x.data.toList y.data.toList
  have h2 := lexc_eq x.data.toList y.data.toList
  have h3 := lexc_range x.data.toList y.data.toList
  have l1 : Op.bytesLess x.toList y.toList = decide (lexc x.data.toList y.data.toList < 0) := by rw [Lib.toList_data, Lib.toList_data]; exact h1
  have l2 : (x.toList == y.toList) = decide (lexc x.data.toList y.data.toList = 0) := by rw [Lib.toList_data, Lib.toList_data]; exact h2
  generalize lexc x.data.toList y.data.toList = c at *
  rcases h3 with rfl | rfl | rfl
  · have l1' : Op.bytesLess x.toList y.toList = true := l1
    clear h1 h2 l1 l2
    go_enter Tryz.func90, Tryz.ntmps90
    go_wp2_with (go_at_call 131; refine (nanS_any _ _).mono ?_; rintro e w' ⟨rfl, rfl⟩)
    all_goals go_ret
    all_goals exact ⟨rfl, rfl⟩
  · have l1' : Op.bytesLess x.toList y.toList = false := l1
    have l2' : (x.toList == y.toList) = true := l2
    clear h1 h2 l1 l2
    go_enter Tryz.func90, Tryz.ntmps90
    go_wp2_with (go_at_call 131; refine (nanS_any _ _).mono ?_; rintro e w' ⟨rfl, rfl⟩)
    all_goals go_ret
    all_goals exact ⟨rfl, rfl⟩
  · have l1' : Op.bytesLess x.toList y.toList = false := l1
    have l2' : (x.toList == y.toList) = false := l2
    clear h1 h2 l1 l2
    go_enter Tryz.func90, Tryz.ntmps90
    go_wp2_with (go_at_call 131; refine (nanS_any _ _).mono ?_; rintro e w' ⟨rfl, rfl⟩)
    all_goals go_ret
    all_goals exact ⟨rfl, rfl⟩

/-- The first that is not 0. -/
def orL : List Int → Int
  | [] => 0
  | z :: l => orr z (orL l)
theorem orL_drop (zs : List Int) (k : Nat) (h : ∀ i (h : i < zs.length), i < k → zs[i] = 0) : orL zs = orL (zs.drop k) := by
  induction k generalizing zs with
  | zero => rfl
  | succ k ih =>
    cases zs with
    | nil => rfl
    | cons z l =>
      have h0 : z = 0 := h 0 (by simp) (by omega)
      subst h0
      simp only [orL, orr_zero, List.drop_succ_cons]
      exact ih l fun i hi hk => h (i + 1) (by simp; omega) (by omega)

set_option maxHeartbeats 1000000 in
theorem or_of (b n : Nat) (zs : List Int) (w : World) (hn : zs.length = n) (hl : n ≤ 1000) (hc : ∀ i (h : i < zs.length), w.cell? ⟨b, i, none⟩ = some (.int .i64 zs[i])) :
    Calls Tryz.prog 88 #[.slice (some ⟨b, 0, none⟩) n n] w fun e w' => e = .returned (.int .i64 (orL zs)) ∧ w = w' := by
  obtain ⟨R, hR⟩ : ∃ R, R = orL zs := ⟨_, rfl⟩
  rw [← hR]
  have HN : Hid (zs.length = n) := hn
  have HC : Hid (∀ i (h : i < zs.length), w.cell? ⟨b, i, none⟩ = some (.int .i64 zs[i])) := hc
  have HR : Hid (R = orL zs) := hR
  clear hn hc hR
  go_enter Tryz.func88, Tryz.ntmps88
  go_wp2
  go_loopw [8] (fun r wr => ∃ k : Nat, r = .int .i64 (k : Int) ∧ k ≤ n ∧ wr = w ∧ Hid (∀ i (h : i < zs.length), i < k → zs[i] = 0)) (fun r _ => n - (intOf r).toNat)
  case atStart => exact ⟨0, rfl, Nat.zero_le _, rfl, fun i _ h => by omega⟩
  case round =>
    obtain ⟨k, rfl, hk, rfl, hA⟩ := hrel
    by_cases hlt : k < n
    · have hlt' : (k : Int) < (n : Int) := by omega
      have hkl : k < zs.length := by rw [HN.out]; exact hlt
      have c0 := HC.out k hkl
      have hd := orL_drop zs k hA.out
      rw [List.drop_eq_getElem_cons hkl] at hd
      obtain ⟨z, he⟩ : ∃ z, z = zs[k] := ⟨_, rfl⟩
      rw [← he] at c0 hd
      have HZ : Hid (z = zs[k]) := he
      clear he
      by_cases hz : z = 0
      · have hz' : (z == 0) = true := by simpa using hz
        clear hd
        go_wp2
        go_roundw
        case rel =>
          refine ⟨k + 1, by go_num, by omega, by first | rfl | trivial, fun i hi hik => ?_⟩
          by_cases h : i < k
          · exact hA.out i hi h
          · have : i = k := by omega
            subst this
            rw [← HZ.out, hz]
        case measure => simp [intOf]; omega
      · have hz' : (z == 0) = false := by simpa using hz
        have HR' : Hid (R = z) := by
          show R = z
          rw [HR.out, hd]
          simp only [orL]
          rw [orr_ne hz]
        clear hd
        go_wp2
        go_ret
        exact ⟨by rw [HR'.out]; rfl, rfl⟩
    · have hlt' : ¬ (k : Int) < (n : Int) := by omega
      have HR' : Hid (R = 0) := by
        show R = 0
        rw [HR.out, orL_drop zs k hA.out, List.drop_eq_nil_of_le (by have := HN.out; omega)]
        rfl
      go_wp2
      go_ret
      exact ⟨by rw [HR'.out]; rfl, rfl⟩

theorem isNumber_any (k n m : Int) (b : ByteArray) (w : World) : Calls Tryz.prog 49 #[va k n m b] w fun e w' => e = .returned (.bool (k == 1 || k == 2)) ∧ Grew w w' := by
  by_cases h : k = 1
  · subst h
    go_enter Tryz.func49, Tryz.ntmps49
    go_wp2
    all_goals go_ret
    all_goals exact ⟨rfl, by repeat (first | exact Grew.refl _ | apply Grew.drew | apply Grew.drewN | apply Grew.alloc | apply Grew.more)⟩
  · have h' : (k == 1) = false := by simpa using h
    rw [h', Bool.false_or]
    go_enter Tryz.func49, Tryz.ntmps49
    go_wp2
    all_goals go_ret
    all_goals exact ⟨rfl, by repeat (first | exact Grew.refl _ | apply Grew.drew | apply Grew.drewN | apply Grew.alloc | apply Grew.more)⟩

set_option maxHeartbeats 2000000 in
theorem byParts_any (k n m : Int) (b : ByteArray) (k' n' m' : Int) (b' : ByteArray) (w : World) :
    Calls Tryz.prog 51 #[va k n m b, va k' n' m' b'] w fun e w' => e = .returned (.int .i64 (orL [numc k k', numc n n', numc m m', lexc b.data.toList b'.data.toList])) ∧ Grew w w' := by
  have I := fun x y W => cmpI_any x y W
  have S := fun W => cmpS_any b b' W
  have O := fun (zs : List Int) (p : Nat) (W : World) => or_of p 4 zs W
  go_enter Tryz.func51, Tryz.ntmps51
  go_upto_region 1 with fail
  go_region_held2 (fun W => W.cell? ⟨w.heap.size, 0, none⟩ = some (.int .i64 k) ∧ W.cell? ⟨w.heap.size, 1, none⟩ = some (.int .i64 n) ∧ W.cell? ⟨w.heap.size, 2, none⟩ = some (.int .i64 m) ∧ W.cell? ⟨w.heap.size, 3, none⟩ = some (.string b) ∧
      W.cell? ⟨w.heap.size + 1, 0, none⟩ = some (.int .i64 k') ∧ W.cell? ⟨w.heap.size + 1, 1, none⟩ = some (.int .i64 n') ∧ W.cell? ⟨w.heap.size + 1, 2, none⟩ = some (.int .i64 m') ∧ W.cell? ⟨w.heap.size + 1, 3, none⟩ = some (.string b')) (simp [go_sem]) (first
    | (go_at_call 57; refine (I _ _ _).mono ?_; rintro e w' ⟨rfl, rfl⟩)
    | (go_at_call 90; refine (S _).mono ?_; rintro e w' ⟨rfl, rfl⟩)
    | (go_at_call 88; refine (O [numc k k', numc n n', numc m m', lexc b.data.toList b'.data.toList] _ _ rfl (by decide) (by intro i hi; match i, hi with
        | 0, _ => simp [go_sem]
        | 1, _ => simp [go_sem]
        | 2, _ => simp [go_sem]
        | 3, _ => simp [go_sem])).mono ?_; rintro e w' ⟨rfl, rfl⟩))
  go_wp2
  go_ret
  exact ⟨rfl, by repeat (first | exact Grew.refl _ | apply Grew.drew | apply Grew.drewN | apply Grew.alloc | apply Grew.more)⟩
end Go.Proofs.YtkfnmblfaaabkaaGreatDoor
