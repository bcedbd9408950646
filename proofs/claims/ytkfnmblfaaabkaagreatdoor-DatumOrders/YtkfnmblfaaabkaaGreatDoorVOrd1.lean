/-
  datum.Same and datum.Row; the document's cmp, class, first and Row.
-/
import Derived.Test.YtkfnmblfaaabkaaGreatDoorVRows
namespace Go.Proofs.YtkfnmblfaaabkaaGreatDoor
open Go.RowKit Go.Shelf
attribute [local go_sem] cell?_more frozen?_more setCell_more more_lt more_more more_drew more_drewN setCell_drewN alloc_drewN

theorem eqVs (k n m k' n' m' : Int) (b b' : ByteArray) (w : World) : (Op.equalIn 10000 25 (va k n m b) (va k' n' m' b')).run Tryz.prog w = .ok (sameV ⟨k, n, m, b.data.toList⟩ ⟨k', n', m', b'.data.toList⟩) w := eqVa k n m k' n' m' b b' w
attribute [local go_sem high] eqVs

theorem dsame_any (a b : Va) (w : World) : Calls Tryz.prog 13 #[vv a, vv b] w fun e w' => e = .returned (.bool (sameV a b)) ∧ Grew w w' := by
  obtain ⟨k, n, m, l⟩ := a
  obtain ⟨k', n', m', l'⟩ := b
  have H : ∀ W : World, (Op.equalIn 10000 25 (va k n m ⟨l.toArray⟩) (va k' n' m' ⟨l'.toArray⟩)).run Tryz.prog W = .ok (sameV ⟨k, n, m, l⟩ ⟨k', n', m', l'⟩) W := fun W => eqVs k n m k' n' m' ⟨l.toArray⟩ ⟨l'.toArray⟩ W
  generalize sameV ⟨k, n, m, l⟩ ⟨k', n', m', l'⟩ = s at *
  go_enter Tryz.func13, Tryz.ntmps13
  go_wp2
  all_goals go_ret
  all_goals exact ⟨rfl, (by repeat (first | assumption | exact Grew.refl _ | apply Grew.drew | apply Grew.drewN | apply Grew.alloc | apply Grew.more))⟩

theorem rcmpI_any (x y : Int) (w : World) : Calls Tryz.prog 53 #[.int .i64 x, .int .i64 y] w fun e w' => e = .returned (.int .i64 (numc x y)) ∧ w = w' := by
  by_cases h : x < y
  · rw [show numc x y = -1 by unfold numc; rw [if_pos h]]
    go_enter Tryz.func53, Tryz.ntmps53
    go_wp2
    all_goals go_ret
    all_goals exact ⟨rfl, rfl⟩
  · by_cases h' : y < x
    · rw [show numc x y = 1 by unfold numc; rw [if_neg h, if_pos h']]
      go_enter Tryz.func53, Tryz.ntmps53
      go_wp2
      all_goals go_ret
      all_goals exact ⟨rfl, rfl⟩
    · rw [show numc x y = 0 by unfold numc; rw [if_neg h, if_neg (by omega)]]
      go_enter Tryz.func53, Tryz.ntmps53
      go_wp2
      all_goals go_ret
      all_goals exact ⟨rfl, rfl⟩

/-- The class of a kind in the order. -/
def clsK (k : Int) : Int := if k = 1 ∨ k = 2 then 2 else if k = 3 then 3 else if k = 4 then 4 else if k = 5 then 5 else 1
theorem class_any (k : Int) (w : World) : Calls Tryz.prog 54 #[.int .i64 k] w fun e w' => e = .returned (.int .i64 (clsK k)) ∧ w = w' := by
  by_cases h1 : k = 1
  · subst h1
    rw [show clsK 1 = 2 by decide]
    go_enter Tryz.func54, Tryz.ntmps54
    go_wp2
    all_goals go_ret
    all_goals exact ⟨rfl, rfl⟩
  have c1 : (k == 1) = false := by simpa using h1
  by_cases h2 : k = 2
  · subst h2
    rw [show clsK 2 = 2 by decide]
    go_enter Tryz.func54, Tryz.ntmps54
    go_wp2
    all_goals go_ret
    all_goals exact ⟨rfl, rfl⟩
  have c2 : (k == 2) = false := by simpa using h2
  by_cases h3 : k = 3
  · subst h3
    rw [show clsK 3 = 3 by decide]
    go_enter Tryz.func54, Tryz.ntmps54
    go_wp2
    all_goals go_ret
    all_goals exact ⟨rfl, rfl⟩
  have c3 : (k == 3) = false := by simpa using h3
  by_cases h4 : k = 4
  · subst h4
    rw [show clsK 4 = 4 by decide]
    go_enter Tryz.func54, Tryz.ntmps54
    go_wp2
    all_goals go_ret
    all_goals exact ⟨rfl, rfl⟩
  have c4 : (k == 4) = false := by simpa using h4
  by_cases h5 : k = 5
  · subst h5
    rw [show clsK 5 = 5 by decide]
    go_enter Tryz.func54, Tryz.ntmps54
    go_wp2
    all_goals go_ret
    all_goals exact ⟨rfl, rfl⟩
  have c5 : (k == 5) = false := by simpa using h5
  rw [show clsK k = 1 by simp [clsK, h1, h2, h3, h4, h5]]
  go_enter Tryz.func54, Tryz.ntmps54
  go_wp2
  all_goals go_ret
  all_goals exact ⟨rfl, rfl⟩

set_option maxHeartbeats 1000000 in
theorem first_of (b n : Nat) (zs : List Int) (w : World) (hn : zs.length = n) (hl : n ≤ 1000) (hc : ∀ i (h : i < zs.length), w.cell? ⟨b, i, none⟩ = some (.int .i64 zs[i])) :
    Calls Tryz.prog 52 #[.slice (some ⟨b, 0, none⟩) n n] w fun e w' => e = .returned (.int .i64 (orL zs)) ∧ w = w' := by
  obtain ⟨R, hR⟩ : ∃ R, R = orL zs := ⟨_, rfl⟩
  rw [← hR]
  have HN : Hid (zs.length = n) := hn
  have HC : Hid (∀ i (h : i < zs.length), w.cell? ⟨b, i, none⟩ = some (.int .i64 zs[i])) := hc
  have HR : Hid (R = orL zs) := hR
  clear hn hc hR
  go_enter Tryz.func52, Tryz.ntmps52
  go_wp2
  go_loopw [3] (fun r wr => ∃ k : Nat, r = .int .i64 (k : Int) ∧ k ≤ n ∧ wr = w ∧ Hid (∀ i (h : i < zs.length), i < k → zs[i] = 0)) (fun r _ => n - (intOf r).toNat)
  case atStart => exact ⟨0, rfl, Nat.zero_le _, rfl, fun i _ h => by omega⟩
  case round =>
    obtain ⟨k, rfl, hk, rfl, hA⟩ := hrel
    by_cases hlt : k < n
    · have hlt' : (k : Int) < (n : Int) := by omega
      have k0 : (0 : Int) ≤ (k : Int) := by omega
      have hkl : k < zs.length := by rw [HN.out]; exact hlt
      have c0 := HC.out k hkl
      have hd := orL_drop zs k hA.out
      rw [List.drop_eq_getElem_cons hkl] at hd
      obtain ⟨z, he⟩ : ∃ z, z = zs[k] := ⟨_, rfl⟩
      rw [← he] at c0 hd
      have HZ : Hid (z = zs[k]) := he
      clear he
      by_cases hz : z = 0
      · have hz' : (z == 0) = true := by simpa using hz
        clear hd
        go_wp2
        go_roundw
        case rel =>
          refine ⟨k + 1, by go_num, by omega, by first | rfl | trivial, fun i hi hik => ?_⟩
          by_cases h : i < k
          · exact hA.out i hi h
          · have : i = k := by omega
            subst this
            rw [← HZ.out, hz]
        case measure => simp [intOf]; omega
      · have hz' : (z == 0) = false := by simpa using hz
        have HR' : Hid (R = z) := by
          show R = z
          rw [HR.out, hd]
          simp only [orL]
          rw [orr_ne hz]
        clear hd
        go_wp2
        go_ret
        exact ⟨by rw [HR'.out]; rfl, rfl⟩
    · have hlt' : ¬ (k : Int) < (n : Int) := by omega
      have HR' : Hid (R = 0) := by
        show R = 0
        rw [HR.out, orL_drop zs k hA.out, List.drop_eq_nil_of_le (by have := HN.out; omega)]
        rfl
      go_wp2
      go_ret
      exact ⟨by rw [HR'.out]; rfl, rfl⟩

theorem row_any (ao : Option Addr) (cap : Nat) (l : List Va) (w : World) (hT : Tabs w) (hv : Vs w ao l) (hl : l.length ≤ 9223372036854775807) :
    Calls Tryz.prog 15 #[.slice ao l.length cap] w fun e w' => e = .returned (.bool (ckE l == 0)) ∧ Below w.heap.size w w' := by
  have C := checked_any ao cap l w hT hv hl
  generalize ckE l = E at *
  generalize l.length = n at *
  go_enter Tryz.func15, Tryz.ntmps15
  go_wp2_with fail
  refine C.mono ?_
  rintro e w1 ⟨rfl, b1⟩
  go_wp2
  all_goals go_ret
  all_goals exact ⟨rfl, b1⟩

set_option maxHeartbeats 1000000 in
theorem rrow_any (ao : Option Addr) (cap : Nat) (l : List Va) (w : World) (hv : Vs w ao l) (hl : l.length ≤ 9223372036854775806) :
    Calls Tryz.prog 17 #[.slice ao l.length cap] w fun e w' => e = .returned (.bool (ckE l == 0)) ∧ Below w.heap.size w w' := by
  obtain ⟨R, hR⟩ : ∃ R, R = (ckE l == 0) := ⟨_, rfl⟩
  rw [← hR]
  have HR : Hid (R = (ckE l == 0)) := hR
  obtain ⟨n, hn⟩ : ∃ n, l.length = n := ⟨_, rfl⟩
  rw [hn] at hl ⊢
  have HN : Hid (l.length = n) := hn
  clear hn hR
  go_enter Tryz.func17, Tryz.ntmps17
  go_wp2
  go_loopw [3] (fun r wr => ∃ k : Nat, r = .int .i64 (k : Int) ∧ k ≤ n ∧ Below w.heap.size w wr ∧ Hid (∀ i (h : i < l.length), i < k → vr l[i] = true)) (fun r _ => n - (intOf r).toNat)
  case atStart => exact ⟨0, rfl, Nat.zero_le _, Below.refl _ _, fun i _ h => by omega⟩
  case round =>
    obtain ⟨k, rfl, hk, hB, hA⟩ := hrel
    have sB := hB.size
    by_cases hlt : k < n
    · have hlt' : (k : Int) < (n : Int) := by omega
      have k0 : (0 : Int) ≤ (k : Int) := by omega
      have hkl : k < l.length := by rw [HN.out]; exact hlt
      obtain ⟨b, off, rfl, hc⟩ := hv (by omega)
      obtain ⟨c0, c1, c2, c3⟩ := ((hc k hkl).later hB)
      have hg := (hc k hkl).lt
      have hg' : b < wr.heap.size := by omega
      have R1 : ∀ W, Calls Tryz.prog 10 #[vv l[k]] W fun e w' => e = .returned (.bool (vr l[k])) ∧ Below W.heap.size W w' := fun W => rright_any _ _ _ _ W
      obtain ⟨⟨vk, vn, vm, vb⟩, he⟩ : ∃ v : Va, v = l[k] := ⟨_, rfl⟩
      rw [← he] at c0 c1 c2 c3 R1
      have HV : Hid (Va.mk vk vn vm vb = l[k]) := he
      clear hc he
      cases hvr : vr ⟨vk, vn, vm, vb⟩
      · rw [hvr] at R1
        have HF : Hid (R = false) := by
          show R = false
          have hall : (l.all vr) = false := by
            rw [List.all_eq_false]
            exact ⟨l[k], List.getElem_mem _, by rw [← HV.out, hvr]; simp⟩
          rw [HR.out]
          unfold ckE
          rw [hall]
          by_cases h : 64 < l.length <;> simp [h]
        go_wp2_with (go_at_call 10; refine (R1 _).mono ?_; rintro e w2 ⟨rfl, hb2⟩)
        go_ret
        exact ⟨by rw [HF.out]; rfl, below_trans hB hb2⟩
      · rw [hvr] at R1
        go_wp2_with (go_at_call 10; refine (R1 _).mono ?_; rintro e w2 ⟨rfl, hb2⟩)
        go_roundw
        case rel =>
          refine ⟨k + 1, by go_num, by omega, below_trans hB hb2, fun i hi hik => ?_⟩
          by_cases h : i < k
          · exact hA.out i hi h
          · have : i = k := by omega
            subst this
            rw [← HV.out, hvr]
        case measure => simp [intOf]; omega
    · have hlt' : ¬ (k : Int) < (n : Int) := by omega
      have hall : (l.all vr) = true := by
        rw [List.all_eq_true]
        intro v hv'
        obtain ⟨i, hi, rfl⟩ := List.getElem_of_mem hv'
        exact hA.out i hi (by have := HN.out; omega)
      have hfin : R = decide ((n : Int) ≤ 64) := by
        rw [HR.out]
        have h1 := HN.out
        unfold ckE
        rw [hall]
        by_cases h : 64 < l.length
        · rw [if_pos h, decide_eq_false (by omega)]; rfl
        · rw [if_neg h, decide_eq_true (by omega)]; rfl
      have HF : Hid (R = decide ((n : Int) ≤ 64)) := hfin
      clear hall hfin
      go_wp2
      all_goals go_ret
      all_goals exact ⟨by rw [HF.out]; rfl, hB⟩
end Go.Proofs.YtkfnmblfaaabkaaGreatDoor
