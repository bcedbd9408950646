/-
  datum.Rows and the document's Rows over any values.
-/
import Derived.Test.YtkfnmblfaaabkaaGreatDoorVOrd2
namespace Go.Proofs.YtkfnmblfaaabkaaGreatDoor
open Go.RowKit Go.Shelf
attribute [local go_sem] cell?_more frozen?_more setCell_more more_lt more_more more_drew more_drewN setCell_drewN alloc_drewN

/-- How two rows stand, as the program says it. -/
def prow : List Va → List Va → Int
  | [], [] => 0
  | [], _ :: _ => -1
  | _ :: _, [] => 1
  | a :: x, b :: y => orr (pcmp a b) (prow x y)

theorem prow_drop (x y : List Va) (k : Nat) (hx : k ≤ x.length) (hy : k ≤ y.length) (h : ∀ i (h1 : i < x.length) (h2 : i < y.length), i < k → pcmp x[i] y[i] = 0) : prow x y = prow (x.drop k) (y.drop k) := by
  induction k generalizing x y with
  | zero => rfl
  | succ k ih =>
    match x, y, hx, hy, h with
    | a :: x, b :: y, hx, hy, h =>
      have h0 : pcmp a b = 0 := h 0 (by simp) (by simp) (by omega)
      simp only [prow, h0, orr_zero, List.drop_succ_cons]
      exact ih x y (by simpa using hx) (by simpa using hy) fun i h1 h2 hk => h (i + 1) (by simpa using h1) (by simpa using h2) (by omega)
theorem prow_ne (x y : List Va) (k : Nat) (hx : k < x.length) (hy : k < y.length) (h : pcmp x[k] y[k] ≠ 0) : prow (x.drop k) (y.drop k) = pcmp x[k] y[k] := by
  rw [List.drop_eq_getElem_cons hx, List.drop_eq_getElem_cons hy]
  simp only [prow]
  exact orr_ne h
theorem prow_end (x y : List Va) (k : Nat) (h : (k = x.length ∧ x.length ≤ y.length) ∨ (k = y.length ∧ y.length ≤ x.length)) : prow (x.drop k) (y.drop k) = numc (x.length : Int) (y.length : Int) := by
  have hn : prow (x.drop k) (y.drop k) = numc ((x.drop k).length : Int) ((y.drop k).length : Int) := by
    rcases h with ⟨h1, h2⟩ | ⟨h1, h2⟩
    · rw [List.drop_eq_nil_of_le (by omega : x.length ≤ k)]
      cases y.drop k with
      | nil => rfl
      | cons b l => simp [prow, numc]
    · rw [List.drop_eq_nil_of_le (by omega : y.length ≤ k)]
      cases x.drop k with
      | nil => rfl
      | cons b l => simp [prow, numc]; omega
  rw [hn, List.length_drop, List.length_drop]
  unfold numc
  repeat' split
  all_goals omega

set_option maxRecDepth 20000 in
set_option maxHeartbeats 4000000 in
theorem prows_any (ao bo : Option Addr) (c d : Nat) (x y : List Va) (w : World) (hT : Tabs w) (hP : Pw w) (hx : Vs w ao x) (hy : Vs w bo y) (lx : x.length ≤ 9223372036854775806) (_ly : y.length ≤ 9223372036854775806)
    (rx : ∀ v ∈ x, vin v) (ry : ∀ v ∈ y, vin v) :
    Calls Tryz.prog 18 #[.slice ao x.length c, .slice bo y.length d] w fun e w' => e = .returned (.int .i64 (prow x y)) ∧ Below w.heap.size w w' := by
  obtain ⟨R, hR⟩ : ∃ R, R = prow x y := ⟨_, rfl⟩
  rw [← hR]
  have HR : Hid (R = prow x y) := hR
  obtain ⟨n, hn⟩ : ∃ n, x.length = n := ⟨_, rfl⟩
  obtain ⟨m, hm⟩ : ∃ m, y.length = m := ⟨_, rfl⟩
  rw [hn] at lx ⊢
  rw [hm] at _ly ⊢
  have HN : Hid (x.length = n) := hn
  have HM : Hid (y.length = m) := hm
  have C := fun W => cmpI_any (n : Int) (m : Int) W
  clear hn hm hR
  go_enter Tryz.func18, Tryz.ntmps18
  go_wp2
  obtain ⟨q, hq⟩ : ∃ q : Nat, q = min n m := ⟨_, rfl⟩
  have eq : min (n : Int) (m : Int) = (q : Int) := by
    by_cases h : n ≤ m
    · rw [Int.min_eq_left (by omega), hq, Nat.min_eq_left h]
    · rw [Int.min_eq_right (by omega), hq, Nat.min_eq_right (by omega)]
  rw [eq]
  have hqn : q ≤ n := by omega
  have hqm : q ≤ m := by omega
  have hQ : (q = n ∧ n ≤ m) ∨ (q = m ∧ m ≤ n) := by
    by_cases h : n ≤ m
    · exact .inl ⟨by rw [hq, Nat.min_eq_left h], h⟩
    · exact .inr ⟨by rw [hq, Nat.min_eq_right (by omega)], by omega⟩
  have HQ : Hid ((q = n ∧ n ≤ m) ∨ (q = m ∧ m ≤ n)) := hQ
  clear hq eq hQ
  go_loopw [12] (fun r wr => ∃ k : Nat, r = .int .i64 (k : Int) ∧ k ≤ q ∧ Below w.heap.size w wr ∧ Hid (∀ i (h1 : i < x.length) (h2 : i < y.length), i < k → pcmp x[i] y[i] = 0)) (fun r _ => q - (intOf r).toNat)
  case atStart => exact ⟨0, rfl, Nat.zero_le _, Below.refl _ _, fun i _ _ h => by omega⟩
  case round =>
    obtain ⟨k, rfl, hk, hB, hA⟩ := hrel
    have sB := hB.size
    have hdr := prow_drop x y k (by have := HN.out; omega) (by have := HM.out; omega) hA.out
    by_cases hlt : k < q
    · have hlt' : (k : Int) < (q : Int) := by omega
      have k0 : (0 : Int) ≤ (k : Int) := by omega
      have k1 : (k : Int) < (n : Int) := by omega
      have k2 : (k : Int) < (m : Int) := by omega
      have kx : k < x.length := by have := HN.out; omega
      have ky : k < y.length := by have := HM.out; omega
      obtain ⟨b1, o1, rfl, hc1⟩ := hx (by omega)
      obtain ⟨b2, o2, rfl, hc2⟩ := hy (by omega)
      obtain ⟨c0, c1, c2, c3⟩ := (hc1 k kx).later hB
      obtain ⟨d0, d1, d2, d3⟩ := (hc2 k ky).later hB
      have g1 := ((hc1 k kx).later hB).lt
      have g2 := ((hc2 k ky).later hB).lt
      have rxk := rx _ (List.getElem_mem kx)
      have ryk := ry _ (List.getElem_mem ky)
      have Cm : ∀ W, Below wr.heap.size wr W → Calls Tryz.prog 11 #[vv x[k], vv y[k]] W fun e w' => e = .returned (.int .i64 (pcmp x[k] y[k])) ∧ Below W.heap.size W w' := fun W h => by
        have := compare_any x[k] y[k] W ((hT.later hB).later h) ((hP.below hB).below h) rxk ryk
        exact this
      have hrn := prow_ne x y k kx ky
      obtain ⟨V, hV⟩ : ∃ V, V = pcmp x[k] y[k] := ⟨_, rfl⟩
      rw [← hV] at Cm hrn
      have HV : Hid (V = pcmp x[k] y[k]) := hV
      obtain ⟨⟨ak, an, am, ab⟩, ha⟩ : ∃ v : Va, v = x[k] := ⟨_, rfl⟩
      obtain ⟨⟨bk, bn, bm, bb⟩, hb⟩ : ∃ v : Va, v = y[k] := ⟨_, rfl⟩
      rw [← ha] at c0 c1 c2 c3 Cm
      rw [← hb] at d0 d1 d2 d3 Cm
      simp only at c0 c1 c2 c3 d0 d1 d2 d3
      clear ha hb hc1 hc2 rxk ryk hV hT hP hx hy rx ry
      by_cases hz : V = 0
      · have hz' : (V == 0) = true := by simpa using hz
        clear hrn hdr
        go_upto_region 4 with fail
        go_region_held2 (fun W => W.cell? ⟨b1, o1 + k * 4, none⟩ = some (.int .i64 ak) ∧ W.cell? ⟨b1, o1 + k * 4 + 1, none⟩ = some (.int .i64 an) ∧ W.cell? ⟨b1, o1 + k * 4 + 2, none⟩ = some (.int .i64 am) ∧ W.cell? ⟨b1, o1 + k * 4 + 3, none⟩ = some (.string ⟨ab.toArray⟩) ∧
            W.cell? ⟨b2, o2 + k * 4, none⟩ = some (.int .i64 bk) ∧ W.cell? ⟨b2, o2 + k * 4 + 1, none⟩ = some (.int .i64 bn) ∧ W.cell? ⟨b2, o2 + k * 4 + 2, none⟩ = some (.int .i64 bm) ∧ W.cell? ⟨b2, o2 + k * 4 + 3, none⟩ = some (.string ⟨bb.toArray⟩))
          (first | go_keep | (refine ⟨?_, ?_, ?_, ?_, ?_, ?_, ?_, ?_⟩ <;> assumption))
          ((go_at_call 11; refine (Cm _ (Below.refl _ _).drew).mono ?_; rintro e w2 ⟨rfl, bq⟩; have bp : Below wr.heap.size wr w2 := below_trans (Below.refl _ wr).drew bq; obtain ⟨c0', c1', c2', c3'⟩ := At4.later (v := ⟨ak, an, am, ab⟩) ⟨c0, c1, c2, c3⟩ bp; obtain ⟨d0', d1', d2', d3'⟩ := At4.later (v := ⟨bk, bn, bm, bb⟩) ⟨d0, d1, d2, d3⟩ bp))
        go_wp2
        go_roundw
        case rel =>
          refine ⟨k + 1, by go_num, by omega, below_trans hB bp, fun i h1 h2 hik => ?_⟩
          by_cases h : i < k
          · exact hA.out i h1 h2 h
          · have : i = k := by omega
            subst this
            rw [← HV.out, hz]
        case measure => simp [intOf]; omega
      · have hz' : (V == 0) = false := by simpa using hz
        have HR' : Hid (R = V) := by
          show R = V
          rw [HR.out, hdr, hrn hz]
        clear hrn hdr
        go_upto_region 4 with fail
        go_region_held2 (fun W => W.cell? ⟨b1, o1 + k * 4, none⟩ = some (.int .i64 ak) ∧ W.cell? ⟨b1, o1 + k * 4 + 1, none⟩ = some (.int .i64 an) ∧ W.cell? ⟨b1, o1 + k * 4 + 2, none⟩ = some (.int .i64 am) ∧ W.cell? ⟨b1, o1 + k * 4 + 3, none⟩ = some (.string ⟨ab.toArray⟩) ∧
            W.cell? ⟨b2, o2 + k * 4, none⟩ = some (.int .i64 bk) ∧ W.cell? ⟨b2, o2 + k * 4 + 1, none⟩ = some (.int .i64 bn) ∧ W.cell? ⟨b2, o2 + k * 4 + 2, none⟩ = some (.int .i64 bm) ∧ W.cell? ⟨b2, o2 + k * 4 + 3, none⟩ = some (.string ⟨bb.toArray⟩))
          (first | go_keep | (refine ⟨?_, ?_, ?_, ?_, ?_, ?_, ?_, ?_⟩ <;> assumption))
          ((go_at_call 11; refine (Cm _ (Below.refl _ _).drew).mono ?_; rintro e w2 ⟨rfl, bq⟩; have bp : Below wr.heap.size wr w2 := below_trans (Below.refl _ wr).drew bq; obtain ⟨c0', c1', c2', c3'⟩ := At4.later (v := ⟨ak, an, am, ab⟩) ⟨c0, c1, c2, c3⟩ bp; obtain ⟨d0', d1', d2', d3'⟩ := At4.later (v := ⟨bk, bn, bm, bb⟩) ⟨d0, d1, d2, d3⟩ bp))
        go_wp2
        go_ret
        exact ⟨by rw [HR'.out]; rfl, below_trans hB bp⟩
    · have hlt' : ¬ (k : Int) < (q : Int) := by omega
      have HR' : Hid (R = numc (n : Int) (m : Int)) := by
        show R = _
        have h1 := HN.out
        have h2 := HM.out
        have h3 := HQ.out
        rw [HR.out, hdr, prow_end x y k (by omega), h1, h2]
      clear hdr
      go_wp2_with (go_at_call 57; refine (C _).mono ?_; rintro e w' ⟨rfl, rfl⟩)
      go_ret
      exact ⟨by rw [HR'.out]; rfl, hB⟩

set_option maxRecDepth 20000 in
set_option maxHeartbeats 4000000 in
theorem rprows_any (ao bo : Option Addr) (c d : Nat) (x y : List Va) (w : World) (hx : Vs w ao x) (hy : Vs w bo y) (lx : x.length ≤ 9223372036854775806) (_ly : y.length ≤ 9223372036854775806)
    (rx : ∀ v ∈ x, vin v) (ry : ∀ v ∈ y, vin v) :
    Calls Tryz.prog 19 #[.slice ao x.length c, .slice bo y.length d] w fun e w' => e = .returned (.int .i64 (prow x y)) ∧ Below w.heap.size w w' := by
  obtain ⟨R, hR⟩ : ∃ R, R = prow x y := ⟨_, rfl⟩
  rw [← hR]
  have HR : Hid (R = prow x y) := hR
  obtain ⟨n, hn⟩ : ∃ n, x.length = n := ⟨_, rfl⟩
  obtain ⟨m, hm⟩ : ∃ m, y.length = m := ⟨_, rfl⟩
  rw [hn] at lx ⊢
  rw [hm] at _ly ⊢
  have HN : Hid (x.length = n) := hn
  have HM : Hid (y.length = m) := hm
  have C := fun W => rcmpI_any (n : Int) (m : Int) W
  clear hn hm hR
  go_enter Tryz.func19, Tryz.ntmps19
  go_wp2
  obtain ⟨q, hq⟩ : ∃ q : Nat, q = min n m := ⟨_, rfl⟩
  have hqn : q ≤ n := by omega
  have hqm : q ≤ m := by omega
  have hQ : (q = n ∧ n ≤ m) ∨ (q = m ∧ m ≤ n) := by
    by_cases h : n ≤ m
    · exact .inl ⟨by rw [hq, Nat.min_eq_left h], h⟩
    · exact .inr ⟨by rw [hq, Nat.min_eq_right (by omega)], by omega⟩
  have HQ : Hid ((q = n ∧ n ≤ m) ∨ (q = m ∧ m ≤ n)) := hQ
  clear hq hQ
  go_loopw [5] (fun r wr => ∃ k : Nat, r = .int .i64 (k : Int) ∧ k ≤ q ∧ Below w.heap.size w wr ∧ Hid (∀ i (h1 : i < x.length) (h2 : i < y.length), i < k → pcmp x[i] y[i] = 0)) (fun r _ => q - (intOf r).toNat)
  case atStart => exact ⟨0, rfl, Nat.zero_le _, Below.refl _ _, fun i _ _ h => by omega⟩
  case round =>
    obtain ⟨k, rfl, hk, hB, hA⟩ := hrel
    have sB := hB.size
    have hdr := prow_drop x y k (by have := HN.out; omega) (by have := HM.out; omega) hA.out
    by_cases hlt : k < q
    · have hlt' : (k : Int) < (q : Int) := by omega
      have k0 : (0 : Int) ≤ (k : Int) := by omega
      have k1 : (k : Int) < (n : Int) := by omega
      have k2 : (k : Int) < (m : Int) := by omega
      have kx : k < x.length := by have := HN.out; omega
      have ky : k < y.length := by have := HM.out; omega
      obtain ⟨b1, o1, rfl, hc1⟩ := hx (by omega)
      obtain ⟨b2, o2, rfl, hc2⟩ := hy (by omega)
      obtain ⟨c0, c1, c2, c3⟩ := (hc1 k kx).later hB
      obtain ⟨d0, d1, d2, d3⟩ := (hc2 k ky).later hB
      have g1 := ((hc1 k kx).later hB).lt
      have g2 := ((hc2 k ky).later hB).lt
      have rxk := rx _ (List.getElem_mem kx)
      have ryk := ry _ (List.getElem_mem ky)
      have Cm : ∀ W, Below wr.heap.size wr W → Calls Tryz.prog 12 #[vv x[k], vv y[k]] W fun e w' => e = .returned (.int .i64 (pcmp x[k] y[k])) ∧ Below W.heap.size W w' := fun W _ => rcompare_any _ _ _ _ _ _ _ _ W rxk ryk
      have hrn := prow_ne x y k kx ky
      obtain ⟨V, hV⟩ : ∃ V, V = pcmp x[k] y[k] := ⟨_, rfl⟩
      rw [← hV] at Cm hrn
      have HV : Hid (V = pcmp x[k] y[k]) := hV
      obtain ⟨⟨ak, an, am, ab⟩, ha⟩ : ∃ v : Va, v = x[k] := ⟨_, rfl⟩
      obtain ⟨⟨bk, bn, bm, bb⟩, hb⟩ : ∃ v : Va, v = y[k] := ⟨_, rfl⟩
      rw [← ha] at c0 c1 c2 c3 Cm
      rw [← hb] at d0 d1 d2 d3 Cm
      simp only at c0 c1 c2 c3 d0 d1 d2 d3
      clear ha hb hc1 hc2 rxk ryk hV hx hy rx ry
      by_cases hz : V = 0
      · have hz' : (V == 0) = true := by simpa using hz
        clear hrn hdr
        go_upto_region 4 with fail
        go_region_held2 (fun W => W.cell? ⟨b1, o1 + k * 4, none⟩ = some (.int .i64 ak) ∧ W.cell? ⟨b1, o1 + k * 4 + 1, none⟩ = some (.int .i64 an) ∧ W.cell? ⟨b1, o1 + k * 4 + 2, none⟩ = some (.int .i64 am) ∧ W.cell? ⟨b1, o1 + k * 4 + 3, none⟩ = some (.string ⟨ab.toArray⟩) ∧
            W.cell? ⟨b2, o2 + k * 4, none⟩ = some (.int .i64 bk) ∧ W.cell? ⟨b2, o2 + k * 4 + 1, none⟩ = some (.int .i64 bn) ∧ W.cell? ⟨b2, o2 + k * 4 + 2, none⟩ = some (.int .i64 bm) ∧ W.cell? ⟨b2, o2 + k * 4 + 3, none⟩ = some (.string ⟨bb.toArray⟩))
          (first | go_keep | (refine ⟨?_, ?_, ?_, ?_, ?_, ?_, ?_, ?_⟩ <;> assumption))
          ((go_at_call 12; refine (Cm _ (Below.refl _ _).drew).mono ?_; rintro e w2 ⟨rfl, bq⟩; have bp : Below wr.heap.size wr w2 := below_trans (Below.refl _ wr).drew bq; obtain ⟨c0', c1', c2', c3'⟩ := At4.later (v := ⟨ak, an, am, ab⟩) ⟨c0, c1, c2, c3⟩ bp; obtain ⟨d0', d1', d2', d3'⟩ := At4.later (v := ⟨bk, bn, bm, bb⟩) ⟨d0, d1, d2, d3⟩ bp))
        go_wp2
        go_roundw
        case rel =>
          refine ⟨k + 1, by go_num, by omega, below_trans hB bp, fun i h1 h2 hik => ?_⟩
          by_cases h : i < k
          · exact hA.out i h1 h2 h
          · have : i = k := by omega
            subst this
            rw [← HV.out, hz]
        case measure => simp [intOf]; omega
      · have hz' : (V == 0) = false := by simpa using hz
        have HR' : Hid (R = V) := by
          show R = V
          rw [HR.out, hdr, hrn hz]
        clear hrn hdr
        go_upto_region 4 with fail
        go_region_held2 (fun W => W.cell? ⟨b1, o1 + k * 4, none⟩ = some (.int .i64 ak) ∧ W.cell? ⟨b1, o1 + k * 4 + 1, none⟩ = some (.int .i64 an) ∧ W.cell? ⟨b1, o1 + k * 4 + 2, none⟩ = some (.int .i64 am) ∧ W.cell? ⟨b1, o1 + k * 4 + 3, none⟩ = some (.string ⟨ab.toArray⟩) ∧
            W.cell? ⟨b2, o2 + k * 4, none⟩ = some (.int .i64 bk) ∧ W.cell? ⟨b2, o2 + k * 4 + 1, none⟩ = some (.int .i64 bn) ∧ W.cell? ⟨b2, o2 + k * 4 + 2, none⟩ = some (.int .i64 bm) ∧ W.cell? ⟨b2, o2 + k * 4 + 3, none⟩ = some (.string ⟨bb.toArray⟩))
          (first | go_keep | (refine ⟨?_, ?_, ?_, ?_, ?_, ?_, ?_, ?_⟩ <;> assumption))
          ((go_at_call 12; refine (Cm _ (Below.refl _ _).drew).mono ?_; rintro e w2 ⟨rfl, bq⟩; have bp : Below wr.heap.size wr w2 := below_trans (Below.refl _ wr).drew bq; obtain ⟨c0', c1', c2', c3'⟩ := At4.later (v := ⟨ak, an, am, ab⟩) ⟨c0, c1, c2, c3⟩ bp; obtain ⟨d0', d1', d2', d3'⟩ := At4.later (v := ⟨bk, bn, bm, bb⟩) ⟨d0, d1, d2, d3⟩ bp))
        go_wp2
        go_ret
        exact ⟨by rw [HR'.out]; rfl, below_trans hB bp⟩
    · have hlt' : ¬ (k : Int) < (q : Int) := by omega
      have HR' : Hid (R = numc (n : Int) (m : Int)) := by
        show R = _
        have h1 := HN.out
        have h2 := HM.out
        have h3 := HQ.out
        rw [HR.out, hdr, prow_end x y k (by omega), h1, h2]
      clear hdr
      have hkm : ¬ (k : Int) < (n : Int) ∨ ((k : Int) < (n : Int) ∧ ¬ (k : Int) < (m : Int)) := by have := HQ.out; omega
      rcases hkm with g1 | ⟨g1, g2⟩
      · go_wp2_with (go_at_call 53; refine (C _).mono ?_; rintro e w' ⟨rfl, rfl⟩)
        go_ret
        exact ⟨by rw [HR'.out]; rfl, hB⟩
      · go_wp2_with (go_at_call 53; refine (C _).mono ?_; rintro e w' ⟨rfl, rfl⟩)
        go_ret
        exact ⟨by rw [HR'.out]; rfl, hB⟩
end Go.Proofs.YtkfnmblfaaabkaaGreatDoor
