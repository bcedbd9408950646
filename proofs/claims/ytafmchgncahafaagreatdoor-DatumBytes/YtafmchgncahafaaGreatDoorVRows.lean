/-
  The contracts of the law's Own and Same, and of datum.Rows.
-/
import Derived.Test.YtafmchgncahafaaGreatDoorVCmp2
import Derived.Test.YtafmchgncahafaaGreatDoorMFVRef
import Derived.Test.YtafmchgncahafaaGreatDoorLaws
import Derived.Deep.RegionHeld2
namespace Go.Proofs.YtafmchgncahafaaGreatDoor
open Go.RowKit Go.Shelf
attribute [local go_sem] cell?_more frozen?_more setCell_more more_lt more_more more_drew more_drewN setCell_drewN alloc_drewN

theorem Tryz.info47 : (Tryz.prog.info? 47).map (fun i => (i.zero, i.size, i.bytes)) = some (some (.agg #[.int .i64 0, .int .i64 0, .int .i64 0, .string ⟨#[]⟩]), 4, 40) := by kernel_rfl

/-- The cells of values, one behind the other. -/
def cellsV (l : List Va) : List Value := l.flatMap fun v => [.int .i64 v.k, .int .i64 v.n, .int .i64 v.m, .string ⟨v.b.toArray⟩]
theorem cellsV_len (l : List Va) : (cellsV l).length = l.length * 4 := by
  induction l with
  | nil => rfl
  | cons v l ih => simp only [cellsV, List.flatMap_cons, List.length_append, List.length_cons, List.length_nil] at *; omega
theorem cellsV_at (l : List Va) (i : Nat) (h : i < l.length) : (cellsV l)[i * 4]? = some (.int .i64 l[i].k) ∧ (cellsV l)[i * 4 + 1]? = some (.int .i64 l[i].n) ∧ (cellsV l)[i * 4 + 2]? = some (.int .i64 l[i].m) ∧ (cellsV l)[i * 4 + 3]? = some (.string ⟨l[i].b.toArray⟩) := by
  induction l generalizing i with
  | nil => simp at h
  | cons v l ih =>
    cases i with
    | zero => exact ⟨rfl, rfl, rfl, rfl⟩
    | succ i =>
      have e : cellsV (v :: l) = [.int .i64 v.k, .int .i64 v.n, .int .i64 v.m, .string ⟨v.b.toArray⟩] ++ cellsV l := by simp [cellsV]
      have hi : i < l.length := by simpa using h
      obtain ⟨h0, h1, h2, h3⟩ := ih i hi
      rw [e]
      refine ⟨?_, ?_, ?_, ?_⟩
      · rw [List.getElem?_append_right (by simp; omega)]; simpa [show (i + 1) * 4 - 4 = i * 4 by omega] using h0
      · rw [List.getElem?_append_right (by simp; omega)]; simpa [show (i + 1) * 4 + 1 - 4 = i * 4 + 1 by omega] using h1
      · rw [List.getElem?_append_right (by simp; omega)]; simpa [show (i + 1) * 4 + 2 - 4 = i * 4 + 2 by omega] using h2
      · rw [List.getElem?_append_right (by simp; omega)]; simpa [show (i + 1) * 4 + 3 - 4 = i * 4 + 3 by omega] using h3
theorem cellsV_one (l : List Va) : ∀ u ∈ cellsV l, u.oneCell' = true := by
  intro u hu
  simp only [cellsV, List.mem_flatMap] at hu
  obtain ⟨v, _, hv⟩ := hu
  simp at hv
  rcases hv with rfl | rfl | rfl | rfl <;> rfl

theorem src_of_vs {w : World} {ao : Option Addr} {cap : Nat} {l : List Va} (h : Vs w ao l) (h0 : ao = none → l = [] ) : Src Tryz.prog 4 22 (.slice ao l.length cap) l.length (cellsV l) w := by
  cases ao with
  | none =>
    have := h0 rfl
    subst this
    exact Src.ofNil w Tryz.underlying22 cap
  | some a =>
    refine Src.ofSlice w Tryz.underlying22 a l.length cap (cellsV l) (cellsV_len l) (fun j u hu => ?_) (cellsV_one l)
    have hj : j < (cellsV l).length := (List.getElem?_eq_some_iff.1 hu).1
    rw [cellsV_len] at hj
    obtain ⟨b, off, hao, hc⟩ := h (by omega)
    obtain rfl := Option.some.inj hao
    have hd : j = j / 4 * 4 + j % 4 := by omega
    obtain ⟨c0, c1, c2, c3⟩ := hc (j / 4) (by omega)
    obtain ⟨d0, d1, d2, d3⟩ := cellsV_at l (j / 4) (by omega)
    rw [Addr.add_lit]
    have hm : j % 4 = 0 ∨ j % 4 = 1 ∨ j % 4 = 2 ∨ j % 4 = 3 := by omega
    rcases hm with hm | hm | hm | hm
    · rw [show off + j = off + j / 4 * 4 by omega, c0]
      rw [show j = j / 4 * 4 by omega, d0] at hu
      exact hu
    · rw [show off + j = off + j / 4 * 4 + 1 by omega, c1]
      rw [show j = j / 4 * 4 + 1 by omega, d1] at hu
      exact hu
    · rw [show off + j = off + j / 4 * 4 + 2 by omega, c2]
      rw [show j = j / 4 * 4 + 2 by omega, d2] at hu
      exact hu
    · rw [show off + j = off + j / 4 * 4 + 3 by omega, c3]
      rw [show j = j / 4 * 4 + 3 by omega, d3] at hu
      exact hu

theorem vs_of_own {w : World} {base : Nat} {v : Value} {l : List Va} (h : w.ownsRow base 47 4 v l.length (cellsV l)) : ∃ ao cap, v = .slice ao l.length cap ∧ Vs w ao l := by
  obtain ⟨h1, h2⟩ := h
  rcases h2 with ⟨rfl, hn⟩ | ⟨g, cap, cur, rfl, hb, hg, hnc, hcm, hcs, htake⟩
  · have : l = [] := List.eq_nil_of_length_eq_zero hn
    subst this
    exact ⟨none, 0, rfl, fun h => by simp at h⟩
  · refine ⟨some ⟨g, 0, none⟩, cap, rfl, fun _ => ⟨g, 0, rfl, fun i hi => ?_⟩⟩
    obtain ⟨d0, d1, d2, d3⟩ := cellsV_at l i hi
    rw [← htake] at d0 d1 d2 d3
    have cc : ∀ j u, (cur.toList.take (l.length * 4))[j]? = some u → w.cell? ⟨g, j, none⟩ = some u := by
      intro j u hu
      rw [cell_of_row w g j cur 47 (0, 0) hg]
      rw [List.getElem?_take] at hu
      split at hu
      · simpa using hu
      · cases hu
    simp only [Nat.zero_add]
    exact ⟨cc _ _ d0, cc _ _ d1, cc _ _ d2, cc _ _ d3⟩

set_option maxHeartbeats 1000000 in
theorem vown_any (ao : Option Addr) (cap : Nat) (l : List Va) (w : World) (hv : Vs w ao l) (h0 : ao = none → l = []) (hl : l.length * 40 ≤ 140737488351232) :
    Calls Tryz.prog 5 #[.slice ao l.length cap] w fun e w' => ∃ ao' cap', e = .returned (.slice ao' l.length cap') ∧ Vs w' ao' l ∧ Below w.heap.size w w' := by
  obtain ⟨i0, hi, hz0, hz1, hz2⟩ := info_parts Tryz.info47
  have A1 : Below w.heap.size w (w.alloc (.cells #[] 47)) := (Below.refl _ _).alloc (Nat.le_refl _) _
  have hs := src_of_vs (cap := cap) (hv.later A1) h0
  have hmade : (w.alloc (.cells #[] 47)).ownsRow w.heap.size 47 4 (.slice (some ⟨w.heap.size, 0, none⟩) 0 0) 0 [] := World.ownsRow_made w #[] 0 (Nat.le_refl _) (by decide) (by simp)
  go_enter Tryz.func5, Tryz.ntmps5
  go_wp2_with (at_builtin; refine wpList_append_from rfl (.tmp 3) (.tmp 4) 22 22 rfl w.heap.size 47 i0 (.agg #[.int .i64 0, .int .i64 0, .int .i64 0, .string ⟨#[]⟩]) 4 40 Tryz.underlying22 hi hz0 hz1 hz2 rfl _ 0 [] rfl hmade _ l.length (cellsV l) rfl hs (by unfold maxLen; omega) (by omega) (by simp) ?_)
  intro v2 w2 ho2 hg2
  have B2 : Below w.heap.size w w2 := A1.grown hg2 (by simp) (fun k hk => by cases hk; exact Nat.le_refl _)
  obtain ⟨ao', cap', rfl, hv2⟩ := vs_of_own ho2
  clear ho2 hg2 hmade hs A1 hv
  go_wp2
  go_ret
  exact ⟨_, _, rfl, hv2, B2⟩

/-- Are two values the same? -/
def sameV (a b : Va) : Bool := a.k == b.k && (a.n == b.n && (a.m == b.m && (ByteArray.mk a.b.toArray).toList == (ByteArray.mk b.b.toArray).toList))
theorem sameV_iff (a b : Va) : sameV a b = true ↔ a = b := by
  obtain ⟨k, n, m, l⟩ := a
  obtain ⟨k', n', m', l'⟩ := b
  unfold sameV
  rw [Lib.toList_data, Lib.toList_data]
  simp
instance : DecidableEq Va := fun a b => decidable_of_iff (sameV a b = true) (sameV_iff a b)

set_option maxRecDepth 20000 in
set_option maxHeartbeats 4000000 in
theorem vsame_any (ao bo : Option Addr) (c d : Nat) (x y : List Va) (w : World) (hx : Vs w ao x) (hy : Vs w bo y) (lx : x.length ≤ 9223372036854775806) (ly : y.length ≤ 9223372036854775806) :
    Calls Tryz.prog 13 #[.slice ao x.length c, .slice bo y.length d] w fun e w' => e = .returned (.bool (decide (x = y))) ∧ Below w.heap.size w w' := by
  obtain ⟨R, hR⟩ : ∃ R, R = decide (x = y) := ⟨_, rfl⟩
  rw [← hR]
  have HR : Hid (R = decide (x = y)) := hR
  obtain ⟨n, hn⟩ : ∃ n, x.length = n := ⟨_, rfl⟩
  obtain ⟨m, hm⟩ : ∃ m, y.length = m := ⟨_, rfl⟩
  rw [hn] at lx ⊢
  rw [hm] at ly ⊢
  have HN : Hid (x.length = n) := hn
  have HM : Hid (y.length = m) := hm
  clear hn hm hR
  by_cases hnm : n = m
  · subst hnm
    go_enter Tryz.func13, Tryz.ntmps13
    go_wp2
    go_loopw [5] (fun r wr => ∃ k : Nat, r = .int .i64 (k : Int) ∧ k ≤ n ∧ Below w.heap.size w wr ∧ Hid (∀ i (h1 : i < x.length) (h2 : i < y.length), i < k → x[i] = y[i])) (fun r _ => n - (intOf r).toNat)
    case atStart => exact ⟨0, rfl, Nat.zero_le _, Below.refl _ _, fun i _ _ h => by omega⟩
    case round =>
      obtain ⟨k, rfl, hk, hB, hA⟩ := hrel
      have sB := hB.size
      by_cases hlt : k < n
      · have hlt' : (k : Int) < (n : Int) := by omega
        have k0 : (0 : Int) ≤ (k : Int) := by omega
        have kx : k < x.length := by have := HN.out; omega
        have ky : k < y.length := by have := HM.out; omega
        obtain ⟨b1, o1, rfl, hc1⟩ := hx (by omega)
        obtain ⟨b2, o2, rfl, hc2⟩ := hy (by omega)
        obtain ⟨c0, c1, c2, c3⟩ := (hc1 k kx).later hB
        obtain ⟨d0, d1, d2, d3⟩ := (hc2 k ky).later hB
        have g1 := ((hc1 k kx).later hB).lt
        have g2 := ((hc2 k ky).later hB).lt
        have Sm : ∀ W, Calls Tryz.prog 34 #[vv x[k], vv y[k]] W fun e w' => e = .returned (.bool (sameV x[k] y[k])) ∧ Grew W w' := fun W => rsame_any _ _ _ _ _ _ _ _ W
        have hsi := sameV_iff x[k] y[k]
        obtain ⟨V, hV⟩ : ∃ V, V = sameV x[k] y[k] := ⟨_, rfl⟩
        rw [← hV] at Sm hsi
        have HV : Hid (V = true ↔ x[k] = y[k]) := hsi
        obtain ⟨⟨ak, an, am, ab⟩, ha⟩ : ∃ v : Va, v = x[k] := ⟨_, rfl⟩
        obtain ⟨⟨bk, bn, bm, bb⟩, hb⟩ : ∃ v : Va, v = y[k] := ⟨_, rfl⟩
        rw [← ha] at c0 c1 c2 c3 Sm
        rw [← hb] at d0 d1 d2 d3 Sm
        simp only at c0 c1 c2 c3 d0 d1 d2 d3
        clear ha hb hc1 hc2 hV hx hy hsi
        cases V
        · have HF : Hid (R = false) := by
            show R = false
            rw [HR.out]
            refine decide_eq_false fun h => ?_
            have := HV.out.2 (by subst h; rfl)
            cases this
          go_upto_region 6 with fail
          go_region_held2 (fun W => W.cell? ⟨b1, o1 + k * 4, none⟩ = some (.int .i64 ak) ∧ W.cell? ⟨b1, o1 + k * 4 + 1, none⟩ = some (.int .i64 an) ∧ W.cell? ⟨b1, o1 + k * 4 + 2, none⟩ = some (.int .i64 am) ∧ W.cell? ⟨b1, o1 + k * 4 + 3, none⟩ = some (.string ⟨ab.toArray⟩) ∧
              W.cell? ⟨b2, o2 + k * 4, none⟩ = some (.int .i64 bk) ∧ W.cell? ⟨b2, o2 + k * 4 + 1, none⟩ = some (.int .i64 bn) ∧ W.cell? ⟨b2, o2 + k * 4 + 2, none⟩ = some (.int .i64 bm) ∧ W.cell? ⟨b2, o2 + k * 4 + 3, none⟩ = some (.string ⟨bb.toArray⟩))
            (first | go_keep | (refine ⟨?_, ?_, ?_, ?_, ?_, ?_, ?_, ?_⟩ <;> assumption))
            ((go_at_call 34; refine (Sm _).mono ?_; rintro e w2 ⟨rfl, gq⟩; have bp : Below wr.heap.size wr w2 := below_trans (Below.refl _ wr).drew gq.below; obtain ⟨c0', c1', c2', c3'⟩ := At4.later (v := ⟨ak, an, am, ab⟩) ⟨c0, c1, c2, c3⟩ bp; obtain ⟨d0', d1', d2', d3'⟩ := At4.later (v := ⟨bk, bn, bm, bb⟩) ⟨d0, d1, d2, d3⟩ bp))
          go_wp2
          go_ret
          exact ⟨by rw [HF.out]; rfl, below_trans hB bp⟩
        · go_upto_region 6 with fail
          go_region_held2 (fun W => W.cell? ⟨b1, o1 + k * 4, none⟩ = some (.int .i64 ak) ∧ W.cell? ⟨b1, o1 + k * 4 + 1, none⟩ = some (.int .i64 an) ∧ W.cell? ⟨b1, o1 + k * 4 + 2, none⟩ = some (.int .i64 am) ∧ W.cell? ⟨b1, o1 + k * 4 + 3, none⟩ = some (.string ⟨ab.toArray⟩) ∧
              W.cell? ⟨b2, o2 + k * 4, none⟩ = some (.int .i64 bk) ∧ W.cell? ⟨b2, o2 + k * 4 + 1, none⟩ = some (.int .i64 bn) ∧ W.cell? ⟨b2, o2 + k * 4 + 2, none⟩ = some (.int .i64 bm) ∧ W.cell? ⟨b2, o2 + k * 4 + 3, none⟩ = some (.string ⟨bb.toArray⟩))
            (first | go_keep | (refine ⟨?_, ?_, ?_, ?_, ?_, ?_, ?_, ?_⟩ <;> assumption))
            ((go_at_call 34; refine (Sm _).mono ?_; rintro e w2 ⟨rfl, gq⟩; have bp : Below wr.heap.size wr w2 := below_trans (Below.refl _ wr).drew gq.below; obtain ⟨c0', c1', c2', c3'⟩ := At4.later (v := ⟨ak, an, am, ab⟩) ⟨c0, c1, c2, c3⟩ bp; obtain ⟨d0', d1', d2', d3'⟩ := At4.later (v := ⟨bk, bn, bm, bb⟩) ⟨d0, d1, d2, d3⟩ bp))
          go_wp2
          go_roundw
          case rel =>
            refine ⟨k + 1, by go_num, by omega, below_trans hB bp, fun i h1 h2 hik => ?_⟩
            by_cases h : i < k
            · exact hA.out i h1 h2 h
            · have : i = k := by omega
              subst this
              exact HV.out.1 (by first | rfl | trivial)
          case measure => simp [intOf]; omega
      · have hlt' : ¬ (k : Int) < (n : Int) := by omega
        have HF : Hid (R = true) := by
          show R = true
          rw [HR.out]
          refine decide_eq_true ?_
          have h1 := HN.out
          have h2 := HM.out
          exact List.ext_getElem (by omega) fun i hi1 hi2 => hA.out i hi1 hi2 (by omega)
        go_wp2
        go_ret
        exact ⟨by rw [HF.out]; rfl, hB⟩
  · have hne : ((n : Int) == (m : Int)) = false := by rw [beq_eq_false_iff_ne]; omega
    have HF : Hid (R = false) := by
      show R = false
      rw [HR.out]
      refine decide_eq_false fun h => hnm ?_
      have h1 := HN.out
      have h2 := HM.out
      subst h
      omega
    go_enter Tryz.func13, Tryz.ntmps13
    go_wp2
    go_ret
    exact ⟨by rw [HF.out]; rfl, Below.refl _ _⟩
end Go.Proofs.YtafmchgncahafaaGreatDoor
