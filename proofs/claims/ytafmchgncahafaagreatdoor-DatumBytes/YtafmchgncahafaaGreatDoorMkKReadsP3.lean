/-
  The contract of the document's Reader's Number.
  The contract of the document's Reader's Text, where it is refused.
-/
import Derived.Test.YtafmchgncahafaaGreatDoorKReadsP
namespace Go.Proofs.YtafmchgncahafaaGreatDoor.Co
open Go.RowKit

theorem rrCells_pass {w : World} {p : Nat} {ao : Option Addr} {n cap : Nat} {k e k' e' : Int} {t : TypeId} (h : w.heap[p]? = some (.cells (rrCells ao n cap k e) t (0, 0))) :
    ((w.setCell ⟨p, 2, none⟩ (.int .i64 e')).setCell ⟨p, 1, none⟩ (.int .i64 k')).heap[p]? = some (.cells (rrCells ao n cap k' e') t (0, 0)) :=
  row_setCell (row_setCell h)

/-- What Number and Text leave behind them: the place, the error. -/
theorem rr_pass {w : World} {p : Nat} {bs : List UInt8} {k e k' e' : Nat} {ao : Option Addr} {cap : Nat} (hb : w.heap[p]? = some (.cells (rrCells ao bs.length cap (k : Int) (e : Int)) 81 (0, 0)))
    (hr : Rd w ao bs.length cap bs) (hg : ao = none ∨ ∃ g, ao = some ⟨g, 0, none⟩ ∧ g ≠ p) (hk : k' ≤ bs.length) :
    RRdr ((w.setCell ⟨p, 2, none⟩ (.int .i64 (e' : Int))).setCell ⟨p, 1, none⟩ (.int .i64 (k' : Int))) p bs k' e' ∧ w.grownBy ((w.setCell ⟨p, 2, none⟩ (.int .i64 (e' : Int))).setCell ⟨p, 1, none⟩ (.int .i64 (k' : Int))) (some p) := by
  have hG : w.grownBy ((w.setCell ⟨p, 2, none⟩ (.int .i64 (e' : Int))).setCell ⟨p, 1, none⟩ (.int .i64 (k' : Int))) (some p) := gb_trans (gb_setCell _ _ _ _) (gb_setCell _ _ _ _)
  refine ⟨⟨ao, cap, rrCells_pass hb, ?_, hk, hg⟩, hG⟩
  refine hr.kept fun b off hao hlt => hG.block b hlt ?_
  rcases hg with h | ⟨g, h, hne⟩
  · rw [h] at hao; cases hao
  · rw [h] at hao
    cases hao
    intro e
    exact hne (Option.some.inj e)

set_option maxHeartbeats 1000000 in
theorem rrNumber_any (p : Nat) (bs : List UInt8) (k e : Nat) (w : World) (h : RRdr w p bs k e) :
    Calls Tryz.prog 52 #[.pointer (some ⟨p, 0, none⟩)] w fun x w' => x = .returned (.int .i64 (rNum bs k e).1) ∧ RRdr w' p bs (rNum bs k e).2.1 (rNum bs k e).2.2 ∧ w.grownBy w' (some p) := by
  obtain ⟨ao, cap, hb, hr, hk, hg⟩ := id h
  obtain ⟨c0, c1, c2⟩ := rrCell w hb
  by_cases he : e = 0
  · subst he
    have hN : rNum bs k 0 = (numOf (takeN (bs.drop k)), k + (takeN (bs.drop k)).2.1, (takeN (bs.drop k)).2.2) := rfl
    rw [hN]
    have hle := takeN_le (bs.drop k)
    rw [List.length_drop] at hle
    clear hN h
    have f1 := rCells_free hb 1
    have f2 := rCells_free hb 2
    have hn := hr.2.2.1
    have hnc := hr.2.1
    unfold maxLen at hn
    have HP : Hid (∀ (q k' e' : Nat), k' ≤ bs.length → RRdr (((w.drewN q).setCell ⟨p, 2, none⟩ (.int .i64 (e' : Int))).setCell ⟨p, 1, none⟩ (.int .i64 (k' : Int))) p bs k' e' ∧ w.grownBy (((w.drewN q).setCell ⟨p, 2, none⟩ (.int .i64 (e' : Int))).setCell ⟨p, 1, none⟩ (.int .i64 (k' : Int))) (some p)) := fun q k' e' hk' => by
      have := rr_pass (w := w.drewN q) (k := k) (e := 0) (k' := k') (e' := e') (by simpa using hb) (hr.drewN q) hg hk'
      exact ⟨this.1, gb_trans (gb_drewN w q _) this.2⟩
    have hsum : (k : Int) + ((takeN (bs.drop k)).2.1 : Int) ≤ 9223372036854775807 := by omega
    have HC : Hid (∀ ao' cap' q, Rd w ao' (bs.length - k) cap' (bs.drop k) → Calls Tryz.prog 74 #[.slice ao' (bs.length - k) cap'] (w.drewN q) fun e w' => e = .returned (.tuple #[.int .i64 (numOf (takeN (bs.drop k))), .int .i64 ((takeN (bs.drop k)).2.1 : Int), .int .i64 ((takeN (bs.drop k)).2.2 : Int)]) ∧ w' = w.drewN q) := fun ao' cap' q hR => (rtake_any ao' _ cap' (bs.drop k) (w.drewN q) (hR.drewN q)).mono fun _ _ ⟨h1, h2⟩ => ⟨h1, h2.symm⟩
    have hle2 : k + (takeN (bs.drop k)).2.1 ≤ bs.length := by omega
    generalize takeN (bs.drop k) = t at HC hsum hle2
    obtain ⟨t1, t2, t3⟩ := t
    simp only at HC hsum hle2 ⊢
    generalize numOf (t1, t2, t3) = z at HC
    clear hle
    rcases hg with rfl | ⟨g, rfl, _⟩
    · have h0 := hr.2.2.2.1 rfl
      obtain ⟨h0, rfl⟩ := h0
      have hk0 : k = 0 := by omega
      subst hk0
      have : bs = [] := List.eq_nil_of_length_eq_zero h0
      subst this
      have HC' : Hid (∀ q, Calls Tryz.prog 74 #[.slice none 0 0] (w.drewN q) fun e w' => e = .returned (.tuple #[.int .i64 z, .int .i64 (t2 : Int), .int .i64 (t3 : Int)]) ∧ w' = w.drewN q) := fun q => HC.out none 0 q (Rd.nil w)
      clear HC hb hr h0
      go_enter Tryz.func52, Tryz.ntmps52
      go_wp2
      go_quiet ((go_at_call 74; exact Calls.quiet_of_same (HC'.out _)))
      go_wp2
      go_ret
      have hP := HP.out nq t2 t3 (by omega)
      rw [Nat.zero_add]
      exact ⟨rfl, hP.1, hP.2⟩
    · by_cases hc : cap = k
      · have hlen : bs.length = k := by omega
        have hR : Rd w (some ⟨g, 0, none⟩) (bs.length - k) (cap - k) (bs.drop k) := ⟨by simp, by omega, by unfold maxLen; omega, (fun h => by cases h), fun h => by omega⟩
        have HC' : Hid (∀ q, Calls Tryz.prog 74 #[.slice (some ⟨g, 0, none⟩) (bs.length - k) (cap - k)] (w.drewN q) fun e w' => e = .returned (.tuple #[.int .i64 z, .int .i64 (t2 : Int), .int .i64 (t3 : Int)]) ∧ w' = w.drewN q) := fun q => HC.out _ _ q hR
        have HL : Hid (bs.length = k) := hlen
        have HCC : Hid (cap = k) := hc
        have hc' : ((cap : Nat) = k) = True := by simp [hc]
        clear hlen hc hr HC hb
        go_enter Tryz.func52, Tryz.ntmps52
        go_wp2
        go_quiet ((go_at_call 74; exact Calls.quiet_of_same (HC'.out _)))
        go_wp2
        go_ret
        have hP := HP.out nq (k + t2) t3 (by omega)
        rw [show ((k + t2 : Nat) : Int) = (k : Int) + (t2 : Int) from by omega] at hP
        exact ⟨rfl, hP.1, hP.2⟩
      · have hR := hr.cut k (bs.length - k) (by omega)
        rw [List.take_of_length_le (by simp), Nat.zero_add] at hR
        have HC' : Hid (∀ q, Calls Tryz.prog 74 #[.slice (some ⟨g, k, none⟩) (bs.length - k) (cap - k)] (w.drewN q) fun e w' => e = .returned (.tuple #[.int .i64 z, .int .i64 (t2 : Int), .int .i64 (t3 : Int)]) ∧ w' = w.drewN q) := fun q => HC.out _ _ q hR
        clear hr HC hb hR
        go_enter Tryz.func52, Tryz.ntmps52
        go_wp2
        go_quiet ((go_at_call 74; exact Calls.quiet_of_same (HC'.out _)))
        go_wp2
        go_ret
        have hP := HP.out nq (k + t2) t3 (by omega)
        rw [show ((k + t2 : Nat) : Int) = (k : Int) + (t2 : Int) from by omega] at hP
        exact ⟨rfl, hP.1, hP.2⟩
  · have hN : rNum bs k e = (0, k, e) := by unfold rNum; rw [if_pos he]
    rw [hN]
    have he2 : ((e : Int) != 0) = true := by simp; omega
    have he3 : ¬ (e : Int) = 0 := by omega
    clear hN he hb hr hg
    go_enter Tryz.func52, Tryz.ntmps52
    go_wp2
    go_ret
    exact ⟨rfl, h, World.grownBy.refl _ _⟩
end Go.Proofs.YtafmchgncahafaaGreatDoor.Co

namespace Go.Proofs.YtafmchgncahafaaGreatDoor.Co
open Go.RowKit

theorem rr_err {w : World} {p : Nat} {bs : List UInt8} {k e : Nat} (e' : Nat) (h : RRdr w p bs k e) :
    RRdr (w.setCell ⟨p, 2, none⟩ (.int .i64 (e' : Int))) p bs k e' ∧ w.grownBy (w.setCell ⟨p, 2, none⟩ (.int .i64 (e' : Int))) (some p) := by
  obtain ⟨ao, cap, hb, hr, hk, hg⟩ := h
  have hG := gb_setCell w p 2 (.int .i64 (e' : Int))
  refine ⟨⟨ao, cap, row_setCell hb, ?_, hk, hg⟩, hG⟩
  refine hr.kept fun b off hao hlt => hG.block b hlt ?_
  rcases hg with h | ⟨g, h, hne⟩
  · rw [h] at hao; cases hao
  · rw [h] at hao
    cases hao
    intro e
    exact hne (Option.some.inj e)

/-- No number is to be had: the error is the number's. -/
theorem rTxt_bad (bs : List UInt8) (k : Nat) (h : (takeN (bs.drop k)).2.2 ≠ 0) : rTxt bs k 0 = ([], k, (takeN (bs.drop k)).2.2) := by
  have hL : takeL (bs.drop k) = (0, 0, (takeN (bs.drop k)).2.2) := by unfold takeL; rw [if_pos h]
  have hT : takeT (bs.drop k) = ([], 0, (takeN (bs.drop k)).2.2) := by unfold takeT; rw [hL]; rw [if_pos h]
  unfold rTxt
  rw [if_neg (by simp), hT]
  rfl

set_option maxHeartbeats 1000000 in
theorem rrText_bad (p : Nat) (bs : List UInt8) (k : Nat) (w : World) (h : RRdr w p bs k 0) (ht : (takeN (bs.drop k)).2.2 ≠ 0) :
    Calls Tryz.prog 53 #[.pointer (some ⟨p, 0, none⟩)] w fun x w' => x = .returned (.string ⟨(rTxt bs k 0).1.toArray⟩) ∧ RRdr w' p bs (rTxt bs k 0).2.1 (rTxt bs k 0).2.2 ∧ w.grownBy w' (some p) := by
  rw [rTxt_bad bs k ht]
  have HH : Hid (RRdr w p bs k 0) := h
  obtain ⟨ao, cap, hb, hr, hk, hg⟩ := h
  obtain ⟨c0, c1, c2⟩ := rrCell w hb
  have f1 := rCells_free hb 1
  have f2 := rCells_free hb 2
  have hn := hr.2.2.1
  have hnc := hr.2.1
  unfold maxLen at hn
  have HC : Hid (∀ ao' cap' q, Rd w ao' (bs.length - k) cap' (bs.drop k) → Calls Tryz.prog 74 #[.slice ao' (bs.length - k) cap'] (w.drewN q) fun e w' => e = .returned (.tuple #[.int .i64 (numOf (takeN (bs.drop k))), .int .i64 ((takeN (bs.drop k)).2.1 : Int), .int .i64 ((takeN (bs.drop k)).2.2 : Int)]) ∧ w' = w.drewN q) := fun ao' cap' q hR => (rtake_any ao' _ cap' (bs.drop k) (w.drewN q) (hR.drewN q)).mono fun _ _ ⟨h1, h2⟩ => ⟨h1, h2.symm⟩
  generalize takeN (bs.drop k) = t at HC ht
  obtain ⟨t1, t2, t3⟩ := t
  simp only at HC ht ⊢
  generalize numOf (t1, t2, t3) = z at HC
  have he2 : ((t3 : Int) != 0) = true := by simp; omega
  have he3 : ¬ (t3 : Int) = 0 := by omega
  clear ht
  rcases hg with rfl | ⟨g, rfl, _⟩
  · have h0 := hr.2.2.2.1 rfl
    obtain ⟨h0, rfl⟩ := h0
    have hk0 : k = 0 := by omega
    subst hk0
    have : bs = [] := List.eq_nil_of_length_eq_zero h0
    subst this
    have HC' : Hid (∀ q, Calls Tryz.prog 74 #[.slice none 0 0] (w.drewN q) fun e w' => e = .returned (.tuple #[.int .i64 z, .int .i64 (t2 : Int), .int .i64 (t3 : Int)]) ∧ w' = w.drewN q) := fun q => HC.out none 0 q (Rd.nil w)
    clear HC hb hr h0
    go_enter Tryz.func53, Tryz.ntmps53
    go_wp2
    go_quiet ((go_at_call 74; exact Calls.quiet_of_same (HC'.out _)))
    go_wp2
    go_ret
    have hP := rr_err t3 (HH.out.drewN nq)
    exact ⟨rfl, hP.1, gb_trans (gb_drewN w nq _) hP.2⟩
  · by_cases hc : cap = k
    · have hlen : bs.length = k := by omega
      have hR : Rd w (some ⟨g, 0, none⟩) (bs.length - k) (cap - k) (bs.drop k) := ⟨by simp, by omega, by unfold maxLen; omega, (fun h => by cases h), fun h => by omega⟩
      have HC' : Hid (∀ q, Calls Tryz.prog 74 #[.slice (some ⟨g, 0, none⟩) (bs.length - k) (cap - k)] (w.drewN q) fun e w' => e = .returned (.tuple #[.int .i64 z, .int .i64 (t2 : Int), .int .i64 (t3 : Int)]) ∧ w' = w.drewN q) := fun q => HC.out _ _ q hR
      have HL : Hid (bs.length = k) := hlen
      have HCC : Hid (cap = k) := hc
      have hc' : ((cap : Nat) = k) = True := by simp [hc]
      clear hlen hc hr HC hb
      go_enter Tryz.func53, Tryz.ntmps53
      go_wp2
      go_quiet ((go_at_call 74; exact Calls.quiet_of_same (HC'.out _)))
      go_wp2
      go_ret
      have hP := rr_err t3 (HH.out.drewN nq)
      exact ⟨rfl, hP.1, gb_trans (gb_drewN w nq _) hP.2⟩
    · have hR := hr.cut k (bs.length - k) (by omega)
      rw [List.take_of_length_le (by simp), Nat.zero_add] at hR
      have HC' : Hid (∀ q, Calls Tryz.prog 74 #[.slice (some ⟨g, k, none⟩) (bs.length - k) (cap - k)] (w.drewN q) fun e w' => e = .returned (.tuple #[.int .i64 z, .int .i64 (t2 : Int), .int .i64 (t3 : Int)]) ∧ w' = w.drewN q) := fun q => HC.out _ _ q hR
      clear hr HC hb hR
      go_enter Tryz.func53, Tryz.ntmps53
      go_wp2
      go_quiet ((go_at_call 74; exact Calls.quiet_of_same (HC'.out _)))
      go_wp2
      go_ret
      have hP := rr_err t3 (HH.out.drewN nq)
      exact ⟨rfl, hP.1, gb_trans (gb_drewN w nq _) hP.2⟩

set_option maxHeartbeats 1000000 in
theorem rrText_set (p : Nat) (bs : List UInt8) (k e : Nat) (w : World) (h : RRdr w p bs k e) (he : e ≠ 0) :
    Calls Tryz.prog 53 #[.pointer (some ⟨p, 0, none⟩)] w fun x w' => x = .returned (.string ⟨(rTxt bs k e).1.toArray⟩) ∧ RRdr w' p bs (rTxt bs k e).2.1 (rTxt bs k e).2.2 ∧ w.grownBy w' (some p) := by
  obtain ⟨ao, cap, hb, hr, hk, hg⟩ := id h
  obtain ⟨c0, c1, c2⟩ := rrCell w hb
  have hN : rTxt bs k e = ([], k, e) := by unfold rTxt; rw [if_pos he]
  rw [hN]
  have he2 : ((e : Int) != 0) = true := by simp; omega
  have he3 : ¬ (e : Int) = 0 := by omega
  clear hN he hb hr hg
  go_enter Tryz.func53, Tryz.ntmps53
  go_wp2
  go_ret
  exact ⟨rfl, h, World.grownBy.refl _ _⟩
end Go.Proofs.YtafmchgncahafaaGreatDoor.Co
