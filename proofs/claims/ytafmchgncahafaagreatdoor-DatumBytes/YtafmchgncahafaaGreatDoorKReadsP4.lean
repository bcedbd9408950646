/-
  The contract of the document's Reader's Text, where a number is had: out of range, too few bytes behind it, a text.
-/
import Derived.Test.YtafmchgncahafaaGreatDoorMkKReadsP3
namespace Go.Proofs.YtafmchgncahafaaGreatDoor.Co
open Go.RowKit

theorem rr_at {w : World} {p : Nat} {bs : List UInt8} {k e : Nat} (k' : Nat) (h : RRdr w p bs k e) (hk' : k' ≤ bs.length) :
    RRdr (w.setCell ⟨p, 1, none⟩ (.int .i64 (k' : Int))) p bs k' e ∧ w.grownBy (w.setCell ⟨p, 1, none⟩ (.int .i64 (k' : Int))) (some p) := by
  obtain ⟨ao, cap, hb, hr, hk, hg⟩ := h
  have hG := gb_setCell w p 1 (.int .i64 (k' : Int))
  refine ⟨⟨ao, cap, row_setCell hb, ?_, hk', hg⟩, hG⟩
  refine hr.kept fun b off hao hlt => hG.block b hlt ?_
  rcases hg with h | ⟨g, h, hne⟩
  · rw [h] at hao; cases hao
  · rw [h] at hao
    cases hao
    intro e
    exact hne (Option.some.inj e)

/-- Where a number is had, bytes are left. -/
theorem bytes_left (bs : List UInt8) (k : Nat) (h : (takeN (bs.drop k)).2.2 = 0) : k < bs.length := by
  rcases Nat.lt_or_ge k bs.length with h1 | h1
  · exact h1
  · rw [List.drop_eq_nil_of_le h1] at h
    exact absurd h (by decide)

theorem rTxt_range (bs : List UInt8) (k : Nat) (h : (takeN (bs.drop k)).2.2 = 0) (hz : numOf (takeN (bs.drop k)) < 0 ∨ 1048576 < numOf (takeN (bs.drop k))) : rTxt bs k 0 = ([], k, 21) := by
  have hL : takeL (bs.drop k) = (0, 0, 21) := by unfold takeL; rw [if_neg (by simp [h]), if_pos hz]
  have hT : takeT (bs.drop k) = ([], 0, 21) := by unfold takeT; rw [hL]; rfl
  unfold rTxt
  rw [if_neg (by simp), hT]
  rfl
theorem rTxt_few (bs : List UInt8) (k : Nat) (h : (takeN (bs.drop k)).2.2 = 0) (m : Nat) (hm : numOf (takeN (bs.drop k)) = (m : Int)) (hm2 : m ≤ 1048576) (hf : bs.length - k - (takeN (bs.drop k)).2.1 < m) : rTxt bs k 0 = ([], k, 20) := by
  have hL : takeL (bs.drop k) = (m, (takeN (bs.drop k)).2.1, 0) := by unfold takeL; rw [if_neg (by simp [h]), if_neg (by omega), hm, Int.toNat_natCast]
  have hT : takeT (bs.drop k) = ([], 0, 20) := by unfold takeT; rw [hL]; rw [if_neg (by simp), if_pos (by rw [List.length_drop]; exact hf)]
  unfold rTxt
  rw [if_neg (by simp), hT]
  rfl
theorem rTxt_ok (bs : List UInt8) (k : Nat) (h : (takeN (bs.drop k)).2.2 = 0) (m : Nat) (hm : numOf (takeN (bs.drop k)) = (m : Int)) (hm2 : m ≤ 1048576) (hf : ¬ bs.length - k - (takeN (bs.drop k)).2.1 < m) :
    rTxt bs k 0 = ((bs.drop (k + (takeN (bs.drop k)).2.1)).take m, k + ((takeN (bs.drop k)).2.1 + m), 0) := by
  have hL : takeL (bs.drop k) = (m, (takeN (bs.drop k)).2.1, 0) := by unfold takeL; rw [if_neg (by simp [h]), if_neg (by omega), hm, Int.toNat_natCast]
  have hT : takeT (bs.drop k) = ((bs.drop (k + (takeN (bs.drop k)).2.1)).take m, (takeN (bs.drop k)).2.1 + m, 0) := by unfold takeT; rw [hL]; rw [if_neg (by simp), if_neg (by rw [List.length_drop]; exact hf), List.drop_drop]
  unfold rTxt
  rw [if_neg (by simp), hT]

set_option maxHeartbeats 1000000 in
theorem rrText_range (p : Nat) (bs : List UInt8) (k : Nat) (w : World) (h : RRdr w p bs k 0) (ht : (takeN (bs.drop k)).2.2 = 0) (hz : numOf (takeN (bs.drop k)) < 0 ∨ 1048576 < numOf (takeN (bs.drop k))) :
    Calls Tryz.prog 53 #[.pointer (some ⟨p, 0, none⟩)] w fun x w' => x = .returned (.string ⟨(rTxt bs k 0).1.toArray⟩) ∧ RRdr w' p bs (rTxt bs k 0).2.1 (rTxt bs k 0).2.2 ∧ w.grownBy w' (some p) := by
  rw [rTxt_range bs k ht hz]
  have hlt := bytes_left bs k ht
  have HH : Hid (RRdr w p bs k 0) := h
  obtain ⟨ao, cap, hb, hr, hk, hg⟩ := h
  obtain ⟨c0, c1, c2⟩ := rrCell w hb
  have f1 := rCells_free hb 1
  have f2 := rCells_free hb 2
  have hn := hr.2.2.1
  have hnc := hr.2.1
  unfold maxLen at hn
  have HC : Hid (∀ ao' cap' q, Rd w ao' (bs.length - k) cap' (bs.drop k) → Calls Tryz.prog 74 #[.slice ao' (bs.length - k) cap'] (w.drewN q) fun e w' => e = .returned (.tuple #[.int .i64 (numOf (takeN (bs.drop k))), .int .i64 ((takeN (bs.drop k)).2.1 : Int), .int .i64 ((takeN (bs.drop k)).2.2 : Int)]) ∧ w' = w.drewN q) := fun ao' cap' q hR => (rtake_any ao' _ cap' (bs.drop k) (w.drewN q) (hR.drewN q)).mono fun _ _ ⟨h1, h2⟩ => ⟨h1, h2.symm⟩
  rw [ht] at HC
  generalize numOf (takeN (bs.drop k)) = z at HC hz
  generalize (takeN (bs.drop k)).2.1 = t2 at HC
  simp only at HC ⊢
  clear ht
  rcases hg with rfl | ⟨g, rfl, _⟩
  · have h0 := hr.2.2.2.1 rfl
    omega
  have hR := hr.cut k (bs.length - k) (by omega)
  rw [List.take_of_length_le (by simp), Nat.zero_add] at hR
  have HC' : Hid (∀ q, Calls Tryz.prog 74 #[.slice (some ⟨g, k, none⟩) (bs.length - k) (cap - k)] (w.drewN q) fun e w' => e = .returned (.tuple #[.int .i64 z, .int .i64 (t2 : Int), .int .i64 0]) ∧ w' = w.drewN q) := fun q => HC.out _ _ q hR
  have hc : ¬ cap = k := by omega
  clear hr HC hb hR
  by_cases hz0 : z < 0
  · clear hz
    go_enter Tryz.func53, Tryz.ntmps53
    go_wp2
    go_quiet ((go_at_call 74; exact Calls.quiet_of_same (HC'.out _)))
    go_wp2
    go_ret
    have hP := rr_err 21 (HH.out.drewN nq)
    exact ⟨rfl, hP.1, gb_trans (gb_drewN w nq _) hP.2⟩
  · have hz1 : 1048576 < z := by omega
    clear hz
    go_enter Tryz.func53, Tryz.ntmps53
    go_wp2
    go_quiet ((go_at_call 74; exact Calls.quiet_of_same (HC'.out _)))
    go_wp2
    go_ret
    have hP := rr_err 21 (HH.out.drewN nq)
    exact ⟨rfl, hP.1, gb_trans (gb_drewN w nq _) hP.2⟩

set_option maxHeartbeats 1000000 in
theorem rrText_few (p : Nat) (bs : List UInt8) (k : Nat) (w : World) (h : RRdr w p bs k 0) (ht : (takeN (bs.drop k)).2.2 = 0) (m : Nat) (hm : numOf (takeN (bs.drop k)) = (m : Int)) (hm2 : m ≤ 1048576) (hf : bs.length - k - (takeN (bs.drop k)).2.1 < m) :
    Calls Tryz.prog 53 #[.pointer (some ⟨p, 0, none⟩)] w fun x w' => x = .returned (.string ⟨(rTxt bs k 0).1.toArray⟩) ∧ RRdr w' p bs (rTxt bs k 0).2.1 (rTxt bs k 0).2.2 ∧ w.grownBy w' (some p) := by
  rw [rTxt_few bs k ht m hm hm2 hf]
  have hlt := bytes_left bs k ht
  have hle := takeN_le (bs.drop k)
  rw [List.length_drop] at hle
  have HH : Hid (RRdr w p bs k 0) := h
  obtain ⟨ao, cap, hb, hr, hk, hg⟩ := h
  obtain ⟨c0, c1, c2⟩ := rrCell w hb
  have f1 := rCells_free hb 1
  have f2 := rCells_free hb 2
  have hn := hr.2.2.1
  have hnc := hr.2.1
  unfold maxLen at hn
  have HC : Hid (∀ ao' cap' q, Rd w ao' (bs.length - k) cap' (bs.drop k) → Calls Tryz.prog 74 #[.slice ao' (bs.length - k) cap'] (w.drewN q) fun e w' => e = .returned (.tuple #[.int .i64 (numOf (takeN (bs.drop k))), .int .i64 ((takeN (bs.drop k)).2.1 : Int), .int .i64 ((takeN (bs.drop k)).2.2 : Int)]) ∧ w' = w.drewN q) := fun ao' cap' q hR => (rtake_any ao' _ cap' (bs.drop k) (w.drewN q) (hR.drewN q)).mono fun _ _ ⟨h1, h2⟩ => ⟨h1, h2.symm⟩
  rw [ht, hm] at HC
  generalize (takeN (bs.drop k)).2.1 = t2 at HC hf hle
  simp only at HC ⊢
  clear ht hm
  rcases hg with rfl | ⟨g, rfl, _⟩
  · have h0 := hr.2.2.2.1 rfl
    omega
  have hR := hr.cut k (bs.length - k) (by omega)
  rw [List.take_of_length_le (by simp), Nat.zero_add] at hR
  have HC' : Hid (∀ q, Calls Tryz.prog 74 #[.slice (some ⟨g, k, none⟩) (bs.length - k) (cap - k)] (w.drewN q) fun e w' => e = .returned (.tuple #[.int .i64 (m : Int), .int .i64 (t2 : Int), .int .i64 0]) ∧ w' = w.drewN q) := fun q => HC.out _ _ q hR
  have hc : ¬ cap = k := by omega
  have hm0 : ¬ (m : Int) < 0 := by omega
  have hm1 : ¬ (1048576 : Int) < (m : Int) := by omega
  have hlo : (0 : Int) ≤ ((bs.length - k : Nat) : Int) - (t2 : Int) := by omega
  have hhi : ((bs.length - k : Nat) : Int) - (t2 : Int) ≤ 9223372036854775807 := by omega
  have hgt : ((bs.length - k : Nat) : Int) - (t2 : Int) < (m : Int) := by omega
  clear hr HC hb hR
  go_enter Tryz.func53, Tryz.ntmps53
  go_wp2
  go_quiet ((go_at_call 74; exact Calls.quiet_of_same (HC'.out _)))
  go_wp2_with fail
  refine (rleft_any p bs k 0 _ (HH.out.drewN nq)).mono ?_
  rintro x w1 ⟨rfl, nq2, rfl⟩
  go_wp2
  go_ret
  have hP := rr_err 20 (HH.out.drewN (nq + nq2))
  exact ⟨rfl, hP.1, gb_trans (gb_drewN w (nq + nq2) _) hP.2⟩
end Go.Proofs.YtafmchgncahafaaGreatDoor.Co
