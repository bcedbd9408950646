/-
  The contract of the document's Reader's Text, where a text is had.
  The contract of the document's Reader's Text; and that a Reader stays as it was while the other one is called.
-/
import Derived.Test.YtafmchgncahafaaGreatDoorKReadsP4
namespace Go.Proofs.YtafmchgncahafaaGreatDoor.Co
open Go.RowKit

set_option maxHeartbeats 1000000 in
theorem rrText_ok (p : Nat) (bs : List UInt8) (k : Nat) (w : World) (h : RRdr w p bs k 0) (ht : (takeN (bs.drop k)).2.2 = 0) (m : Nat) (hm : numOf (takeN (bs.drop k)) = (m : Int)) (hm2 : m ≤ 1048576) (hf : ¬ bs.length - k - (takeN (bs.drop k)).2.1 < m) :
    Calls Tryz.prog 53 #[.pointer (some ⟨p, 0, none⟩)] w fun x w' => x = .returned (.string ⟨(rTxt bs k 0).1.toArray⟩) ∧ RRdr w' p bs (rTxt bs k 0).2.1 (rTxt bs k 0).2.2 ∧ w.grownBy w' (some p) := by
  rw [rTxt_ok bs k ht m hm hm2 hf]
  have hlt := bytes_left bs k ht
  have hle := takeN_le (bs.drop k)
  rw [List.length_drop] at hle
  have HH : Hid (RRdr w p bs k 0) := h
  obtain ⟨ao, cap, hb, hr, hk, hg⟩ := h
  obtain ⟨c0, c1, c2⟩ := rrCell w hb
  have f1 := rCells_free hb 1
  have f2 := rCells_free hb 2
  have hn := hr.2.2.1
  have hnc := hr.2.1
  unfold maxLen at hn
  have HC : Hid (∀ ao' cap' q, Rd w ao' (bs.length - k) cap' (bs.drop k) → Calls Tryz.prog 74 #[.slice ao' (bs.length - k) cap'] (w.drewN q) fun e w' => e = .returned (.tuple #[.int .i64 (numOf (takeN (bs.drop k))), .int .i64 ((takeN (bs.drop k)).2.1 : Int), .int .i64 ((takeN (bs.drop k)).2.2 : Int)]) ∧ w' = w.drewN q) := fun ao' cap' q hR => (rtake_any ao' _ cap' (bs.drop k) (w.drewN q) (hR.drewN q)).mono fun _ _ ⟨h1, h2⟩ => ⟨h1, h2.symm⟩
  rw [ht, hm] at HC
  generalize (takeN (bs.drop k)).2.1 = t2 at HC hf hle
  simp only at HC ⊢
  clear ht hm
  rcases hg with rfl | ⟨g, rfl, hgp⟩
  · have h0 := hr.2.2.2.1 rfl
    omega
  have hR := hr.cut k (bs.length - k) (by omega)
  rw [List.take_of_length_le (by simp), Nat.zero_add] at hR
  have HC' : Hid (∀ q, Calls Tryz.prog 74 #[.slice (some ⟨g, k, none⟩) (bs.length - k) (cap - k)] (w.drewN q) fun e w' => e = .returned (.tuple #[.int .i64 (m : Int), .int .i64 (t2 : Int), .int .i64 0]) ∧ w' = w.drewN q) := fun q => HC.out _ _ q hR
  have hc : ¬ cap = k := by omega
  have hm0 : ¬ (m : Int) < 0 := by omega
  have hm1 : ¬ (1048576 : Int) < (m : Int) := by omega
  have hlo : (0 : Int) ≤ ((bs.length - k : Nat) : Int) - (t2 : Int) := by omega
  have hhi : ((bs.length - k : Nat) : Int) - (t2 : Int) ≤ 9223372036854775807 := by omega
  have hgt : ¬ ((bs.length - k : Nat) : Int) - (t2 : Int) < (m : Int) := by omega
  obtain ⟨a, ha⟩ : ∃ a, a = k + t2 := ⟨_, rfl⟩
  obtain ⟨c, hcm⟩ : ∃ c, c = a + m := ⟨_, rfl⟩
  have e1 : (k : Int) + (t2 : Int) = (a : Int) := by omega
  have e2 : (a : Int) + (m : Int) = (c : Int) := by omega
  have e3 : (c : Int) - (m : Int) = (a : Int) := by omega
  have e4 : c - a = m := by omega
  have hcl : c ≤ bs.length := by omega
  rw [← ha, show k + (t2 + m) = c from by omega]
  have HQ : Hid (∀ q, RRdr ((w.drewN q).setCell ⟨p, 1, none⟩ (.int .i64 (c : Int))) p bs c 0 ∧ (w.drewN q).grownBy ((w.drewN q).setCell ⟨p, 1, none⟩ (.int .i64 (c : Int))) (some p)) := fun q => rr_at c (HH.out.drewN q) hcl
  have HRW : Hid (∀ q, Rd ((w.drewN q).setCell ⟨p, 1, none⟩ (.int .i64 (c : Int))) (some ⟨g, 0, none⟩) bs.length cap bs) := fun q => (hr.drewN q).kept fun b off hao hlt => (HQ.out q).2.block b hlt (by cases hao; intro e; exact hgp (Option.some.inj e))
  clear hr HC hb hR ha hcm
  by_cases hca : cap = a
  · have hm00 : m = 0 := by omega
    have K : ∀ q q', (convert 23 9 (.slice (some ⟨g, 0, none⟩) m (cap - a))).run Tryz.prog (((w.drewN q).setCell ⟨p, 1, none⟩ (.int .i64 (c : Int))).drewN q') = .ok (.string ⟨((bs.drop a).take m).toArray⟩) (((w.drewN q).setCell ⟨p, 1, none⟩ (.int .i64 (c : Int))).drewN q') := fun q q' => by
      have hR : Rd (((w.drewN q).setCell ⟨p, 1, none⟩ (.int .i64 (c : Int))).drewN q') (some ⟨g, 0, none⟩) m (cap - a) ((bs.drop a).take m) := ⟨by simp; omega, by omega, by unfold maxLen; omega, (fun h => by cases h), fun h => by omega⟩
      exact run_string_of (P := Tryz.prog) 23 9 5 Tryz.underlying23 Tryz.underlying5 Tryz.underlying9 hR
    have hca' : ((cap : Nat) = a) = True := by simp [hca]
    have HCA : Hid (cap = a) := hca
    clear hca hm00
    go_enter Tryz.func53, Tryz.ntmps53
    go_wp2
    go_quiet ((go_at_call 74; exact Calls.quiet_of_same (HC'.out _)))
    go_wp2_with fail
    refine (rleft_any p bs k 0 _ (HH.out.drewN nq)).mono ?_
    rintro x w1 ⟨rfl, nq2, rfl⟩
    go_wp2
    generalize nq + nq2 = n0
    go_quiet (fail)
    go_wp2
    go_ret
    exact ⟨rfl, (HQ.out n0).1.drewN nq, gb_trans (gb_trans (gb_drewN w n0 _) (HQ.out n0).2) (gb_drewN _ nq _)⟩
  · have hca0 : ¬ cap ≤ a := by omega
    have K : ∀ q q', (convert 23 9 (.slice (some ⟨g, a, none⟩) m (cap - a))).run Tryz.prog (((w.drewN q).setCell ⟨p, 1, none⟩ (.int .i64 (c : Int))).drewN q') = .ok (.string ⟨((bs.drop a).take m).toArray⟩) (((w.drewN q).setCell ⟨p, 1, none⟩ (.int .i64 (c : Int))).drewN q') := fun q q' => by
      have hR := ((HRW.out q).drewN q').cut a m (by omega)
      rw [Nat.zero_add] at hR
      exact run_string_of (P := Tryz.prog) 23 9 5 Tryz.underlying23 Tryz.underlying5 Tryz.underlying9 hR
    go_enter Tryz.func53, Tryz.ntmps53
    go_wp2
    go_quiet ((go_at_call 74; exact Calls.quiet_of_same (HC'.out _)))
    go_wp2_with fail
    refine (rleft_any p bs k 0 _ (HH.out.drewN nq)).mono ?_
    rintro x w1 ⟨rfl, nq2, rfl⟩
    go_wp2
    generalize nq + nq2 = n0
    go_quiet (fail)
    go_wp2
    go_ret
    exact ⟨rfl, (HQ.out n0).1.drewN nq, gb_trans (gb_trans (gb_drewN w n0 _) (HQ.out n0).2) (gb_drewN _ nq _)⟩
end Go.Proofs.YtafmchgncahafaaGreatDoor.Co

namespace Go.Proofs.YtafmchgncahafaaGreatDoor.Co
open Go.RowKit

theorem rrText_any (p : Nat) (bs : List UInt8) (k e : Nat) (w : World) (h : RRdr w p bs k e) :
    Calls Tryz.prog 53 #[.pointer (some ⟨p, 0, none⟩)] w fun x w' => x = .returned (.string ⟨(rTxt bs k e).1.toArray⟩) ∧ RRdr w' p bs (rTxt bs k e).2.1 (rTxt bs k e).2.2 ∧ w.grownBy w' (some p) := by
  by_cases he : e = 0
  · subst he
    by_cases ht : (takeN (bs.drop k)).2.2 = 0
    · by_cases hz : numOf (takeN (bs.drop k)) < 0 ∨ 1048576 < numOf (takeN (bs.drop k))
      · exact rrText_range p bs k w h ht hz
      · obtain ⟨m, hm⟩ := Int.eq_ofNat_of_zero_le (show 0 ≤ numOf (takeN (bs.drop k)) by omega)
        by_cases hf : bs.length - k - (takeN (bs.drop k)).2.1 < m
        · exact rrText_few p bs k w h ht m hm (by omega) hf
        · exact rrText_ok p bs k w h ht m hm (by omega) hf
    · exact rrText_bad p bs k w h ht
  · exact rrText_set p bs k e w h he

/-- Bytes are read in no block whose first cell is a slice. -/
theorem _root_.Go.Proofs.YtafmchgncahafaaGreatDoor.Rd.other {w w' : World} {ao : Option Addr} {n cap q : Nat} {bs : List UInt8} {s : Option Addr} {l c : Nat} (h : Rd w ao n cap bs) (h0 : ao = none ∨ ∃ g, ao = some ⟨g, 0, none⟩) (hq : w.cell? ⟨q, 0, none⟩ = some (.slice s l c)) (hg : w.grownBy w' (some q)) : Rd w' ao n cap bs := by
  obtain ⟨h1, h2, h3, h4, h5⟩ := h
  refine ⟨h1, h2, h3, h4, fun hn => ?_⟩
  obtain ⟨b, off, rfl, hc⟩ := h5 hn
  refine ⟨b, off, rfl, fun i hi => ?_⟩
  have hoff : off = 0 := by
    rcases h0 with h | ⟨g, h⟩
    · cases h
    · cases h; rfl
  subst hoff
  have hb0 := hc 0 (by omega)
  have hne : b ≠ q := by
    intro e
    subst e
    rw [Nat.add_zero, hq] at hb0
    cases hb0
  have hlt : b < w.heap.size := World.block_lt_of_cell? w _ hb0
  rw [World.cell?_of_block (a := ⟨b, 0 + i, none⟩) (hg.block b hlt (fun e => hne (Option.some.inj e)))]
  exact hc i hi

theorem Rdr.beside {w w' : World} {p q : Nat} {bs bs' : List UInt8} {k e k' e' : Nat} (h : Rdr w p bs k e) (h' : RRdr w q bs' k' e') (hg : w.grownBy w' (some q)) (hpq : p ≠ q) (hp : p < w.heap.size) : Rdr w' p bs k e := by
  obtain ⟨ao, cap, hb, hr, hk, hgg⟩ := h
  obtain ⟨ao', cap', hb', _, _, _⟩ := h'
  refine ⟨ao, cap, ?_, hr.other ?_ (rrCell w hb').1 hg, hk, hgg⟩
  · rw [hg.block p hp (fun e => hpq (Option.some.inj e))]
    exact hb
  · rcases hgg with h | ⟨g, h, _⟩
    · exact .inl h
    · exact .inr ⟨g, h⟩
theorem RRdr.beside {w w' : World} {p q : Nat} {bs bs' : List UInt8} {k e k' e' : Nat} (h : RRdr w q bs k e) (h' : Rdr w p bs' k' e') (hg : w.grownBy w' (some p)) (hpq : p ≠ q) (hq : q < w.heap.size) : RRdr w' q bs k e := by
  obtain ⟨ao, cap, hb, hr, hk, hgg⟩ := h
  obtain ⟨ao', cap', hb', _, _, _⟩ := h'
  refine ⟨ao, cap, ?_, hr.other ?_ (rCell w hb').1 hg, hk, hgg⟩
  · rw [hg.block q hq (fun e => hpq (Option.some.inj e).symm)]
    exact hb
  · rcases hgg with h | ⟨g, h, _⟩
    · exact .inl h
    · exact .inr ⟨g, h⟩
end Go.Proofs.YtafmchgncahafaaGreatDoor.Co
