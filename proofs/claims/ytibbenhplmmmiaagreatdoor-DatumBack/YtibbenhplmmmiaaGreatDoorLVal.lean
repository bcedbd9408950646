/-
  The contracts of datum.Print and of what it calls, of datum.told and datum.toldNumber: values that a literal can be.
-/
import Derived.Test.YtibbenhplmmmiaaGreatDoorMzVText
import Derived.Test.YtibbenhplmmmiaaGreatDoorVQuote
import Derived.Test.YtibbenhplmmmiaaGreatDoorDParse
import Derived.Test.YtibbenhplmmmiaaGreatDoorDText5
import Derived.Test.YtibbenhplmmmiaaGreatDoorMvDScan
import Derived.Test.YtibbenhplmmmiaaGreatDoorLShelf
import Derived.Test.YtibbenhplmmmiaaGreatDoorVKnows
namespace Go.Proofs.YtibbenhplmmmiaaGreatDoor
open Go.RowKit Go.Shelf
attribute [local go_sem] cell?_more frozen?_more setCell_more more_lt more_more more_drew more_drewN setCell_drewN alloc_drewN

/-- A Dec's text: with a point in every case. -/
def dpt (n m : Int) : List UInt8 := dtext n m.toNat ++ (if m = 0 then [46] else [])
/-- The text of an Int, a Dec or a Text. -/
def ptext (v : Va) : List UInt8 := if v.k = 1 then dtext v.n 0 else if v.k = 2 then dpt v.n v.m else quoL v.b

set_option maxHeartbeats 1000000 in
theorem decText_any (k n m : Int) (b : ByteArray) (w : World) (n0 : -9223372036854775808 ≤ n) (n1 : n ≤ 9223372036854775807) (m0 : 0 ≤ m) (m1 : m ≤ 6) :
    Calls Tryz.prog 36 #[va k n m b] w fun e w' => e = .returned (.string ⟨(dpt n m).toArray⟩) ∧ Grew w w' := by
  have U := fun W => units_any k n m b W
  have P : ∀ W, Calls Tryz.prog 86 #[dv n m] W fun e w' => e = .returned (.string ⟨(dtext n m.toNat).toArray⟩) ∧ Grew W w' := fun W => by
    have := print_good n m.toNat W (by omega) n0 n1
    rwa [show ((m.toNat : Nat) : Int) = m by omega] at this
  have hlen : (dtext n m.toNat).length ≤ 9223372036854775806 := by
    have := digs_len 19 n.natAbs (by have : (10 : Nat) ^ (19 + 1) = 100000000000000000000 := by decide
                                     omega)
    have h1 := pad_len m.toNat (digs n.natAbs)
    have h0 := pad_len 0 (digs n.natAbs)
    unfold dtext
    split <;> split <;> simp [List.length_take] <;> omega
  unfold dpt
  generalize dtext n m.toNat = D at *
  by_cases hm : m = 0
  · subst hm
    rw [if_pos rfl]
    have hadd : (ByteArray.mk D.toArray) ++ (ByteArray.mk #[46]) = ⟨(D ++ [46]).toArray⟩ := ba_app D [46]
    have hsz : ¬ 9223372036854775807 < (ByteArray.mk D.toArray).size + 1 := by show ¬ _ < D.length + 1; omega
    have hsz2 : (ByteArray.mk D.toArray).size = D.length := rfl
    clear m0 m1 n0 n1
    generalize ByteArray.mk (D ++ [46]).toArray = R at *
    generalize ByteArray.mk D.toArray = E at *
    go_enter Tryz.func36, Tryz.ntmps36
    go_wp2_with (first
      | (go_at_call 87; refine (U _).mono ?_; rintro e w1 ⟨rfl, os1, k1, rfl⟩)
      | (go_at_call 86; refine (P _).mono ?_; rintro e w2 ⟨rfl, os2, k2, rfl⟩))
    go_ret
    exact ⟨rfl, (by repeat (first | assumption | exact Grew.refl _ | apply Grew.drew | apply Grew.drewN | apply Grew.alloc | apply Grew.more))⟩
  · rw [if_neg hm, List.append_nil]
    have hm' : (m == 0) = false := by simpa using hm
    clear m0 m1 n0 n1 hm hlen
    generalize ByteArray.mk D.toArray = E at *
    go_enter Tryz.func36, Tryz.ntmps36
    go_wp2_with (first
      | (go_at_call 87; refine (U _).mono ?_; rintro e w1 ⟨rfl, os1, k1, rfl⟩)
      | (go_at_call 86; refine (P _).mono ?_; rintro e w2 ⟨rfl, os2, k2, rfl⟩))
    go_ret
    exact ⟨rfl, (by repeat (first | assumption | exact Grew.refl _ | apply Grew.drew | apply Grew.drewN | apply Grew.alloc | apply Grew.more))⟩

/-- What Print answers of an Int, a Dec or a Text. -/
def pv (v : Va) : List UInt8 := if vr v then ptext v else []

set_option maxHeartbeats 2000000 in
theorem vprint_any (v : Va) (w : World) (hT : Tabs w) (hP : Ptab w) (hk : v.k = 1 ∨ v.k = 2 ∨ v.k = 3) (hn : -9223372036854775808 ≤ v.n ∧ v.n ≤ 9223372036854775807) :
    Calls Tryz.prog 8 #[vv v] w fun e w' => e = .returned (.string ⟨(pv v).toArray⟩) ∧ Below w.heap.size w w' := by
  obtain ⟨k, n, m, b⟩ := v
  have R : ∀ W, Grew w W → Calls Tryz.prog 34 #[va k n m ⟨b.toArray⟩] W fun e w' => e = .returned (.bool (vr ⟨k, n, m, b⟩)) ∧ Below W.heap.size W w' := fun W h => vright_any k n m ⟨b.toArray⟩ W (hT.later h.below)
  have B0 := Box.new w k n m b
  have hok := vr_iff ⟨k, n, m, b⟩
  unfold pv
  have hI : ∀ W, Below w.heap.size w W → Calls Tryz.prog 35 #[.int .i64 n] W fun e w' => e = .returned (.string ⟨(dtext n 0).toArray⟩) ∧ Grew W w' := fun W h => itoa_any n W hn.1 hn.2 (hP.later h)
  clear hT hP
  cases hvr : vr ⟨k, n, m, b⟩ with
  | false =>
    rw [hvr] at R
    clear hok hI hk
    rw [if_neg (by simp)]
    go_enter Tryz.func8, Tryz.ntmps8
    go_wp2_with (go_at_call 34; refine (R _ (by repeat (first | assumption | exact Grew.refl _ | apply Grew.drew | apply Grew.drewN | apply Grew.alloc | apply Grew.more))).mono ?_; rintro e w1 ⟨rfl, b1⟩)
    go_ret
    exact ⟨rfl, ((Below.refl _ w).alloc (Nat.le_refl _) _).trans (b1.mono (by simp))⟩
  | true =>
    rw [hvr] at R
    have hok' := hok.1 hvr
    rw [if_pos rfl]
    rcases hk with hk | hk | hk
    · have hk' : k = 1 := hk
      subst hk'
      show Calls _ _ _ _ fun e w' => e = .returned (.string ⟨(dtext n 0).toArray⟩) ∧ _
      clear hok hok' hk hvr
      generalize ByteArray.mk (dtext n 0).toArray = D at *
      go_enter Tryz.func8, Tryz.ntmps8
      go_wp2_with (first
        | (go_at_call 34; refine (R _ (by repeat (first | assumption | exact Grew.refl _ | apply Grew.drew | apply Grew.drewN | apply Grew.alloc | apply Grew.more))).mono ?_; rintro e w1 ⟨rfl, b1⟩; have bb : Below w.heap.size w w1 := ((Below.refl _ w).alloc (Nat.le_refl _) _).trans (b1.mono (by simp)); have bx := B0.later b1; obtain ⟨c0, c1, c2, c3⟩ := bx.at4; clear bx)
        | (go_at_call 35; refine (hI _ (by first | assumption | exact below_trans bb (Grew.below (by repeat (first | assumption | exact Grew.refl _ | apply Grew.drew | apply Grew.drewN | apply Grew.alloc | apply Grew.more))))).mono ?_; rintro e w2 ⟨rfl, os2, k2, rfl⟩))
      go_ret
      exact ⟨rfl, below_trans bb (Grew.below (by repeat (first | assumption | exact Grew.refl _ | apply Grew.drew | apply Grew.drewN | apply Grew.alloc | apply Grew.more)))⟩
    · have hk' : k = 2 := hk
      subst hk'
      have hm : 0 ≤ m ∧ m ≤ 6 := by
        have h := hok'
        unfold vok at h
        simp at h
        omega
      have D : ∀ W, Calls Tryz.prog 36 #[va 2 n m ⟨b.toArray⟩] W fun e w' => e = .returned (.string ⟨(dpt n m).toArray⟩) ∧ Grew W w' := fun W => decText_any 2 n m ⟨b.toArray⟩ W hn.1 hn.2 hm.1 hm.2
      show Calls _ _ _ _ fun e w' => e = .returned (.string ⟨(dpt n m).toArray⟩) ∧ _
      clear hok hok' hk hvr hI hm
      generalize ByteArray.mk (dpt n m).toArray = E at *
      go_enter Tryz.func8, Tryz.ntmps8
      go_wp2_with (first
        | (go_at_call 34; refine (R _ (by repeat (first | assumption | exact Grew.refl _ | apply Grew.drew | apply Grew.drewN | apply Grew.alloc | apply Grew.more))).mono ?_; rintro e w1 ⟨rfl, b1⟩; have bb : Below w.heap.size w w1 := ((Below.refl _ w).alloc (Nat.le_refl _) _).trans (b1.mono (by simp)); have bx := B0.later b1; obtain ⟨c0, c1, c2, c3⟩ := bx.at4; clear bx)
        | (go_at_call 36; refine (D _).mono ?_; rintro e w2 ⟨rfl, os2, k2, rfl⟩))
      go_ret
      exact ⟨rfl, below_trans bb (Grew.below (by repeat (first | assumption | exact Grew.refl _ | apply Grew.drew | apply Grew.drewN | apply Grew.alloc | apply Grew.more)))⟩
    · have hk' : k = 3 := hk
      subst hk'
      have hl : b.length ≤ 256 := by
        have h := hok'
        unfold vok at h
        simp at h
        omega
      have Q : ∀ W, Calls Tryz.prog 37 #[.string ⟨b.toArray⟩] W fun e w' => e = .returned (.string ⟨(quoL b).toArray⟩) ∧ Below W.heap.size W w' := fun W => quoted_any ⟨b.toArray⟩ W (by show b.length ≤ 1000; omega)
      show Calls _ _ _ _ fun e w' => e = .returned (.string ⟨(quoL b).toArray⟩) ∧ _
      clear hok hok' hk hvr hI hl
      generalize ByteArray.mk (quoL b).toArray = E at *
      go_enter Tryz.func8, Tryz.ntmps8
      go_wp2_with (first
        | (go_at_call 34; refine (R _ (by repeat (first | assumption | exact Grew.refl _ | apply Grew.drew | apply Grew.drewN | apply Grew.alloc | apply Grew.more))).mono ?_; rintro e w1 ⟨rfl, b1⟩; have bb : Below w.heap.size w w1 := ((Below.refl _ w).alloc (Nat.le_refl _) _).trans (b1.mono (by simp)); have bx := B0.later b1; obtain ⟨c0, c1, c2, c3⟩ := bx.at4; clear bx)
        | (go_at_call 37; refine (Q _).mono ?_; rintro e w2 ⟨rfl, b2⟩))
      go_ret
      exact ⟨rfl, below_trans bb b2⟩
end Go.Proofs.YtibbenhplmmmiaaGreatDoor
