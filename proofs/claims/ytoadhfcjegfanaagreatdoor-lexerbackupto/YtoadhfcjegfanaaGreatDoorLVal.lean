/-
  The contracts of datum.Print and of what it calls, of datum.told and datum.toldNumber: values that a literal can be.
-/
import Derived.Test.YtoadhfcjegfanaaGreatDoorMgVRow
import Derived.Test.YtoadhfcjegfanaaGreatDoorVQuote
import Derived.Test.YtoadhfcjegfanaaGreatDoorDParse
import Derived.Test.YtoadhfcjegfanaaGreatDoorDText5
import Derived.Test.YtoadhfcjegfanaaGreatDoorMrLShelf
namespace Go.Proofs.YtoadhfcjegfanaaGreatDoor
open Go.RowKit Go.Shelf
attribute [local go_sem] cell?_more frozen?_more setCell_more more_lt more_more more_drew more_drewN setCell_drewN alloc_drewN

/-- A value lies in a block of its own. -/
def Box (w : World) (p : Nat) (v : Va) : Prop := w.heap[p]? = some (.cells #[.int .i64 v.k, .int .i64 v.n, .int .i64 v.m, .string ⟨v.b.toArray⟩] 27 (0, 0))
theorem Box.lt {w : World} {p : Nat} {v : Va} (h : Box w p v) : p < w.heap.size := by
  by_cases hp : p < w.heap.size
  · exact hp
  · unfold Box at h
    rw [Array.getElem?_eq_none (by omega)] at h
    cases h
theorem Box.later {w w' : World} {p : Nat} {v : Va} (h : Box w p v) (hb : Below w.heap.size w w') : Box w' p v := by
  unfold Box
  rw [hb.block p h.lt]
  exact h
theorem Box.at4 {w : World} {p : Nat} {v : Va} (h : Box w p v) : At4 w p 0 v :=
  ⟨by rw [cell_of_row w p 0 _ _ (0, 0) h]; rfl, by rw [cell_of_row w p (0 + 1) _ _ (0, 0) h]; rfl, by rw [cell_of_row w p (0 + 2) _ _ (0, 0) h]; rfl, by rw [cell_of_row w p (0 + 3) _ _ (0, 0) h]; rfl⟩
theorem Box.kept {w w' : World} {p base : Nat} {v : Va} {x : Value} {bs : List UInt8} (h : Box w p v) (ho : Own w base x bs) (hg : w.grownBy w' x.ownBlock) : Box w' p v := by
  unfold Box
  rw [hg.block p h.lt ?_]
  · exact h
  · intro e
    obtain ⟨h1, h2⟩ := ho
    rcases h2 with ⟨rfl, _⟩ | ⟨g, cap, cur, rfl, _, hg', _⟩
    · simp [Value.ownBlock] at e
    · simp [Value.ownBlock] at e
      subst e
      unfold Box at h
      rw [hg'] at h
      simp at h
theorem Box.free {w : World} {p : Nat} {v : Va} (h : Box w p v) (j : Nat) : w.frozen? ⟨p, j, none⟩ = false := by
  unfold Box at h
  simp [World.frozen?, h]
theorem Box.new (w : World) (k n m : Int) (b : List UInt8) : Box (w.alloc (.cells #[.int .i64 k, .int .i64 n, .int .i64 m, .string ⟨b.toArray⟩] 27)) w.heap.size ⟨k, n, m, b⟩ := by
  unfold Box
  show (w.heap.push _)[w.heap.size]? = _
  simp

theorem ba_extract1 (c : UInt8) (l : List UInt8) : ((ByteArray.mk (c :: l).toArray).extract 0 1).toList = [c] := by
  have e : (ByteArray.mk (c :: l).toArray).extract 0 1 = ⟨#[c]⟩ := by
    apply ByteArray.ext
    simp [ByteArray.data_extract]
  rw [e, ByteArray.toList_eq]

theorem prefix0_any (s : ByteArray) (p : UInt8) (w : World) (hs : s.size ≤ 9223372036854775806) :
    Calls Tryz.prog 124 #[.string s, .string ⟨#[p]⟩] w fun e w' => e = .returned (.bool (s.data.toList.head? == some p)) ∧ w = w' := by
  obtain ⟨⟨l⟩⟩ := s
  match l, hs with
  | [], _ =>
    go_enter Tryz.func124, Tryz.ntmps124
    go_wp2
    all_goals go_ret
    all_goals exact ⟨rfl, rfl⟩
  | c :: l, hs =>
    have hsz : (ByteArray.mk (c :: l).toArray).size = l.length + 1 := rfl
    have hx : (((ByteArray.mk (c :: l).toArray).extract 0 1).toList == [p]) = (c == p) := by
      rw [ba_extract1]
      simp
    have e : ((ByteArray.mk (c :: l).toArray).data.toList.head? == some p) = (c == p) := by simp
    rw [e]
    have h1 : (1 : Int) ≤ (l.length : Int) + 1 := by omega
    have h2 : 1 ≤ l.length + 1 := by omega
    rw [hsz] at hs
    change (((ByteArray.mk (c :: l).toArray).extract 0 1).toList == [p]) = (c == p) at hx
    generalize ByteArray.mk (c :: l).toArray = B at *
    generalize l.length = n at *
    generalize (c == p) = g at *
    go_enter Tryz.func124, Tryz.ntmps124
    go_wp2
    all_goals go_ret
    all_goals exact ⟨rfl, rfl⟩

theorem prefix_any (s : ByteArray) (p : UInt8) (w : World) (hs : s.size ≤ 9223372036854775806) :
    Calls Tryz.prog 103 #[.string s, .string ⟨#[p]⟩] w fun e w' => e = .returned (.bool (s.data.toList.head? == some p)) ∧ w = w' := by
  have P := fun W => prefix0_any s p W hs
  generalize (s.data.toList.head? == some p) = g at *
  go_enter Tryz.func103, Tryz.ntmps103
  go_wp2_with (go_at_call 124; refine (P _).mono ?_; rintro e w' ⟨rfl, rfl⟩)
  go_ret
  exact ⟨rfl, rfl⟩


/-- A Dec's text: with a point in every case. -/
def dpt (n m : Int) : List UInt8 := dtext n m.toNat ++ (if m = 0 then [46] else [])
/-- The text of an Int, a Dec or a Text. -/
def ptext (v : Va) : List UInt8 := if v.k = 1 then dtext v.n 0 else if v.k = 2 then dpt v.n v.m else quoL v.b

set_option maxHeartbeats 1000000 in
theorem decText_any (k n m : Int) (b : ByteArray) (w : World) (n0 : -9223372036854775808 ≤ n) (n1 : n ≤ 9223372036854775807) (m0 : 0 ≤ m) (m1 : m ≤ 6) :
    Calls Tryz.prog 83 #[va k n m b] w fun e w' => e = .returned (.string ⟨(dpt n m).toArray⟩) ∧ Grew w w' := by
  have U := fun W => units_any k n m b W
  have P : ∀ W, Calls Tryz.prog 110 #[dv n m] W fun e w' => e = .returned (.string ⟨(dtext n m.toNat).toArray⟩) ∧ Grew W w' := fun W => by
    have := print_good n m.toNat W (by omega) n0 n1
    rwa [show ((m.toNat : Nat) : Int) = m by omega] at this
  have hlen : (dtext n m.toNat).length ≤ 9223372036854775806 := by
    have := digs_len 19 n.natAbs (by have : (10 : Nat) ^ (19 + 1) = 100000000000000000000 := by decide
                                     omega)
    have h1 := pad_len m.toNat (digs n.natAbs)
    have h0 := pad_len 0 (digs n.natAbs)
    unfold dtext
    split <;> split <;> simp [List.length_take] <;> omega
  unfold dpt
  generalize dtext n m.toNat = D at *
  by_cases hm : m = 0
  · subst hm
    rw [if_pos rfl]
    have hadd : (ByteArray.mk D.toArray) ++ (ByteArray.mk #[46]) = ⟨(D ++ [46]).toArray⟩ := ba_app D [46]
    have hsz : ¬ 9223372036854775807 < (ByteArray.mk D.toArray).size + 1 := by show ¬ _ < D.length + 1; omega
    have hsz2 : (ByteArray.mk D.toArray).size = D.length := rfl
    clear m0 m1 n0 n1
    generalize ByteArray.mk (D ++ [46]).toArray = R at *
    generalize ByteArray.mk D.toArray = E at *
    go_enter Tryz.func83, Tryz.ntmps83
    go_wp2_with (first
      | (go_at_call 111; refine (U _).mono ?_; rintro e w1 ⟨rfl, os1, k1, rfl⟩)
      | (go_at_call 110; refine (P _).mono ?_; rintro e w2 ⟨rfl, os2, k2, rfl⟩))
    go_ret
    exact ⟨rfl, (by repeat (first | assumption | exact Grew.refl _ | apply Grew.drew | apply Grew.drewN | apply Grew.alloc | apply Grew.more))⟩
  · rw [if_neg hm, List.append_nil]
    have hm' : (m == 0) = false := by simpa using hm
    clear m0 m1 n0 n1 hm hlen
    generalize ByteArray.mk D.toArray = E at *
    go_enter Tryz.func83, Tryz.ntmps83
    go_wp2_with (first
      | (go_at_call 111; refine (U _).mono ?_; rintro e w1 ⟨rfl, os1, k1, rfl⟩)
      | (go_at_call 110; refine (P _).mono ?_; rintro e w2 ⟨rfl, os2, k2, rfl⟩))
    go_ret
    exact ⟨rfl, (by repeat (first | assumption | exact Grew.refl _ | apply Grew.drew | apply Grew.drewN | apply Grew.alloc | apply Grew.more))⟩

/-- What Print answers of an Int, a Dec or a Text. -/
def pv (v : Va) : List UInt8 := if vr v then ptext v else []

set_option maxHeartbeats 2000000 in
theorem vprint_any (v : Va) (w : World) (hT : Tabs w) (hP : Ptab w) (hk : v.k = 1 ∨ v.k = 2 ∨ v.k = 3) (hn : -9223372036854775808 ≤ v.n ∧ v.n ≤ 9223372036854775807) :
    Calls Tryz.prog 62 #[vv v] w fun e w' => e = .returned (.string ⟨(pv v).toArray⟩) ∧ Below w.heap.size w w' := by
  obtain ⟨k, n, m, b⟩ := v
  have R : ∀ W, Grew w W → Calls Tryz.prog 81 #[va k n m ⟨b.toArray⟩] W fun e w' => e = .returned (.bool (vr ⟨k, n, m, b⟩)) ∧ Below W.heap.size W w' := fun W h => vright_any k n m ⟨b.toArray⟩ W (hT.later h.below)
  have B0 := Box.new w k n m b
  have hok := vr_iff ⟨k, n, m, b⟩
  unfold pv
  have hI : ∀ W, Below w.heap.size w W → Calls Tryz.prog 82 #[.int .i64 n] W fun e w' => e = .returned (.string ⟨(dtext n 0).toArray⟩) ∧ Grew W w' := fun W h => itoa_any n W hn.1 hn.2 (hP.later h)
  clear hT hP
  cases hvr : vr ⟨k, n, m, b⟩ with
  | false =>
    rw [hvr] at R
    clear hok hI hk
    rw [if_neg (by simp)]
    go_enter Tryz.func62, Tryz.ntmps62
    go_wp2_with (go_at_call 81; refine (R _ (by repeat (first | assumption | exact Grew.refl _ | apply Grew.drew | apply Grew.drewN | apply Grew.alloc | apply Grew.more))).mono ?_; rintro e w1 ⟨rfl, b1⟩)
    go_ret
    exact ⟨rfl, ((Below.refl _ w).alloc (Nat.le_refl _) _).trans (b1.mono (by simp))⟩
  | true =>
    rw [hvr] at R
    have hok' := hok.1 hvr
    rw [if_pos rfl]
    rcases hk with hk | hk | hk
    · have hk' : k = 1 := hk
      subst hk'
      show Calls _ _ _ _ fun e w' => e = .returned (.string ⟨(dtext n 0).toArray⟩) ∧ _
      clear hok hok' hk hvr
      generalize ByteArray.mk (dtext n 0).toArray = D at *
      go_enter Tryz.func62, Tryz.ntmps62
      go_wp2_with (first
        | (go_at_call 81; refine (R _ (by repeat (first | assumption | exact Grew.refl _ | apply Grew.drew | apply Grew.drewN | apply Grew.alloc | apply Grew.more))).mono ?_; rintro e w1 ⟨rfl, b1⟩; have bb : Below w.heap.size w w1 := ((Below.refl _ w).alloc (Nat.le_refl _) _).trans (b1.mono (by simp)); have bx := B0.later b1; obtain ⟨c0, c1, c2, c3⟩ := bx.at4; clear bx)
        | (go_at_call 82; refine (hI _ (by first | assumption | exact below_trans bb (Grew.below (by repeat (first | assumption | exact Grew.refl _ | apply Grew.drew | apply Grew.drewN | apply Grew.alloc | apply Grew.more))))).mono ?_; rintro e w2 ⟨rfl, os2, k2, rfl⟩))
      go_ret
      exact ⟨rfl, below_trans bb (Grew.below (by repeat (first | assumption | exact Grew.refl _ | apply Grew.drew | apply Grew.drewN | apply Grew.alloc | apply Grew.more)))⟩
    · have hk' : k = 2 := hk
      subst hk'
      have hm : 0 ≤ m ∧ m ≤ 6 := by
        have h := hok'
        unfold vok at h
        simp at h
        omega
      have D : ∀ W, Calls Tryz.prog 83 #[va 2 n m ⟨b.toArray⟩] W fun e w' => e = .returned (.string ⟨(dpt n m).toArray⟩) ∧ Grew W w' := fun W => decText_any 2 n m ⟨b.toArray⟩ W hn.1 hn.2 hm.1 hm.2
      show Calls _ _ _ _ fun e w' => e = .returned (.string ⟨(dpt n m).toArray⟩) ∧ _
      clear hok hok' hk hvr hI hm
      generalize ByteArray.mk (dpt n m).toArray = E at *
      go_enter Tryz.func62, Tryz.ntmps62
      go_wp2_with (first
        | (go_at_call 81; refine (R _ (by repeat (first | assumption | exact Grew.refl _ | apply Grew.drew | apply Grew.drewN | apply Grew.alloc | apply Grew.more))).mono ?_; rintro e w1 ⟨rfl, b1⟩; have bb : Below w.heap.size w w1 := ((Below.refl _ w).alloc (Nat.le_refl _) _).trans (b1.mono (by simp)); have bx := B0.later b1; obtain ⟨c0, c1, c2, c3⟩ := bx.at4; clear bx)
        | (go_at_call 83; refine (D _).mono ?_; rintro e w2 ⟨rfl, os2, k2, rfl⟩))
      go_ret
      exact ⟨rfl, below_trans bb (Grew.below (by repeat (first | assumption | exact Grew.refl _ | apply Grew.drew | apply Grew.drewN | apply Grew.alloc | apply Grew.more)))⟩
    · have hk' : k = 3 := hk
      subst hk'
      have hl : b.length ≤ 256 := by
        have h := hok'
        unfold vok at h
        simp at h
        omega
      have Q : ∀ W, Calls Tryz.prog 84 #[.string ⟨b.toArray⟩] W fun e w' => e = .returned (.string ⟨(quoL b).toArray⟩) ∧ Below W.heap.size W w' := fun W => quoted_any ⟨b.toArray⟩ W (by show b.length ≤ 1000; omega)
      show Calls _ _ _ _ fun e w' => e = .returned (.string ⟨(quoL b).toArray⟩) ∧ _
      clear hok hok' hk hvr hI hl
      generalize ByteArray.mk (quoL b).toArray = E at *
      go_enter Tryz.func62, Tryz.ntmps62
      go_wp2_with (first
        | (go_at_call 81; refine (R _ (by repeat (first | assumption | exact Grew.refl _ | apply Grew.drew | apply Grew.drewN | apply Grew.alloc | apply Grew.more))).mono ?_; rintro e w1 ⟨rfl, b1⟩; have bb : Below w.heap.size w w1 := ((Below.refl _ w).alloc (Nat.le_refl _) _).trans (b1.mono (by simp)); have bx := B0.later b1; obtain ⟨c0, c1, c2, c3⟩ := bx.at4; clear bx)
        | (go_at_call 84; refine (Q _).mono ?_; rintro e w2 ⟨rfl, b2⟩))
      go_ret
      exact ⟨rfl, below_trans bb b2⟩
end Go.Proofs.YtoadhfcjegfanaaGreatDoor
