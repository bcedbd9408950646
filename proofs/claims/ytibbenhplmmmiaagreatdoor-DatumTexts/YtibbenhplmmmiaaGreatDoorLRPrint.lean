/-
  The document's Print: Ints, Decs and Texts.
-/
import Derived.Test.YtibbenhplmmmiaaGreatDoorVRef
import Derived.Test.YtibbenhplmmmiaaGreatDoorLVal
import Derived.Test.YtibbenhplmmmiaaGreatDoorLTok
import Derived.BigRegion
namespace Go.Proofs.YtibbenhplmmmiaaGreatDoor
open Go.RowKit Go.Shelf
attribute [local go_sem] cell?_more frozen?_more setCell_more more_lt more_more more_drew more_drewN setCell_drewN alloc_drewN

set_option maxRecDepth 20000 in
set_option maxHeartbeats 2000000 in
theorem rprint1 (n m : Int) (b : ByteArray) (w : World) (hn : -9223372036854775808 ≤ n ∧ n ≤ 9223372036854775807)
    (R : ∀ W, Calls Tryz.prog 13 #[va 1 n m b] W fun e w' => e = .returned (.bool true) ∧ Below W.heap.size W w') :
    Calls Tryz.prog 9 #[va 1 n m b] w fun e w' => e = .returned (.string (⟨(dtext n 0).toArray⟩)) ∧ Below w.heap.size w w' := by
  have P : ∀ W, Calls Tryz.prog 41 #[dv n 0] W fun e w' => e = .returned (.string ⟨(dtext n 0).toArray⟩) ∧ Grew W w' := fun W => rprint_good n 0 W (by decide) hn.1 hn.2
  have Z := Cbox.new w #[.int .i64 1, .int .i64 n, .int .i64 m, .string b] 23
  generalize ByteArray.mk (dtext n 0).toArray = D at *
  go_enter Tryz.func9, Tryz.ntmps9
  go_wp2_with (first
    | (go_at_call 13; refine (R _).mono ?_; rintro e w1 ⟨rfl, b1⟩; have bb : Below w.heap.size w w1 := ((Below.refl _ w).alloc (Nat.le_refl _) _).trans (b1.mono (by simp)); have zz := Z.later b1; have c0 := zz.at 0; have c1 := zz.at 1; have c2 := zz.at 2; have c3 := zz.at 3; have lt1 := zz.lt; clear zz)
    | (go_at_call 41; refine (P _).mono ?_; rintro e w2 ⟨rfl, os2, k2, rfl⟩))
  go_ret
  exact ⟨rfl, below_trans bb (Grew.below (by repeat (first | assumption | exact Grew.refl _ | apply Grew.drew | apply Grew.drewN | apply Grew.alloc | apply Grew.more)))⟩

theorem rdtext_len (n : Int) (m : Nat) (_hm : m ≤ 6) (hn : -9223372036854775808 ≤ n ∧ n ≤ 9223372036854775807) : (dtext n m).length ≤ 9223372036854775806 := by
  have := digs_len 19 n.natAbs (by have : (10 : Nat) ^ (19 + 1) = 100000000000000000000 := by decide
                                   omega)
  have h1 := pad_len m (digs n.natAbs)
  have h0 := pad_len 0 (digs n.natAbs)
  unfold dtext
  split <;> split <;> simp [List.length_take] <;> omega

set_option maxRecDepth 20000 in
set_option maxHeartbeats 2000000 in
theorem rprint2a (n m : Int) (b : ByteArray) (w : World) (hn : -9223372036854775808 ≤ n ∧ n ≤ 9223372036854775807) (_hm : 0 ≤ m ∧ m ≤ 6) (hm0 : m = 0)
    (R : ∀ W, Calls Tryz.prog 13 #[va 2 n m b] W fun e w' => e = .returned (.bool true) ∧ Below W.heap.size W w') :
    Calls Tryz.prog 9 #[va 2 n m b] w fun e w' => e = .returned (.string (⟨(dpt n m).toArray⟩)) ∧ Below w.heap.size w w' := by
  have P : ∀ W, Calls Tryz.prog 41 #[dv n m] W fun e w' => e = .returned (.string ⟨(dtext n m.toNat).toArray⟩) ∧ Grew W w' := fun W => by
    have := rprint_good n m.toNat W (by omega) hn.1 hn.2
    rwa [show ((m.toNat : Nat) : Int) = m by omega] at this
  have hlen := rdtext_len n m.toNat (by omega) hn
  unfold dpt
  generalize dtext n m.toNat = D at *
  rw [if_pos hm0]
  have hm0' : (m == 0) = true := by simpa using hm0
  have hadd : (ByteArray.mk D.toArray) ++ (ByteArray.mk #[46]) = ⟨(D ++ [46]).toArray⟩ := ba_app D [46]
  have hsz : ¬ 9223372036854775807 < (ByteArray.mk D.toArray).size + 1 := by show ¬ _ < D.length + 1; omega
  have hsz2 : (ByteArray.mk D.toArray).size = D.length := rfl
  clear _hm hn hm0
  generalize ByteArray.mk (D ++ [46]).toArray = R2 at *
  generalize ByteArray.mk D.toArray = E at *
  have Z := Cbox.new w #[.int .i64 2, .int .i64 n, .int .i64 m, .string b] 23
  go_enter Tryz.func9, Tryz.ntmps9
  go_wp2_with (first
    | (go_at_call 13; refine (R _).mono ?_; rintro e w1 ⟨rfl, b1⟩; have bb : Below w.heap.size w w1 := ((Below.refl _ w).alloc (Nat.le_refl _) _).trans (b1.mono (by simp)); have zz := Z.later b1; have c0 := zz.at 0; have c1 := zz.at 1; have c2 := zz.at 2; have c3 := zz.at 3; have lt1 := zz.lt; clear zz)
    | (go_at_call 41; refine (P _).mono ?_; rintro e w2 ⟨rfl, os2, k2, rfl⟩))
  go_ret
  exact ⟨rfl, below_trans bb (Grew.below (by repeat (first | assumption | exact Grew.refl _ | apply Grew.drew | apply Grew.drewN | apply Grew.alloc | apply Grew.more)))⟩

set_option maxRecDepth 20000 in
set_option maxHeartbeats 2000000 in
theorem rprint2b (n m : Int) (b : ByteArray) (w : World) (hn : -9223372036854775808 ≤ n ∧ n ≤ 9223372036854775807) (hm : 0 ≤ m ∧ m ≤ 6) (hm0 : ¬ m = 0)
    (R : ∀ W, Calls Tryz.prog 13 #[va 2 n m b] W fun e w' => e = .returned (.bool true) ∧ Below W.heap.size W w') :
    Calls Tryz.prog 9 #[va 2 n m b] w fun e w' => e = .returned (.string (⟨(dpt n m).toArray⟩)) ∧ Below w.heap.size w w' := by
  have P : ∀ W, Calls Tryz.prog 41 #[dv n m] W fun e w' => e = .returned (.string ⟨(dtext n m.toNat).toArray⟩) ∧ Grew W w' := fun W => by
    have := rprint_good n m.toNat W (by omega) hn.1 hn.2
    rwa [show ((m.toNat : Nat) : Int) = m by omega] at this
  have hlen := rdtext_len n m.toNat (by omega) hn
  unfold dpt
  generalize dtext n m.toNat = D at *
  rw [if_neg hm0, List.append_nil]
  clear hm hn hlen
  generalize ByteArray.mk D.toArray = E at *
  have Z := Cbox.new w #[.int .i64 2, .int .i64 n, .int .i64 m, .string b] 23
  go_enter Tryz.func9, Tryz.ntmps9
  go_wp2_with (first
    | (go_at_call 13; refine (R _).mono ?_; rintro e w1 ⟨rfl, b1⟩; have bb : Below w.heap.size w w1 := ((Below.refl _ w).alloc (Nat.le_refl _) _).trans (b1.mono (by simp)); have zz := Z.later b1; have c0 := zz.at 0; have c1 := zz.at 1; have c2 := zz.at 2; have c3 := zz.at 3; have lt1 := zz.lt; clear zz)
    | (go_at_call 41; refine (P _).mono ?_; rintro e w2 ⟨rfl, os2, k2, rfl⟩))
  go_ret
  exact ⟨rfl, below_trans bb (Grew.below (by repeat (first | assumption | exact Grew.refl _ | apply Grew.drew | apply Grew.drewN | apply Grew.alloc | apply Grew.more)))⟩

theorem rprint_no (k n m : Int) (b : ByteArray) (w : World)
    (R : ∀ W, Calls Tryz.prog 13 #[va k n m b] W fun e w' => e = .returned (.bool false) ∧ Below W.heap.size W w') :
    Calls Tryz.prog 9 #[va k n m b] w fun e w' => e = .returned (.string ⟨#[]⟩) ∧ Below w.heap.size w w' := by
  go_enter Tryz.func9, Tryz.ntmps9
  go_wp2_with (go_at_call 13; refine (R _).mono ?_; rintro e w1 ⟨rfl, b1⟩)
  go_ret
  exact ⟨rfl, ((Below.refl _ w).alloc (Nat.le_refl _) _).trans (b1.mono (by simp))⟩

set_option maxRecDepth 20000 in
set_option maxHeartbeats 2000000 in
theorem rprint3 (n m : Int) (b : ByteArray) (w : World) (hb : b.size ≤ 256)
    (R : ∀ W, Calls Tryz.prog 13 #[va 3 n m b] W fun e w' => e = .returned (.bool true) ∧ Below W.heap.size W w') :
    Calls Tryz.prog 9 #[va 3 n m b] w fun e w' => e = .returned (.string (⟨(quoL b.data.toList).toArray⟩)) ∧ Below w.heap.size w w' := by
  obtain ⟨R3, hR3⟩ : ∃ R3, R3 = quoL b.data.toList := ⟨_, rfl⟩
  rw [← hR3]
  have HR : Hid (R3 = quoL b.data.toList) := hR3
  clear hR3
  have hbl : b.data.toList.length = b.size := rfl
  have Z := Cbox.new w #[.int .i64 3, .int .i64 n, .int .i64 m, .string b] 23
  go_enter Tryz.func9, Tryz.ntmps9
  go_wp2_with (first
    | (go_at_call 13; refine (R _).mono ?_; rintro e w1 ⟨rfl, b1⟩; have bb : Below w.heap.size w w1 := ((Below.refl _ w).alloc (Nat.le_refl _) _).trans (b1.mono (by simp)); have zz := Z.later b1; have c0 := zz.at 0; have c1 := zz.at 1; have c2 := zz.at 2; have c3 := zz.at 3; have lt1 := zz.lt; clear zz))
  go_loopw [4, 5] (fun r4 r5 wr => ∃ k : Nat, r5 = .int .i64 (k : Int) ∧ r4 = .string ⟨(39 :: dbl (b.data.toList.take k)).toArray⟩ ∧ k ≤ b.size ∧ w1 = wr) (fun _ r _ => b.size - (intOf r).toNat)
  case atStart => exact ⟨0, rfl, rfl, Nat.zero_le _, rfl⟩
  case round =>
    obtain ⟨k, rfl, rfl, hk, rfl⟩ := hrel
    have hdl := dbl_len (b.data.toList.take k)
    rw [List.length_take] at hdl
    by_cases hlt : k < b.size
    · have hlt' : (k : Int) < (b.size : Int) := by omega
      have j0 : (0 : Int) ≤ (k : Int) := by omega
      have j1 : (k : Int) + 1 ≤ (b.size : Int) := by omega
      have j2 : (k : Int) ≤ (k : Int) + 1 := by omega
      have j3 : ((k : Int) + 1).toNat = k + 1 := by omega
      have hdt := dbl_take b.data.toList k (by omega)
      obtain ⟨c, hc0⟩ : ∃ c, c = b.data.toList[k]'(by omega) := ⟨_, rfl⟩
      have hc : ∀ h, b[k]'h = c := fun h => by rw [hc0]; rfl
      have hex : b.extract k (k + 1) = ⟨#[c]⟩ := by
        have := ba_extract b.data.toList k (k + 1)
        rw [show (ByteArray.mk b.data.toList.toArray) = b from rfl] at this
        rw [this, List.drop_take, Nat.add_sub_cancel_left, List.drop_eq_getElem_cons (by omega), ← hc0]
        rfl
      have hexH : Hid (b.extract k (k + 1) = ⟨#[c]⟩) := hex
      rw [← hc0] at hdt
      obtain ⟨D, hD⟩ : ∃ D, D = 39 :: dbl (b.data.toList.take k) := ⟨_, rfl⟩
      have hDl : D.length ≤ 1000 := by rw [hD]; simp; omega
      rw [← hD]
      have hadd : (ByteArray.mk D.toArray) ++ (ByteArray.mk #[c]) = ⟨(D ++ [c]).toArray⟩ := ba_app D [c]
      have hs1 : (ByteArray.mk D.toArray).size = D.length := rfl
      have hs2 : ¬ 9223372036854775807 < D.length + 1 := by omega
      have hs3 : (ByteArray.mk #[c]).size = 1 := rfl
      by_cases hq : c = 39
      · have hq' : (c.toNat : Int) = 39 := by rw [hq]; rfl
        have hadd2 : (ByteArray.mk (D ++ [c]).toArray) ++ (ByteArray.mk #[39]) = ⟨((D ++ [c]) ++ [39]).toArray⟩ := ba_app (D ++ [c]) [39]
        have hs4 : (ByteArray.mk (D ++ [c]).toArray).size = D.length + 1 := by show (D ++ [c]).length = _; simp
        have hs5 : ¬ 9223372036854775807 < D.length + 1 + 1 := by omega
        have HE : Hid (((D ++ [c]) ++ [39]) = 39 :: dbl (b.data.toList.take (k + 1))) := by
          show _ = _
          rw [hdt, hD, if_pos hq, hq]; simp
        obtain ⟨X2, hX2⟩ : ∃ X2, X2 = (D ++ [c]) ++ [39] := ⟨_, rfl⟩
        rw [← hX2] at hadd2 HE
        obtain ⟨X1, hX1⟩ : ∃ X1, X1 = D ++ [c] := ⟨_, rfl⟩
        rw [← hX1] at hadd hadd2 hs4
        clear hdt hD hc0 hq hX1 hX2 hex hdl
        have hex' := hexH.out
        generalize ByteArray.mk X1.toArray = Y1 at *
        generalize ByteArray.mk D.toArray = YD at *
        go_wp2
        exact ⟨⟨k + 1, by rw [cast1], by rw [HE.out], by omega, trivial⟩, by simp [intOf] <;> omega⟩
      · have hq' : ¬ (c.toNat : Int) = 39 := fun h => hq (UInt8.toNat_inj.1 (by show c.toNat = 39; omega))
        have HE : Hid ((D ++ [c]) = 39 :: dbl (b.data.toList.take (k + 1))) := by
          show _ = _
          rw [hdt, hD, if_neg hq]; simp
        obtain ⟨X1, hX1⟩ : ∃ X1, X1 = D ++ [c] := ⟨_, rfl⟩
        rw [← hX1] at hadd HE
        clear hdt hD hc0 hq hX1 hex hdl
        have hex' := hexH.out
        generalize ByteArray.mk D.toArray = YD at *
        go_wp2
        exact ⟨⟨k + 1, by rw [cast1], by rw [HE.out], by omega, trivial⟩, by simp [intOf] <;> omega⟩
    · have hlt' : ¬ (k : Int) < (b.size : Int) := by omega
      have hkb : k = b.size := by omega
      obtain ⟨D, hD⟩ : ∃ D, D = 39 :: dbl (b.data.toList.take k) := ⟨_, rfl⟩
      have hDl : D.length ≤ 1000 := by rw [hD]; simp; omega
      rw [← hD]
      have hadd : (ByteArray.mk D.toArray) ++ (ByteArray.mk #[39]) = ⟨(D ++ [39]).toArray⟩ := ba_app D [39]
      have hs1 : (ByteArray.mk D.toArray).size = D.length := rfl
      have hs2 : ¬ 9223372036854775807 < D.length + 1 := by omega
      have HE : Hid (R3 = D ++ [39]) := by
        show R3 = _
        rw [HR.out, hD, List.take_of_length_le (by omega)]
        rfl
      obtain ⟨X1, hX1⟩ : ∃ X1, X1 = D ++ [39] := ⟨_, rfl⟩
      rw [← hX1] at hadd HE
      clear hD hX1 hdl HR hkb
      generalize ByteArray.mk D.toArray = YD at *
      go_wp2
      go_ret
      exact ⟨by rw [HE.out]; rfl, bb⟩

end Go.Proofs.YtibbenhplmmmiaaGreatDoor
