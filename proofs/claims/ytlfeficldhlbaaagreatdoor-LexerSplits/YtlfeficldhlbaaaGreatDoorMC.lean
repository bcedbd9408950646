/-
  The document's Print: Ints, Decs and Texts.
  The document's quoted and Parse at the texts of literals.
  The document's Parse at the texts of literals: its walks.
  The document's Print and Parse at literals: they answer as the program's do.
-/
import Derived.Test.YtlfeficldhlbaaaGreatDoorMB
import Derived.Test.YtlfeficldhlbaaaGreatDoorLVal
import Derived.Test.YtlfeficldhlbaaaGreatDoorLTok
import Derived.BigRegion
import Derived.Test.YtlfeficldhlbaaaGreatDoorLParse
import Derived.Test.YtlfeficldhlbaaaGreatDoorDScan
import Derived.Test.YtlfeficldhlbaaaGreatDoorDRefP0
namespace Go.Proofs.YtlfeficldhlbaaaGreatDoor
open Go.RowKit Go.Shelf
attribute [local go_sem] cell?_more frozen?_more setCell_more more_lt more_more more_drew more_drewN setCell_drewN alloc_drewN

set_option maxRecDepth 20000 in
set_option maxHeartbeats 2000000 in
theorem rprint1 (n m : Int) (b : ByteArray) (w : World) (hn : -9223372036854775808 ≤ n ∧ n ≤ 9223372036854775807)
    (R : ∀ W, Calls Tryz.prog 67 #[va 1 n m b] W fun e w' => e = .returned (.bool true) ∧ Below W.heap.size W w') :
    Calls Tryz.prog 46 #[va 1 n m b] w fun e w' => e = .returned (.string (⟨(dtext n 0).toArray⟩)) ∧ Below w.heap.size w w' := by
  have P : ∀ W, Calls Tryz.prog 68 #[dv n 0] W fun e w' => e = .returned (.string ⟨(dtext n 0).toArray⟩) ∧ Grew W w' := fun W => rprint_good n 0 W (by decide) hn.1 hn.2
  have Z := Cbox.new w #[.int .i64 1, .int .i64 n, .int .i64 m, .string b] 36
  generalize ByteArray.mk (dtext n 0).toArray = D at *
  go_enter Tryz.func46, Tryz.ntmps46
  go_wp2_with (first
    | (go_at_call 67; refine (R _).mono ?_; rintro e w1 ⟨rfl, b1⟩; have bb : Below w.heap.size w w1 := ((Below.refl _ w).alloc (Nat.le_refl _) _).trans (b1.mono (by simp)); have zz := Z.later b1; have c0 := zz.at 0; have c1 := zz.at 1; have c2 := zz.at 2; have c3 := zz.at 3; have lt1 := zz.lt; clear zz)
    | (go_at_call 68; refine (P _).mono ?_; rintro e w2 ⟨rfl, os2, k2, rfl⟩))
  go_ret
  exact ⟨rfl, below_trans bb (Grew.below (by repeat (first | assumption | exact Grew.refl _ | apply Grew.drew | apply Grew.drewN | apply Grew.alloc | apply Grew.more)))⟩

theorem dtext_len (n : Int) (m : Nat) (_hm : m ≤ 6) (hn : -9223372036854775808 ≤ n ∧ n ≤ 9223372036854775807) : (dtext n m).length ≤ 9223372036854775806 := by
  have := digs_len 19 n.natAbs (by have : (10 : Nat) ^ (19 + 1) = 100000000000000000000 := by decide
                                   omega)
  have h1 := pad_len m (digs n.natAbs)
  have h0 := pad_len 0 (digs n.natAbs)
  unfold dtext
  split <;> split <;> simp [List.length_take] <;> omega

set_option maxRecDepth 20000 in
set_option maxHeartbeats 2000000 in
theorem rprint2a (n m : Int) (b : ByteArray) (w : World) (hn : -9223372036854775808 ≤ n ∧ n ≤ 9223372036854775807) (_hm : 0 ≤ m ∧ m ≤ 6) (hm0 : m = 0)
    (R : ∀ W, Calls Tryz.prog 67 #[va 2 n m b] W fun e w' => e = .returned (.bool true) ∧ Below W.heap.size W w') :
    Calls Tryz.prog 46 #[va 2 n m b] w fun e w' => e = .returned (.string (⟨(dpt n m).toArray⟩)) ∧ Below w.heap.size w w' := by
  have P : ∀ W, Calls Tryz.prog 68 #[dv n m] W fun e w' => e = .returned (.string ⟨(dtext n m.toNat).toArray⟩) ∧ Grew W w' := fun W => by
    have := rprint_good n m.toNat W (by omega) hn.1 hn.2
    rwa [show ((m.toNat : Nat) : Int) = m by omega] at this
  have hlen := dtext_len n m.toNat (by omega) hn
  unfold dpt
  generalize dtext n m.toNat = D at *
  rw [if_pos hm0]
  have hm0' : (m == 0) = true := by simpa using hm0
  have hadd : (ByteArray.mk D.toArray) ++ (ByteArray.mk #[46]) = ⟨(D ++ [46]).toArray⟩ := ba_app D [46]
  have hsz : ¬ 9223372036854775807 < (ByteArray.mk D.toArray).size + 1 := by show ¬ _ < D.length + 1; omega
  have hsz2 : (ByteArray.mk D.toArray).size = D.length := rfl
  clear _hm hn hm0
  generalize ByteArray.mk (D ++ [46]).toArray = R2 at *
  generalize ByteArray.mk D.toArray = E at *
  have Z := Cbox.new w #[.int .i64 2, .int .i64 n, .int .i64 m, .string b] 36
  go_enter Tryz.func46, Tryz.ntmps46
  go_wp2_with (first
    | (go_at_call 67; refine (R _).mono ?_; rintro e w1 ⟨rfl, b1⟩; have bb : Below w.heap.size w w1 := ((Below.refl _ w).alloc (Nat.le_refl _) _).trans (b1.mono (by simp)); have zz := Z.later b1; have c0 := zz.at 0; have c1 := zz.at 1; have c2 := zz.at 2; have c3 := zz.at 3; have lt1 := zz.lt; clear zz)
    | (go_at_call 68; refine (P _).mono ?_; rintro e w2 ⟨rfl, os2, k2, rfl⟩))
  go_ret
  exact ⟨rfl, below_trans bb (Grew.below (by repeat (first | assumption | exact Grew.refl _ | apply Grew.drew | apply Grew.drewN | apply Grew.alloc | apply Grew.more)))⟩

set_option maxRecDepth 20000 in
set_option maxHeartbeats 2000000 in
theorem rprint2b (n m : Int) (b : ByteArray) (w : World) (hn : -9223372036854775808 ≤ n ∧ n ≤ 9223372036854775807) (hm : 0 ≤ m ∧ m ≤ 6) (hm0 : ¬ m = 0)
    (R : ∀ W, Calls Tryz.prog 67 #[va 2 n m b] W fun e w' => e = .returned (.bool true) ∧ Below W.heap.size W w') :
    Calls Tryz.prog 46 #[va 2 n m b] w fun e w' => e = .returned (.string (⟨(dpt n m).toArray⟩)) ∧ Below w.heap.size w w' := by
  have P : ∀ W, Calls Tryz.prog 68 #[dv n m] W fun e w' => e = .returned (.string ⟨(dtext n m.toNat).toArray⟩) ∧ Grew W w' := fun W => by
    have := rprint_good n m.toNat W (by omega) hn.1 hn.2
    rwa [show ((m.toNat : Nat) : Int) = m by omega] at this
  have hlen := dtext_len n m.toNat (by omega) hn
  unfold dpt
  generalize dtext n m.toNat = D at *
  rw [if_neg hm0, List.append_nil]
  clear hm hn hlen
  generalize ByteArray.mk D.toArray = E at *
  have Z := Cbox.new w #[.int .i64 2, .int .i64 n, .int .i64 m, .string b] 36
  go_enter Tryz.func46, Tryz.ntmps46
  go_wp2_with (first
    | (go_at_call 67; refine (R _).mono ?_; rintro e w1 ⟨rfl, b1⟩; have bb : Below w.heap.size w w1 := ((Below.refl _ w).alloc (Nat.le_refl _) _).trans (b1.mono (by simp)); have zz := Z.later b1; have c0 := zz.at 0; have c1 := zz.at 1; have c2 := zz.at 2; have c3 := zz.at 3; have lt1 := zz.lt; clear zz)
    | (go_at_call 68; refine (P _).mono ?_; rintro e w2 ⟨rfl, os2, k2, rfl⟩))
  go_ret
  exact ⟨rfl, below_trans bb (Grew.below (by repeat (first | assumption | exact Grew.refl _ | apply Grew.drew | apply Grew.drewN | apply Grew.alloc | apply Grew.more)))⟩

theorem rprint_no (k n m : Int) (b : ByteArray) (w : World)
    (R : ∀ W, Calls Tryz.prog 67 #[va k n m b] W fun e w' => e = .returned (.bool false) ∧ Below W.heap.size W w') :
    Calls Tryz.prog 46 #[va k n m b] w fun e w' => e = .returned (.string ⟨#[]⟩) ∧ Below w.heap.size w w' := by
  go_enter Tryz.func46, Tryz.ntmps46
  go_wp2_with (go_at_call 67; refine (R _).mono ?_; rintro e w1 ⟨rfl, b1⟩)
  go_ret
  exact ⟨rfl, ((Below.refl _ w).alloc (Nat.le_refl _) _).trans (b1.mono (by simp))⟩

set_option maxRecDepth 20000 in
set_option maxHeartbeats 2000000 in
theorem rprint3 (n m : Int) (b : ByteArray) (w : World) (hb : b.size ≤ 256)
    (R : ∀ W, Calls Tryz.prog 67 #[va 3 n m b] W fun e w' => e = .returned (.bool true) ∧ Below W.heap.size W w') :
    Calls Tryz.prog 46 #[va 3 n m b] w fun e w' => e = .returned (.string (⟨(quoL b.data.toList).toArray⟩)) ∧ Below w.heap.size w w' := by
  obtain ⟨R3, hR3⟩ : ∃ R3, R3 = quoL b.data.toList := ⟨_, rfl⟩
  rw [← hR3]
  have HR : Hid (R3 = quoL b.data.toList) := hR3
  clear hR3
  have hbl : b.data.toList.length = b.size := rfl
  have Z := Cbox.new w #[.int .i64 3, .int .i64 n, .int .i64 m, .string b] 36
  go_enter Tryz.func46, Tryz.ntmps46
  go_wp2_with (first
    | (go_at_call 67; refine (R _).mono ?_; rintro e w1 ⟨rfl, b1⟩; have bb : Below w.heap.size w w1 := ((Below.refl _ w).alloc (Nat.le_refl _) _).trans (b1.mono (by simp)); have zz := Z.later b1; have c0 := zz.at 0; have c1 := zz.at 1; have c2 := zz.at 2; have c3 := zz.at 3; have lt1 := zz.lt; clear zz))
  go_loopw [4, 5] (fun r4 r5 wr => ∃ k : Nat, r5 = .int .i64 (k : Int) ∧ r4 = .string ⟨(39 :: dbl (b.data.toList.take k)).toArray⟩ ∧ k ≤ b.size ∧ w1 = wr) (fun _ r _ => b.size - (intOf r).toNat)
  case atStart => exact ⟨0, rfl, rfl, Nat.zero_le _, rfl⟩
  case round =>
    obtain ⟨k, rfl, rfl, hk, rfl⟩ := hrel
    have hdl := dbl_len (b.data.toList.take k)
    rw [List.length_take] at hdl
    by_cases hlt : k < b.size
    · have hlt' : (k : Int) < (b.size : Int) := by omega
      have j0 : (0 : Int) ≤ (k : Int) := by omega
      have j1 : (k : Int) + 1 ≤ (b.size : Int) := by omega
      have j2 : (k : Int) ≤ (k : Int) + 1 := by omega
      have j3 : ((k : Int) + 1).toNat = k + 1 := by omega
      have hdt := dbl_take b.data.toList k (by omega)
      obtain ⟨c, hc0⟩ : ∃ c, c = b.data.toList[k]'(by omega) := ⟨_, rfl⟩
      have hc : ∀ h, b[k]'h = c := fun h => by rw [hc0]; rfl
      have hex : b.extract k (k + 1) = ⟨#[c]⟩ := by
        have := ba_extract b.data.toList k (k + 1)
        rw [show (ByteArray.mk b.data.toList.toArray) = b from rfl] at this
        rw [this, List.drop_take, Nat.add_sub_cancel_left, List.drop_eq_getElem_cons (by omega), ← hc0]
        rfl
      have hexH : Hid (b.extract k (k + 1) = ⟨#[c]⟩) := hex
      rw [← hc0] at hdt
      obtain ⟨D, hD⟩ : ∃ D, D = 39 :: dbl (b.data.toList.take k) := ⟨_, rfl⟩
      have hDl : D.length ≤ 1000 := by rw [hD]; simp; omega
      rw [← hD]
      have hadd : (ByteArray.mk D.toArray) ++ (ByteArray.mk #[c]) = ⟨(D ++ [c]).toArray⟩ := ba_app D [c]
      have hs1 : (ByteArray.mk D.toArray).size = D.length := rfl
      have hs2 : ¬ 9223372036854775807 < D.length + 1 := by omega
      have hs3 : (ByteArray.mk #[c]).size = 1 := rfl
      by_cases hq : c = 39
      · have hq' : (c.toNat : Int) = 39 := by rw [hq]; rfl
        have hadd2 : (ByteArray.mk (D ++ [c]).toArray) ++ (ByteArray.mk #[39]) = ⟨((D ++ [c]) ++ [39]).toArray⟩ := ba_app (D ++ [c]) [39]
        have hs4 : (ByteArray.mk (D ++ [c]).toArray).size = D.length + 1 := by show (D ++ [c]).length = _; simp
        have hs5 : ¬ 9223372036854775807 < D.length + 1 + 1 := by omega
        have HE : Hid (((D ++ [c]) ++ [39]) = 39 :: dbl (b.data.toList.take (k + 1))) := by
          show _ = _
          rw [hdt, hD, if_pos hq, hq]; simp
        obtain ⟨X2, hX2⟩ : ∃ X2, X2 = (D ++ [c]) ++ [39] := ⟨_, rfl⟩
        rw [← hX2] at hadd2 HE
        obtain ⟨X1, hX1⟩ : ∃ X1, X1 = D ++ [c] := ⟨_, rfl⟩
        rw [← hX1] at hadd hadd2 hs4
        clear hdt hD hc0 hq hX1 hX2 hex hdl
        have hex' := hexH.out
        generalize ByteArray.mk X1.toArray = Y1 at *
        generalize ByteArray.mk D.toArray = YD at *
        go_wp2
        exact ⟨⟨k + 1, by rw [cast1], by rw [HE.out], by omega, trivial⟩, by simp [intOf] <;> omega⟩
      · have hq' : ¬ (c.toNat : Int) = 39 := fun h => hq (UInt8.toNat_inj.1 (by show c.toNat = 39; omega))
        have HE : Hid ((D ++ [c]) = 39 :: dbl (b.data.toList.take (k + 1))) := by
          show _ = _
          rw [hdt, hD, if_neg hq]; simp
        obtain ⟨X1, hX1⟩ : ∃ X1, X1 = D ++ [c] := ⟨_, rfl⟩
        rw [← hX1] at hadd HE
        clear hdt hD hc0 hq hX1 hex hdl
        have hex' := hexH.out
        generalize ByteArray.mk D.toArray = YD at *
        go_wp2
        exact ⟨⟨k + 1, by rw [cast1], by rw [HE.out], by omega, trivial⟩, by simp [intOf] <;> omega⟩
    · have hlt' : ¬ (k : Int) < (b.size : Int) := by omega
      have hkb : k = b.size := by omega
      obtain ⟨D, hD⟩ : ∃ D, D = 39 :: dbl (b.data.toList.take k) := ⟨_, rfl⟩
      have hDl : D.length ≤ 1000 := by rw [hD]; simp; omega
      rw [← hD]
      have hadd : (ByteArray.mk D.toArray) ++ (ByteArray.mk #[39]) = ⟨(D ++ [39]).toArray⟩ := ba_app D [39]
      have hs1 : (ByteArray.mk D.toArray).size = D.length := rfl
      have hs2 : ¬ 9223372036854775807 < D.length + 1 := by omega
      have HE : Hid (R3 = D ++ [39]) := by
        show R3 = _
        rw [HR.out, hD, List.take_of_length_le (by omega)]
        rfl
      obtain ⟨X1, hX1⟩ : ∃ X1, X1 = D ++ [39] := ⟨_, rfl⟩
      rw [← hX1] at hadd HE
      clear hD hX1 hdl HR hkb
      generalize ByteArray.mk D.toArray = YD at *
      go_wp2
      go_ret
      exact ⟨by rw [HE.out]; rfl, bb⟩

end Go.Proofs.YtlfeficldhlbaaaGreatDoor

namespace Go.Proofs.YtlfeficldhlbaaaGreatDoor
open Go.RowKit Go.Shelf
attribute [local go_sem] cell?_more frozen?_more setCell_more more_lt more_more more_drew more_drewN setCell_drewN alloc_drewN

/-- What the document reads within quotes: each two of them as one. -/
def qrL : List UInt8 → List UInt8
  | [] => []
  | [c] => [c]
  | c :: d :: l => if c = 39 then 39 :: qrL l else c :: qrL (d :: l)
theorem qr_cons (c : UInt8) (l : List UInt8) : qrL (c :: l) = c :: (if c = 39 then qrL (l.drop 1) else qrL l) := by
  match l with
  | [] => simp [qrL]
  | d :: l =>
    rw [qrL]
    by_cases h : c = 39
    · rw [if_pos h, if_pos h, h]; rfl
    · rw [if_neg h, if_neg h]
theorem qr_dbl (b : List UInt8) : qrL (dbl b) = b := by
  induction b with
  | nil => rfl
  | cons c b ih =>
    have e : dbl (c :: b) = (if c = 39 then [39, 39] else [c]) ++ dbl b := by simp [dbl]
    rw [e]
    by_cases h : c = 39
    · rw [if_pos h, h]
      show qrL (39 :: 39 :: dbl b) = _
      rw [qr_cons, if_pos rfl]
      show 39 :: qrL (dbl b) = _
      rw [ih]
    · rw [if_neg h]
      show qrL (c :: dbl b) = _
      rw [qr_cons, if_neg h, ih]
theorem unq_dbl (b : List UInt8) : unqL (dbl b ++ [39]) = some b := by
  induction b with
  | nil => rfl
  | cons c b ih =>
    have e : dbl (c :: b) = (if c = 39 then [39, 39] else [c]) ++ dbl b := by simp [dbl]
    rw [e]
    by_cases h : c = 39
    · rw [if_pos h, h]
      show unqL (39 :: 39 :: (dbl b ++ [39])) = _
      rw [unq_two, ih]; rfl
    · rw [if_neg h]
      show unqL (c :: (dbl b ++ [39])) = _
      rw [unq_other _ _ h, ih]; rfl

set_option maxRecDepth 20000 in
set_option maxHeartbeats 4000000 in
theorem rquoted_any (t : List UInt8) (w : World) (ht : t.length ≤ 4096) (h2 : 2 ≤ t.length) :
    Calls Tryz.prog 43 #[.string ⟨t.toArray⟩] w fun e w' => e = .returned (.string ⟨(qrL ((t.take (t.length - 1)).drop 1)).toArray⟩) ∧ Below w.heap.size w w' := by
  obtain ⟨i0, hi, hz0, hz1, hz2⟩ := info_parts Tryz.info5
  obtain ⟨R, hR⟩ : ∃ R, R = qrL ((t.take (t.length - 1)).drop 1) := ⟨_, rfl⟩
  rw [← hR]
  have HR : Hid (R = qrL ((t.take (t.length - 1)).drop 1)) := hR
  clear hR
  have hsz : (ByteArray.mk t.toArray).size = t.length := rfl
  have HB : Hid (∀ (k : Nat) h, (ByteArray.mk t.toArray)[k]'h = bat t k) := fun k h => by
    have h' : k < t.length := h
    show t[k] = _
    unfold bat
    simp [List.getD, h']
  generalize ByteArray.mk t.toArray = B at *
  go_enter Tryz.func43, Tryz.ntmps43
  go_wp2
  go_loopw [3, 4] (fun r3 r4 wr => ∃ (k : Nat) (acc : List UInt8), r4 = .int .i64 (k : Int) ∧ 1 ≤ k ∧ k ≤ t.length ∧ acc.length ≤ k ∧ Own wr w.heap.size r3 acc ∧ Below w.heap.size w wr ∧ Hid (R = acc ++ qrL ((t.take (t.length - 1)).drop k))) (fun _ r _ => t.length + 1 - (intOf r).toNat)
  case atStart => exact ⟨1, [], rfl, Nat.le_refl _, by omega, by simp, World.ownsRow_nil _ _ _ _, Below.refl _ _, HR⟩
  case round =>
    obtain ⟨k, acc, rfl, k1, k2, hak, ho, hB, hH⟩ := hrel
    have sB := hB.size
    by_cases hlt : k < t.length - 1
    · have hlt' : (k : Int) < (t.length : Int) - 1 := by omega
      have j0 : (0 : Int) ≤ (k : Int) := by omega
      have j1 : (k : Int) < (t.length : Int) := by omega
      have hgk := HB.out k
      have hdr : (t.take (t.length - 1)).drop k = bat t k :: (t.take (t.length - 1)).drop (k + 1) := by
        rw [List.drop_eq_getElem_cons (by rw [List.length_take]; omega), List.getElem_take]
        unfold bat
        rw [List.getD_eq_getElem?_getD, List.getElem?_eq_getElem (by omega)]
        rfl
      have HH := hH.out
      rw [hdr, qr_cons] at HH
      obtain ⟨c, hc⟩ : ∃ c, c = bat t k := ⟨_, rfl⟩
      rw [← hc] at hgk HH
      by_cases hq : c = 39
      · have hq' : ((c.toNat : Int) == 39) = true := by rw [hq]; rfl
        rw [if_pos hq, List.drop_drop] at HH
        have hH' : Hid (R = (acc ++ [c]) ++ qrL ((t.take (t.length - 1)).drop (k + 1 + 1))) := by
          show R = _
          rw [HH]; simp
        clear hH HH hdr hc hq HR
        go_wp2_with (at_builtin; refine wpList_append_own _ rfl _ _ 53 rfl w.heap.size 5 i0 (.int .u8 0) 1 1 Tryz.underlying53 hi hz0 hz1 hz2 rfl (by decide) _ _ _ rfl (World.ownsRow.alloc ho _) ⟨wr.heap.size, 0, none⟩ 1 1 [.int .u8 (c.toNat : Int)] rfl rfl (cell_one_new _ _ _) (one_cell _ _) (by unfold maxLen; omega) (by omega) (by simp; omega) ?_)
        intro v1 w1 hown1 hgrow1 _
        have hB1 : Below w.heap.size w w1 := ((hB.alloc (by omega) _).grown hgrow1 (by simp; omega) (fun k hk => (World.ownsRow.lt ho k hk).1))
        have hO := own_push hown1
        clear hown1 hgrow1 ho hB
        go_wp2
        exact ⟨⟨k + 1 + 1, acc ++ [c], by rw [show ((k + 1 + 1 : Nat) : Int) = (k : Int) + 1 + 1 by omega], by omega, by omega, by simp; omega, hO, hB1, hH'⟩, by simp [intOf] <;> omega⟩
      · have hq' : ((c.toNat : Int) == 39) = false := by rw [beq_eq_false_iff_ne]; exact fun h => hq (UInt8.toNat_inj.1 (by show c.toNat = 39; omega))
        rw [if_neg hq] at HH
        have hH' : Hid (R = (acc ++ [c]) ++ qrL ((t.take (t.length - 1)).drop (k + 1))) := by
          show R = _
          rw [HH]; simp
        clear hH HH hdr hc hq HR
        go_wp2_with (at_builtin; refine wpList_append_own _ rfl _ _ 53 rfl w.heap.size 5 i0 (.int .u8 0) 1 1 Tryz.underlying53 hi hz0 hz1 hz2 rfl (by decide) _ _ _ rfl (World.ownsRow.alloc ho _) ⟨wr.heap.size, 0, none⟩ 1 1 [.int .u8 (c.toNat : Int)] rfl rfl (cell_one_new _ _ _) (one_cell _ _) (by unfold maxLen; omega) (by omega) (by simp; omega) ?_)
        intro v1 w1 hown1 hgrow1 _
        have hB1 : Below w.heap.size w w1 := ((hB.alloc (by omega) _).grown hgrow1 (by simp; omega) (fun k hk => (World.ownsRow.lt ho k hk).1))
        have hO := own_push hown1
        clear hown1 hgrow1 ho hB
        go_wp2
        exact ⟨⟨k + 1, acc ++ [c], by rw [cast1], by omega, by omega, by simp; omega, hO, hB1, hH'⟩, by simp [intOf] <;> omega⟩
    · have hlt' : ¬ (k : Int) < (t.length : Int) - 1 := by omega
      have HF : Hid (R = acc) := by
        show R = _
        rw [hH.out, List.drop_eq_nil_of_le (by rw [List.length_take]; omega)]
        simp [qrL]
      clear hH HR
      obtain ⟨ao2, cap2, rfl, hrd, _⟩ := ho.rd
      have hcv := run_string_of 53 9 5 Tryz.underlying53 Tryz.underlying5 Tryz.underlying9 hrd
      clear hrd ho
      go_wp2
      go_ret
      exact ⟨by rw [HF.out]; rfl, hB⟩
end Go.Proofs.YtlfeficldhlbaaaGreatDoor

namespace Go.Proofs.YtlfeficldhlbaaaGreatDoor
open Go.RowKit Go.Shelf
attribute [local go_sem] cell?_more frozen?_more setCell_more more_lt more_more more_drew more_drewN setCell_drewN alloc_drewN

set_option maxRecDepth 20000 in
set_option maxHeartbeats 4000000 in
theorem rpC1 (t q : List UInt8) (S : ByteArray) (c0 cl : UInt8) (U V E : Int) (w : World) (hS : S.size = t.length) (hq : (q == S.toList) = true) (h1 : 1 ≤ t.length) (ht : t.length ≤ 4096)
    (n0 : S.toList.isEmpty = false) (_n1 : (S.toList == [110, 117, 108, 108]) = false) (n2 : (S.toList == [116, 114, 117, 101]) = false) (n3 : (S.toList == [102, 97, 108, 115, 101]) = false)
    (_hg0 : ∀ h, S[0]'h = c0) (_hgl : ∀ h, S[t.length - 1]'h = cl) (h39 : ((c0.toNat : Int) == 39) = false) (h60 : ((c0.toNat : Int) == 60) = false) (h46 : ((cl.toNat : Int) == 46) = false) (h2 : 2 ≤ t.length) (hV : ¬ (0 : Int) < V) (D : ∀ W, Calls Tryz.prog 45 #[.string S] W fun e w' => e = .returned (.tuple #[dv U V, .int .i64 E]) ∧ Below W.heap.size W w')
    (P : ∀ W, Calls Tryz.prog 46 #[va  1  U  0 ⟨#[]⟩] W fun e w' => e = .returned (.string ⟨q.toArray⟩) ∧ Below W.heap.size W w') :
    Calls Tryz.prog 36 #[.string S] w fun e w' => e = .returned (.tuple #[va  1  U  0 ⟨#[]⟩, .int .i64 0]) ∧ Below w.heap.size w w' := by
  have h1' : (1 : Int) ≤ (t.length : Int) := by omega
  have ht' : (t.length : Int) ≤ 4096 := by omega
  have Z0 : Cbox ((w.alloc (.cells #[.int .i64 0, .int .i64 0, .int .i64 0, .string ⟨#[]⟩] 36)).alloc (.cells #[.int .i64 0, .int .i64 0, .int .i64 0, .string ⟨#[]⟩] 36)) w.heap.size #[.int .i64 0, .int .i64 0, .int .i64 0, .string ⟨#[]⟩] 36 := (Cbox.new w _ _).later ((Below.refl _ _).alloc (Nat.le_refl _) _)
  have Z1 : Cbox ((w.alloc (.cells #[.int .i64 0, .int .i64 0, .int .i64 0, .string ⟨#[]⟩] 36)).alloc (.cells #[.int .i64 0, .int .i64 0, .int .i64 0, .string ⟨#[]⟩] 36)) (w.heap.size + 1) #[.int .i64 0, .int .i64 0, .int .i64 0, .string ⟨#[]⟩] 36 := by
    have := Cbox.new (w.alloc (.cells #[.int .i64 0, .int .i64 0, .int .i64 0, .string ⟨#[]⟩] 36)) #[.int .i64 0, .int .i64 0, .int .i64 0, .string ⟨#[]⟩] 36
    rwa [World.size_alloc] at this
  have h2' : (2 : Int) ≤ (t.length : Int) := by omega
  have h3 : ((t.length : Int) - 1).toNat = t.length - 1 := by omega
  have h4 : (0 : Int) ≤ (t.length : Int) - 1 := by omega
  go_enter Tryz.func36, Tryz.ntmps36
  go_wp2_with (go_at_call 45; refine (D _).mono ?_; rintro e w1 ⟨rfl, b1⟩; have Zr : Cbox w1 w.heap.size #[.int .i64 0, .int .i64 0, .int .i64 0, .string ⟨#[]⟩] 36 := Z0.later b1; have Zv : Cbox w1 (w.heap.size + 1) #[.int .i64 0, .int .i64 0, .int .i64 0, .string ⟨#[]⟩] 36 := Z1.later b1; have r0 := Zr.at 0; have v0 := Zv.at 0; have fr0 := Zr.free 0; have fv0 := Zv.free 0; have r1 := Zr.at 1; have v1 := Zv.at 1; have fr1 := Zr.free 1; have fv1 := Zv.free 1; have r2 := Zr.at 2; have v2 := Zv.at 2; have fr2 := Zr.free 2; have fv2 := Zv.free 2; have r3 := Zr.at 3; have v3 := Zv.at 3; have fr3 := Zr.free 3; have fv3 := Zv.free 3; have ltr := Zr.lt; have ltv := Zv.lt; have B1 : Below w.heap.size w w1 := (((Below.refl _ w).alloc (Nat.le_refl _) _).alloc (by simp) _).trans (b1.mono (by simp; omega)); have hs1 := B1.size; clear Zr Zv)
  refine (P _).mono ?_
  rintro e w2 ⟨rfl, b2⟩
  have R0 : w2.cell? ⟨w.heap.size, 0, none⟩ = some (.int .i64 0) := (b2.cell (p := ⟨w.heap.size, 0, none⟩) (by simp; omega)).trans (by simp [go_sem, *])
  have V0 : w2.cell? ⟨w.heap.size + 1, 0, none⟩ = some (.int .i64 1) := (b2.cell (p := ⟨w.heap.size + 1, 0, none⟩) (by simp; omega)).trans (by simp [go_sem, *])
  have F0 : w2.frozen? ⟨w.heap.size, 0, none⟩ = false := (b2.frozen (p := ⟨w.heap.size, 0, none⟩) (by simp; omega)).trans (by simp [go_sem, *])
  have R1 : w2.cell? ⟨w.heap.size, 1, none⟩ = some (.int .i64 0) := (b2.cell (p := ⟨w.heap.size, 1, none⟩) (by simp; omega)).trans (by simp [go_sem, *])
  have V1 : w2.cell? ⟨w.heap.size + 1, 1, none⟩ = some (.int .i64 U) := (b2.cell (p := ⟨w.heap.size + 1, 1, none⟩) (by simp; omega)).trans (by simp [go_sem, *])
  have F1 : w2.frozen? ⟨w.heap.size, 1, none⟩ = false := (b2.frozen (p := ⟨w.heap.size, 1, none⟩) (by simp; omega)).trans (by simp [go_sem, *])
  have R2 : w2.cell? ⟨w.heap.size, 2, none⟩ = some (.int .i64 0) := (b2.cell (p := ⟨w.heap.size, 2, none⟩) (by simp; omega)).trans (by simp [go_sem, *])
  have V2 : w2.cell? ⟨w.heap.size + 1, 2, none⟩ = some (.int .i64 0) := (b2.cell (p := ⟨w.heap.size + 1, 2, none⟩) (by simp; omega)).trans (by simp [go_sem, *])
  have F2 : w2.frozen? ⟨w.heap.size, 2, none⟩ = false := (b2.frozen (p := ⟨w.heap.size, 2, none⟩) (by simp; omega)).trans (by simp [go_sem, *])
  have R3 : w2.cell? ⟨w.heap.size, 3, none⟩ = some (.string ⟨#[]⟩) := (b2.cell (p := ⟨w.heap.size, 3, none⟩) (by simp; omega)).trans (by simp [go_sem, *])
  have V3 : w2.cell? ⟨w.heap.size + 1, 3, none⟩ = some (.string ⟨#[]⟩) := (b2.cell (p := ⟨w.heap.size + 1, 3, none⟩) (by simp; omega)).trans (by simp [go_sem, *])
  have F3 : w2.frozen? ⟨w.heap.size, 3, none⟩ = false := (b2.frozen (p := ⟨w.heap.size, 3, none⟩) (by simp; omega)).trans (by simp [go_sem, *])
  have B2 : Below w.heap.size w w2 := by (refine Below.trans ?_ (Below.mono b2 (by simp; omega)); repeat (first | with_reducible exact B1 | with_reducible refine bl_set ?_ _ | with_reducible refine Below.drew ?_ | with_reducible refine Below.alloc ?_ (by simp; omega) _ | with_reducible refine bl_set2 ?_ (by omega) _))
  have lt2 : w.heap.size < w2.heap.size := by have := b2.size; simp at this; omega
  clear b2 B1 hs1 r0 r1 r2 r3 v0 v1 v2 v3 fr0 fr1 fr2 fr3 fv0 fv1 fv2 fv3 ltr ltv
  go_wp2
  refine bodyPost_ret_by (v := .tuple #[va  1  U  0 ⟨#[]⟩, .int .i64 0]) ?_ rfl ⟨rfl, ?_⟩
  · simp [results, Tryz.results36, go_sem, R0, R1, R2, R3]
  · repeat (first | with_reducible exact B2 | with_reducible refine bl_set ?_ _)

set_option maxRecDepth 20000 in
set_option maxHeartbeats 4000000 in
theorem rpC2 (t q : List UInt8) (S : ByteArray) (c0 cl : UInt8) (U V E : Int) (w : World) (hS : S.size = t.length) (hq : (q == S.toList) = true) (h1 : 1 ≤ t.length) (ht : t.length ≤ 4096)
    (n0 : S.toList.isEmpty = false) (_n1 : (S.toList == [110, 117, 108, 108]) = false) (n2 : (S.toList == [116, 114, 117, 101]) = false) (n3 : (S.toList == [102, 97, 108, 115, 101]) = false)
    (_hg0 : ∀ h, S[0]'h = c0) (_hgl : ∀ h, S[t.length - 1]'h = cl) (h39 : ((c0.toNat : Int) == 39) = false) (h60 : ((c0.toNat : Int) == 60) = false) (h46 : ((cl.toNat : Int) == 46) = false) (h2 : 2 ≤ t.length) (hV : (0 : Int) < V) (D : ∀ W, Calls Tryz.prog 45 #[.string S] W fun e w' => e = .returned (.tuple #[dv U V, .int .i64 E]) ∧ Below W.heap.size W w')
    (P : ∀ W, Calls Tryz.prog 46 #[va  2  U  V ⟨#[]⟩] W fun e w' => e = .returned (.string ⟨q.toArray⟩) ∧ Below W.heap.size W w') :
    Calls Tryz.prog 36 #[.string S] w fun e w' => e = .returned (.tuple #[va  2  U  V ⟨#[]⟩, .int .i64 0]) ∧ Below w.heap.size w w' := by
  have h1' : (1 : Int) ≤ (t.length : Int) := by omega
  have ht' : (t.length : Int) ≤ 4096 := by omega
  have Z0 : Cbox ((w.alloc (.cells #[.int .i64 0, .int .i64 0, .int .i64 0, .string ⟨#[]⟩] 36)).alloc (.cells #[.int .i64 0, .int .i64 0, .int .i64 0, .string ⟨#[]⟩] 36)) w.heap.size #[.int .i64 0, .int .i64 0, .int .i64 0, .string ⟨#[]⟩] 36 := (Cbox.new w _ _).later ((Below.refl _ _).alloc (Nat.le_refl _) _)
  have Z1 : Cbox ((w.alloc (.cells #[.int .i64 0, .int .i64 0, .int .i64 0, .string ⟨#[]⟩] 36)).alloc (.cells #[.int .i64 0, .int .i64 0, .int .i64 0, .string ⟨#[]⟩] 36)) (w.heap.size + 1) #[.int .i64 0, .int .i64 0, .int .i64 0, .string ⟨#[]⟩] 36 := by
    have := Cbox.new (w.alloc (.cells #[.int .i64 0, .int .i64 0, .int .i64 0, .string ⟨#[]⟩] 36)) #[.int .i64 0, .int .i64 0, .int .i64 0, .string ⟨#[]⟩] 36
    rwa [World.size_alloc] at this
  have h2' : (2 : Int) ≤ (t.length : Int) := by omega
  have h3 : ((t.length : Int) - 1).toNat = t.length - 1 := by omega
  have h4 : (0 : Int) ≤ (t.length : Int) - 1 := by omega
  go_enter Tryz.func36, Tryz.ntmps36
  go_upto_region 18 with (go_at_call 45; refine (D _).mono ?_; rintro e w1 ⟨rfl, b1⟩; have Zr : Cbox w1 w.heap.size #[.int .i64 0, .int .i64 0, .int .i64 0, .string ⟨#[]⟩] 36 := Z0.later b1; have Zv : Cbox w1 (w.heap.size + 1) #[.int .i64 0, .int .i64 0, .int .i64 0, .string ⟨#[]⟩] 36 := Z1.later b1; have r0 := Zr.at 0; have v0 := Zv.at 0; have fr0 := Zr.free 0; have fv0 := Zv.free 0; have r1 := Zr.at 1; have v1 := Zv.at 1; have fr1 := Zr.free 1; have fv1 := Zv.free 1; have r2 := Zr.at 2; have v2 := Zv.at 2; have fr2 := Zr.free 2; have fv2 := Zv.free 2; have r3 := Zr.at 3; have v3 := Zv.at 3; have fr3 := Zr.free 3; have fv3 := Zv.free 3; have ltr := Zr.lt; have ltv := Zv.lt; have B1 : Below w.heap.size w w1 := (((Below.refl _ w).alloc (Nat.le_refl _) _).alloc (by simp) _).trans (b1.mono (by simp; omega)); have hs1 := B1.size; clear Zr Zv)
  obtain ⟨X, hX⟩ : ∃ X, X = ((((w1.setCell ⟨w.heap.size + 1, 0, none⟩ (.int .i64 1)).setCell ⟨w.heap.size + 1, 1, none⟩ (.int .i64 U)).setCell ⟨w.heap.size + 1, 2, none⟩ (.int .i64 0)).setCell ⟨w.heap.size + 1, 3, none⟩ (.string ⟨#[]⟩)).alloc (.cells #[.int .i64 U, .int .i64 V] 73) := ⟨_, rfl⟩
  have a0 : X.cell? ⟨w.heap.size, 0, none⟩ = some (.int .i64 0) := by rw [hX]; simp [go_sem, *]
  have e0 : X.cell? ⟨w.heap.size + 1, 0, none⟩ = some (.int .i64 1) := by rw [hX]; simp [go_sem, *]
  have fa0 : X.frozen? ⟨w.heap.size, 0, none⟩ = false := by rw [hX]; simp [go_sem, *]
  have fe0 : X.frozen? ⟨w.heap.size + 1, 0, none⟩ = false := by rw [hX]; simp [go_sem, *]
  have a1 : X.cell? ⟨w.heap.size, 1, none⟩ = some (.int .i64 0) := by rw [hX]; simp [go_sem, *]
  have e1 : X.cell? ⟨w.heap.size + 1, 1, none⟩ = some (.int .i64 U) := by rw [hX]; simp [go_sem, *]
  have fa1 : X.frozen? ⟨w.heap.size, 1, none⟩ = false := by rw [hX]; simp [go_sem, *]
  have fe1 : X.frozen? ⟨w.heap.size + 1, 1, none⟩ = false := by rw [hX]; simp [go_sem, *]
  have a2 : X.cell? ⟨w.heap.size, 2, none⟩ = some (.int .i64 0) := by rw [hX]; simp [go_sem, *]
  have e2 : X.cell? ⟨w.heap.size + 1, 2, none⟩ = some (.int .i64 0) := by rw [hX]; simp [go_sem, *]
  have fa2 : X.frozen? ⟨w.heap.size, 2, none⟩ = false := by rw [hX]; simp [go_sem, *]
  have fe2 : X.frozen? ⟨w.heap.size + 1, 2, none⟩ = false := by rw [hX]; simp [go_sem, *]
  have a3 : X.cell? ⟨w.heap.size, 3, none⟩ = some (.string ⟨#[]⟩) := by rw [hX]; simp [go_sem, *]
  have e3 : X.cell? ⟨w.heap.size + 1, 3, none⟩ = some (.string ⟨#[]⟩) := by rw [hX]; simp [go_sem, *]
  have fa3 : X.frozen? ⟨w.heap.size, 3, none⟩ = false := by rw [hX]; simp [go_sem, *]
  have fe3 : X.frozen? ⟨w.heap.size + 1, 3, none⟩ = false := by rw [hX]; simp [go_sem, *]
  have d0 : X.cell? ⟨w1.heap.size, 0, none⟩ = some (.int .i64 U) := by rw [hX]; simp [go_sem, *]
  have d1 : X.cell? ⟨w1.heap.size, 1, none⟩ = some (.int .i64 V) := by rw [hX]; simp [go_sem, *]
  have BX : Below w.heap.size w X := by (rw [hX]; repeat (first | with_reducible exact B1 | with_reducible refine bl_set ?_ _ | with_reducible refine Below.drew ?_ | with_reducible refine Below.alloc ?_ (by simp; omega) _ | with_reducible refine bl_set2 ?_ (by omega) _))
  have hsX : X.heap.size = w1.heap.size + 1 := by rw [hX]; simp
  have ltX : w.heap.size < X.heap.size := by omega
  have ltX2 : w.heap.size + 1 < X.heap.size := by omega
  show Code.wp _ _ _ _ (((((w1.setCell ⟨w.heap.size + 1, 0, none⟩ (.int .i64 1)).setCell ⟨w.heap.size + 1, 1, none⟩ (.int .i64 U)).setCell ⟨w.heap.size + 1, 2, none⟩ (.int .i64 0)).setCell ⟨w.heap.size + 1, 3, none⟩ (.string ⟨#[]⟩)).alloc (.cells #[.int .i64 U, .int .i64 V] 73))
  rw [← hX]
  clear hX r0 r1 r2 r3 v0 v1 v2 v3 fr0 fr1 fr2 fr3 fv0 fv1 fv2 fv3 B1 hs1
  have r0 := a0
  have r1 := a1
  have r2 := a2
  have r3 := a3
  have v0 := e0
  have v1 := e1
  have v2 := e2
  have v3 := e3
  have fr0 := fa0
  have fr1 := fa1
  have fr2 := fa2
  have fr3 := fa3
  have fv0 := fe0
  have fv1 := fe1
  have fv2 := fe2
  have fv3 := fe3
  have B1 := BX
  have hs1 := BX.size
  clear a0 a1 a2 a3 e0 e1 e2 e3 fa0 fa1 fa2 fa3 fe0 fe1 fe2 fe3 BX
  go_wp2_with fail
  refine (P _).mono ?_
  rintro e w2 ⟨rfl, b2⟩
  have R0 : w2.cell? ⟨w.heap.size, 0, none⟩ = some (.int .i64 0) := (b2.cell (p := ⟨w.heap.size, 0, none⟩) (by simp; omega)).trans (by simp [go_sem, *])
  have V0 : w2.cell? ⟨w.heap.size + 1, 0, none⟩ = some (.int .i64 2) := (b2.cell (p := ⟨w.heap.size + 1, 0, none⟩) (by simp; omega)).trans (by simp [go_sem, *])
  have F0 : w2.frozen? ⟨w.heap.size, 0, none⟩ = false := (b2.frozen (p := ⟨w.heap.size, 0, none⟩) (by simp; omega)).trans (by simp [go_sem, *])
  have R1 : w2.cell? ⟨w.heap.size, 1, none⟩ = some (.int .i64 0) := (b2.cell (p := ⟨w.heap.size, 1, none⟩) (by simp; omega)).trans (by simp [go_sem, *])
  have V1 : w2.cell? ⟨w.heap.size + 1, 1, none⟩ = some (.int .i64 U) := (b2.cell (p := ⟨w.heap.size + 1, 1, none⟩) (by simp; omega)).trans (by simp [go_sem, *])
  have F1 : w2.frozen? ⟨w.heap.size, 1, none⟩ = false := (b2.frozen (p := ⟨w.heap.size, 1, none⟩) (by simp; omega)).trans (by simp [go_sem, *])
  have R2 : w2.cell? ⟨w.heap.size, 2, none⟩ = some (.int .i64 0) := (b2.cell (p := ⟨w.heap.size, 2, none⟩) (by simp; omega)).trans (by simp [go_sem, *])
  have V2 : w2.cell? ⟨w.heap.size + 1, 2, none⟩ = some (.int .i64 V) := (b2.cell (p := ⟨w.heap.size + 1, 2, none⟩) (by simp; omega)).trans (by simp [go_sem, *])
  have F2 : w2.frozen? ⟨w.heap.size, 2, none⟩ = false := (b2.frozen (p := ⟨w.heap.size, 2, none⟩) (by simp; omega)).trans (by simp [go_sem, *])
  have R3 : w2.cell? ⟨w.heap.size, 3, none⟩ = some (.string ⟨#[]⟩) := (b2.cell (p := ⟨w.heap.size, 3, none⟩) (by simp; omega)).trans (by simp [go_sem, *])
  have V3 : w2.cell? ⟨w.heap.size + 1, 3, none⟩ = some (.string ⟨#[]⟩) := (b2.cell (p := ⟨w.heap.size + 1, 3, none⟩) (by simp; omega)).trans (by simp [go_sem, *])
  have F3 : w2.frozen? ⟨w.heap.size, 3, none⟩ = false := (b2.frozen (p := ⟨w.heap.size, 3, none⟩) (by simp; omega)).trans (by simp [go_sem, *])
  have B2 : Below w.heap.size w w2 := by (refine Below.trans ?_ (Below.mono b2 (by simp; omega)); repeat (first | with_reducible exact B1 | with_reducible refine bl_set ?_ _ | with_reducible refine Below.drew ?_ | with_reducible refine Below.alloc ?_ (by simp; omega) _ | with_reducible refine bl_set2 ?_ (by omega) _))
  have lt2 : w.heap.size < w2.heap.size := by have := b2.size; simp at this; omega
  clear b2 B1 hs1 r0 r1 r2 r3 v0 v1 v2 v3 fr0 fr1 fr2 fr3 fv0 fv1 fv2 fv3 ltr ltv
  go_wp2
  refine bodyPost_ret_by (v := .tuple #[va  2  U  V ⟨#[]⟩, .int .i64 0]) ?_ rfl ⟨rfl, ?_⟩
  · simp [results, Tryz.results36, go_sem, R0, R1, R2, R3]
  · repeat (first | with_reducible exact B2 | with_reducible refine bl_set ?_ _)

set_option maxRecDepth 20000 in
set_option maxHeartbeats 4000000 in
theorem rpD1 (t q : List UInt8) (S : ByteArray) (c0 cl : UInt8) (U V E : Int) (w : World) (hS : S.size = t.length) (hq : (q == S.toList) = true) (h1 : 1 ≤ t.length) (ht : t.length ≤ 4096)
    (n0 : S.toList.isEmpty = false) (_n1 : (S.toList == [110, 117, 108, 108]) = false) (n2 : (S.toList == [116, 114, 117, 101]) = false) (n3 : (S.toList == [102, 97, 108, 115, 101]) = false)
    (_hg0 : ∀ h, S[0]'h = c0) (_hgl : ∀ h, S[t.length - 1]'h = cl) (h2 : ¬ 2 ≤ t.length) (hV : ¬ (0 : Int) < V) (D : ∀ W, Calls Tryz.prog 45 #[.string S] W fun e w' => e = .returned (.tuple #[dv U V, .int .i64 E]) ∧ Below W.heap.size W w')
    (P : ∀ W, Calls Tryz.prog 46 #[va  1  U  0 ⟨#[]⟩] W fun e w' => e = .returned (.string ⟨q.toArray⟩) ∧ Below W.heap.size W w') :
    Calls Tryz.prog 36 #[.string S] w fun e w' => e = .returned (.tuple #[va  1  U  0 ⟨#[]⟩, .int .i64 0]) ∧ Below w.heap.size w w' := by
  have h1' : (1 : Int) ≤ (t.length : Int) := by omega
  have ht' : (t.length : Int) ≤ 4096 := by omega
  have Z0 : Cbox ((w.alloc (.cells #[.int .i64 0, .int .i64 0, .int .i64 0, .string ⟨#[]⟩] 36)).alloc (.cells #[.int .i64 0, .int .i64 0, .int .i64 0, .string ⟨#[]⟩] 36)) w.heap.size #[.int .i64 0, .int .i64 0, .int .i64 0, .string ⟨#[]⟩] 36 := (Cbox.new w _ _).later ((Below.refl _ _).alloc (Nat.le_refl _) _)
  have Z1 : Cbox ((w.alloc (.cells #[.int .i64 0, .int .i64 0, .int .i64 0, .string ⟨#[]⟩] 36)).alloc (.cells #[.int .i64 0, .int .i64 0, .int .i64 0, .string ⟨#[]⟩] 36)) (w.heap.size + 1) #[.int .i64 0, .int .i64 0, .int .i64 0, .string ⟨#[]⟩] 36 := by
    have := Cbox.new (w.alloc (.cells #[.int .i64 0, .int .i64 0, .int .i64 0, .string ⟨#[]⟩] 36)) #[.int .i64 0, .int .i64 0, .int .i64 0, .string ⟨#[]⟩] 36
    rwa [World.size_alloc] at this
  have h2' : ¬ (2 : Int) ≤ (t.length : Int) := by omega
  go_enter Tryz.func36, Tryz.ntmps36
  go_wp2_with (go_at_call 45; refine (D _).mono ?_; rintro e w1 ⟨rfl, b1⟩; have Zr : Cbox w1 w.heap.size #[.int .i64 0, .int .i64 0, .int .i64 0, .string ⟨#[]⟩] 36 := Z0.later b1; have Zv : Cbox w1 (w.heap.size + 1) #[.int .i64 0, .int .i64 0, .int .i64 0, .string ⟨#[]⟩] 36 := Z1.later b1; have r0 := Zr.at 0; have v0 := Zv.at 0; have fr0 := Zr.free 0; have fv0 := Zv.free 0; have r1 := Zr.at 1; have v1 := Zv.at 1; have fr1 := Zr.free 1; have fv1 := Zv.free 1; have r2 := Zr.at 2; have v2 := Zv.at 2; have fr2 := Zr.free 2; have fv2 := Zv.free 2; have r3 := Zr.at 3; have v3 := Zv.at 3; have fr3 := Zr.free 3; have fv3 := Zv.free 3; have ltr := Zr.lt; have ltv := Zv.lt; have B1 : Below w.heap.size w w1 := (((Below.refl _ w).alloc (Nat.le_refl _) _).alloc (by simp) _).trans (b1.mono (by simp; omega)); have hs1 := B1.size; clear Zr Zv)
  refine (P _).mono ?_
  rintro e w2 ⟨rfl, b2⟩
  have R0 : w2.cell? ⟨w.heap.size, 0, none⟩ = some (.int .i64 0) := (b2.cell (p := ⟨w.heap.size, 0, none⟩) (by simp; omega)).trans (by simp [go_sem, *])
  have V0 : w2.cell? ⟨w.heap.size + 1, 0, none⟩ = some (.int .i64 1) := (b2.cell (p := ⟨w.heap.size + 1, 0, none⟩) (by simp; omega)).trans (by simp [go_sem, *])
  have F0 : w2.frozen? ⟨w.heap.size, 0, none⟩ = false := (b2.frozen (p := ⟨w.heap.size, 0, none⟩) (by simp; omega)).trans (by simp [go_sem, *])
  have R1 : w2.cell? ⟨w.heap.size, 1, none⟩ = some (.int .i64 0) := (b2.cell (p := ⟨w.heap.size, 1, none⟩) (by simp; omega)).trans (by simp [go_sem, *])
  have V1 : w2.cell? ⟨w.heap.size + 1, 1, none⟩ = some (.int .i64 U) := (b2.cell (p := ⟨w.heap.size + 1, 1, none⟩) (by simp; omega)).trans (by simp [go_sem, *])
  have F1 : w2.frozen? ⟨w.heap.size, 1, none⟩ = false := (b2.frozen (p := ⟨w.heap.size, 1, none⟩) (by simp; omega)).trans (by simp [go_sem, *])
  have R2 : w2.cell? ⟨w.heap.size, 2, none⟩ = some (.int .i64 0) := (b2.cell (p := ⟨w.heap.size, 2, none⟩) (by simp; omega)).trans (by simp [go_sem, *])
  have V2 : w2.cell? ⟨w.heap.size + 1, 2, none⟩ = some (.int .i64 0) := (b2.cell (p := ⟨w.heap.size + 1, 2, none⟩) (by simp; omega)).trans (by simp [go_sem, *])
  have F2 : w2.frozen? ⟨w.heap.size, 2, none⟩ = false := (b2.frozen (p := ⟨w.heap.size, 2, none⟩) (by simp; omega)).trans (by simp [go_sem, *])
  have R3 : w2.cell? ⟨w.heap.size, 3, none⟩ = some (.string ⟨#[]⟩) := (b2.cell (p := ⟨w.heap.size, 3, none⟩) (by simp; omega)).trans (by simp [go_sem, *])
  have V3 : w2.cell? ⟨w.heap.size + 1, 3, none⟩ = some (.string ⟨#[]⟩) := (b2.cell (p := ⟨w.heap.size + 1, 3, none⟩) (by simp; omega)).trans (by simp [go_sem, *])
  have F3 : w2.frozen? ⟨w.heap.size, 3, none⟩ = false := (b2.frozen (p := ⟨w.heap.size, 3, none⟩) (by simp; omega)).trans (by simp [go_sem, *])
  have B2 : Below w.heap.size w w2 := by (refine Below.trans ?_ (Below.mono b2 (by simp; omega)); repeat (first | with_reducible exact B1 | with_reducible refine bl_set ?_ _ | with_reducible refine Below.drew ?_ | with_reducible refine Below.alloc ?_ (by simp; omega) _ | with_reducible refine bl_set2 ?_ (by omega) _))
  have lt2 : w.heap.size < w2.heap.size := by have := b2.size; simp at this; omega
  clear b2 B1 hs1 r0 r1 r2 r3 v0 v1 v2 v3 fr0 fr1 fr2 fr3 fv0 fv1 fv2 fv3 ltr ltv
  go_wp2
  refine bodyPost_ret_by (v := .tuple #[va  1  U  0 ⟨#[]⟩, .int .i64 0]) ?_ rfl ⟨rfl, ?_⟩
  · simp [results, Tryz.results36, go_sem, R0, R1, R2, R3]
  · repeat (first | with_reducible exact B2 | with_reducible refine bl_set ?_ _)

set_option maxRecDepth 20000 in
set_option maxHeartbeats 4000000 in
theorem rpB (t q : List UInt8) (S : ByteArray) (c0 cl : UInt8) (U V E : Int) (S1 : ByteArray) (w : World) (hS : S.size = t.length) (hq : (q == S.toList) = true) (h1 : 1 ≤ t.length) (ht : t.length ≤ 4096)
    (n0 : S.toList.isEmpty = false) (_n1 : (S.toList == [110, 117, 108, 108]) = false) (n2 : (S.toList == [116, 114, 117, 101]) = false) (n3 : (S.toList == [102, 97, 108, 115, 101]) = false)
    (_hg0 : ∀ h, S[0]'h = c0) (_hgl : ∀ h, S[t.length - 1]'h = cl) (h39 : ((c0.toNat : Int) == 39) = false) (h60 : ((c0.toNat : Int) == 60) = false) (h46 : ((cl.toNat : Int) == 46) = true) (h2 : 2 ≤ t.length) (hx : S.extract 0 (t.length - 1) = S1) (D : ∀ W, Calls Tryz.prog 45 #[.string S1] W fun e w' => e = .returned (.tuple #[dv U V, .int .i64 E]) ∧ Below W.heap.size W w')
    (P : ∀ W, Calls Tryz.prog 46 #[va  2  U  V ⟨#[]⟩] W fun e w' => e = .returned (.string ⟨q.toArray⟩) ∧ Below W.heap.size W w') :
    Calls Tryz.prog 36 #[.string S] w fun e w' => e = .returned (.tuple #[va  2  U  V ⟨#[]⟩, .int .i64 0]) ∧ Below w.heap.size w w' := by
  have h1' : (1 : Int) ≤ (t.length : Int) := by omega
  have ht' : (t.length : Int) ≤ 4096 := by omega
  have Z0 : Cbox ((w.alloc (.cells #[.int .i64 0, .int .i64 0, .int .i64 0, .string ⟨#[]⟩] 36)).alloc (.cells #[.int .i64 0, .int .i64 0, .int .i64 0, .string ⟨#[]⟩] 36)) w.heap.size #[.int .i64 0, .int .i64 0, .int .i64 0, .string ⟨#[]⟩] 36 := (Cbox.new w _ _).later ((Below.refl _ _).alloc (Nat.le_refl _) _)
  have Z1 : Cbox ((w.alloc (.cells #[.int .i64 0, .int .i64 0, .int .i64 0, .string ⟨#[]⟩] 36)).alloc (.cells #[.int .i64 0, .int .i64 0, .int .i64 0, .string ⟨#[]⟩] 36)) (w.heap.size + 1) #[.int .i64 0, .int .i64 0, .int .i64 0, .string ⟨#[]⟩] 36 := by
    have := Cbox.new (w.alloc (.cells #[.int .i64 0, .int .i64 0, .int .i64 0, .string ⟨#[]⟩] 36)) #[.int .i64 0, .int .i64 0, .int .i64 0, .string ⟨#[]⟩] 36
    rwa [World.size_alloc] at this
  have h2' : (2 : Int) ≤ (t.length : Int) := by omega
  have h3 : ((t.length : Int) - 1).toNat = t.length - 1 := by omega
  have h4 : (0 : Int) ≤ (t.length : Int) - 1 := by omega
  have h5 : (t.length : Int) - 1 ≤ (t.length : Int) := by omega
  go_enter Tryz.func36, Tryz.ntmps36
  go_wp2_with (go_at_call 45; refine (D _).mono ?_; rintro e w1 ⟨rfl, b1⟩; have Zr : Cbox w1 w.heap.size #[.int .i64 0, .int .i64 0, .int .i64 0, .string ⟨#[]⟩] 36 := Z0.later b1; have Zv : Cbox w1 (w.heap.size + 1) #[.int .i64 0, .int .i64 0, .int .i64 0, .string ⟨#[]⟩] 36 := Z1.later b1; have r0 := Zr.at 0; have v0 := Zv.at 0; have fr0 := Zr.free 0; have fv0 := Zv.free 0; have r1 := Zr.at 1; have v1 := Zv.at 1; have fr1 := Zr.free 1; have fv1 := Zv.free 1; have r2 := Zr.at 2; have v2 := Zv.at 2; have fr2 := Zr.free 2; have fv2 := Zv.free 2; have r3 := Zr.at 3; have v3 := Zv.at 3; have fr3 := Zr.free 3; have fv3 := Zv.free 3; have ltr := Zr.lt; have ltv := Zv.lt; have B1 : Below w.heap.size w w1 := (((Below.refl _ w).alloc (Nat.le_refl _) _).alloc (by simp) _).trans (b1.mono (by simp; omega)); have hs1 := B1.size; clear Zr Zv)
  refine (P _).mono ?_
  rintro e w2 ⟨rfl, b2⟩
  have R0 : w2.cell? ⟨w.heap.size, 0, none⟩ = some (.int .i64 0) := (b2.cell (p := ⟨w.heap.size, 0, none⟩) (by simp; omega)).trans (by simp [go_sem, *])
  have V0 : w2.cell? ⟨w.heap.size + 1, 0, none⟩ = some (.int .i64 2) := (b2.cell (p := ⟨w.heap.size + 1, 0, none⟩) (by simp; omega)).trans (by simp [go_sem, *])
  have F0 : w2.frozen? ⟨w.heap.size, 0, none⟩ = false := (b2.frozen (p := ⟨w.heap.size, 0, none⟩) (by simp; omega)).trans (by simp [go_sem, *])
  have R1 : w2.cell? ⟨w.heap.size, 1, none⟩ = some (.int .i64 0) := (b2.cell (p := ⟨w.heap.size, 1, none⟩) (by simp; omega)).trans (by simp [go_sem, *])
  have V1 : w2.cell? ⟨w.heap.size + 1, 1, none⟩ = some (.int .i64 U) := (b2.cell (p := ⟨w.heap.size + 1, 1, none⟩) (by simp; omega)).trans (by simp [go_sem, *])
  have F1 : w2.frozen? ⟨w.heap.size, 1, none⟩ = false := (b2.frozen (p := ⟨w.heap.size, 1, none⟩) (by simp; omega)).trans (by simp [go_sem, *])
  have R2 : w2.cell? ⟨w.heap.size, 2, none⟩ = some (.int .i64 0) := (b2.cell (p := ⟨w.heap.size, 2, none⟩) (by simp; omega)).trans (by simp [go_sem, *])
  have V2 : w2.cell? ⟨w.heap.size + 1, 2, none⟩ = some (.int .i64 V) := (b2.cell (p := ⟨w.heap.size + 1, 2, none⟩) (by simp; omega)).trans (by simp [go_sem, *])
  have F2 : w2.frozen? ⟨w.heap.size, 2, none⟩ = false := (b2.frozen (p := ⟨w.heap.size, 2, none⟩) (by simp; omega)).trans (by simp [go_sem, *])
  have R3 : w2.cell? ⟨w.heap.size, 3, none⟩ = some (.string ⟨#[]⟩) := (b2.cell (p := ⟨w.heap.size, 3, none⟩) (by simp; omega)).trans (by simp [go_sem, *])
  have V3 : w2.cell? ⟨w.heap.size + 1, 3, none⟩ = some (.string ⟨#[]⟩) := (b2.cell (p := ⟨w.heap.size + 1, 3, none⟩) (by simp; omega)).trans (by simp [go_sem, *])
  have F3 : w2.frozen? ⟨w.heap.size, 3, none⟩ = false := (b2.frozen (p := ⟨w.heap.size, 3, none⟩) (by simp; omega)).trans (by simp [go_sem, *])
  have B2 : Below w.heap.size w w2 := by (refine Below.trans ?_ (Below.mono b2 (by simp; omega)); repeat (first | with_reducible exact B1 | with_reducible refine bl_set ?_ _ | with_reducible refine Below.drew ?_ | with_reducible refine Below.alloc ?_ (by simp; omega) _ | with_reducible refine bl_set2 ?_ (by omega) _))
  have lt2 : w.heap.size < w2.heap.size := by have := b2.size; simp at this; omega
  clear b2 B1 hs1 r0 r1 r2 r3 v0 v1 v2 v3 fr0 fr1 fr2 fr3 fv0 fv1 fv2 fv3 ltr ltv
  go_wp2
  refine bodyPost_ret_by (v := .tuple #[va  2  U  V ⟨#[]⟩, .int .i64 0]) ?_ rfl ⟨rfl, ?_⟩
  · simp [results, Tryz.results36, go_sem, R0, R1, R2, R3]
  · repeat (first | with_reducible exact B2 | with_reducible refine bl_set ?_ _)

set_option maxRecDepth 20000 in
set_option maxHeartbeats 4000000 in
theorem rpA (t q : List UInt8) (S : ByteArray) (c0 cl : UInt8) (b : ByteArray) (w : World) (hS : S.size = t.length) (hq : (q == S.toList) = true) (h1 : 1 ≤ t.length) (ht : t.length ≤ 4096)
    (n0 : S.toList.isEmpty = false) (_n1 : (S.toList == [110, 117, 108, 108]) = false) (n2 : (S.toList == [116, 114, 117, 101]) = false) (n3 : (S.toList == [102, 97, 108, 115, 101]) = false)
    (_hg0 : ∀ h, S[0]'h = c0) (_hgl : ∀ h, S[t.length - 1]'h = cl) (h39 : ((c0.toNat : Int) == 39) = true) (h2 : 2 ≤ t.length) (Q : ∀ W, Calls Tryz.prog 43 #[.string S] W fun e w' => e = .returned (.string b) ∧ Below W.heap.size W w')
    (P : ∀ W, Calls Tryz.prog 46 #[va  3  0  0 b] W fun e w' => e = .returned (.string ⟨q.toArray⟩) ∧ Below W.heap.size W w') :
    Calls Tryz.prog 36 #[.string S] w fun e w' => e = .returned (.tuple #[va  3  0  0 b, .int .i64 0]) ∧ Below w.heap.size w w' := by
  have h1' : (1 : Int) ≤ (t.length : Int) := by omega
  have ht' : (t.length : Int) ≤ 4096 := by omega
  have Z0 : Cbox ((w.alloc (.cells #[.int .i64 0, .int .i64 0, .int .i64 0, .string ⟨#[]⟩] 36)).alloc (.cells #[.int .i64 0, .int .i64 0, .int .i64 0, .string ⟨#[]⟩] 36)) w.heap.size #[.int .i64 0, .int .i64 0, .int .i64 0, .string ⟨#[]⟩] 36 := (Cbox.new w _ _).later ((Below.refl _ _).alloc (Nat.le_refl _) _)
  have Z1 : Cbox ((w.alloc (.cells #[.int .i64 0, .int .i64 0, .int .i64 0, .string ⟨#[]⟩] 36)).alloc (.cells #[.int .i64 0, .int .i64 0, .int .i64 0, .string ⟨#[]⟩] 36)) (w.heap.size + 1) #[.int .i64 0, .int .i64 0, .int .i64 0, .string ⟨#[]⟩] 36 := by
    have := Cbox.new (w.alloc (.cells #[.int .i64 0, .int .i64 0, .int .i64 0, .string ⟨#[]⟩] 36)) #[.int .i64 0, .int .i64 0, .int .i64 0, .string ⟨#[]⟩] 36
    rwa [World.size_alloc] at this
  have h2' : (2 : Int) ≤ (t.length : Int) := by omega
  have h3 : ((t.length : Int) - 1).toNat = t.length - 1 := by omega
  have h4 : (0 : Int) ≤ (t.length : Int) - 1 := by omega
  go_enter Tryz.func36, Tryz.ntmps36
  go_wp2_with (go_at_call 43; refine (Q _).mono ?_; rintro e w1 ⟨rfl, b1⟩; have Zr : Cbox w1 w.heap.size #[.int .i64 0, .int .i64 0, .int .i64 0, .string ⟨#[]⟩] 36 := Z0.later b1; have Zv : Cbox w1 (w.heap.size + 1) #[.int .i64 0, .int .i64 0, .int .i64 0, .string ⟨#[]⟩] 36 := Z1.later b1; have r0 := Zr.at 0; have v0 := Zv.at 0; have fr0 := Zr.free 0; have fv0 := Zv.free 0; have r1 := Zr.at 1; have v1 := Zv.at 1; have fr1 := Zr.free 1; have fv1 := Zv.free 1; have r2 := Zr.at 2; have v2 := Zv.at 2; have fr2 := Zr.free 2; have fv2 := Zv.free 2; have r3 := Zr.at 3; have v3 := Zv.at 3; have fr3 := Zr.free 3; have fv3 := Zv.free 3; have ltr := Zr.lt; have ltv := Zv.lt; have B1 : Below w.heap.size w w1 := (((Below.refl _ w).alloc (Nat.le_refl _) _).alloc (by simp) _).trans (b1.mono (by simp; omega)); have hs1 := B1.size; clear Zr Zv)
  refine (P _).mono ?_
  rintro e w2 ⟨rfl, b2⟩
  have R0 : w2.cell? ⟨w.heap.size, 0, none⟩ = some (.int .i64 0) := (b2.cell (p := ⟨w.heap.size, 0, none⟩) (by simp; omega)).trans (by simp [go_sem, *])
  have V0 : w2.cell? ⟨w.heap.size + 1, 0, none⟩ = some (.int .i64 3) := (b2.cell (p := ⟨w.heap.size + 1, 0, none⟩) (by simp; omega)).trans (by simp [go_sem, *])
  have F0 : w2.frozen? ⟨w.heap.size, 0, none⟩ = false := (b2.frozen (p := ⟨w.heap.size, 0, none⟩) (by simp; omega)).trans (by simp [go_sem, *])
  have R1 : w2.cell? ⟨w.heap.size, 1, none⟩ = some (.int .i64 0) := (b2.cell (p := ⟨w.heap.size, 1, none⟩) (by simp; omega)).trans (by simp [go_sem, *])
  have V1 : w2.cell? ⟨w.heap.size + 1, 1, none⟩ = some (.int .i64 0) := (b2.cell (p := ⟨w.heap.size + 1, 1, none⟩) (by simp; omega)).trans (by simp [go_sem, *])
  have F1 : w2.frozen? ⟨w.heap.size, 1, none⟩ = false := (b2.frozen (p := ⟨w.heap.size, 1, none⟩) (by simp; omega)).trans (by simp [go_sem, *])
  have R2 : w2.cell? ⟨w.heap.size, 2, none⟩ = some (.int .i64 0) := (b2.cell (p := ⟨w.heap.size, 2, none⟩) (by simp; omega)).trans (by simp [go_sem, *])
  have V2 : w2.cell? ⟨w.heap.size + 1, 2, none⟩ = some (.int .i64 0) := (b2.cell (p := ⟨w.heap.size + 1, 2, none⟩) (by simp; omega)).trans (by simp [go_sem, *])
  have F2 : w2.frozen? ⟨w.heap.size, 2, none⟩ = false := (b2.frozen (p := ⟨w.heap.size, 2, none⟩) (by simp; omega)).trans (by simp [go_sem, *])
  have R3 : w2.cell? ⟨w.heap.size, 3, none⟩ = some (.string ⟨#[]⟩) := (b2.cell (p := ⟨w.heap.size, 3, none⟩) (by simp; omega)).trans (by simp [go_sem, *])
  have V3 : w2.cell? ⟨w.heap.size + 1, 3, none⟩ = some (.string b) := (b2.cell (p := ⟨w.heap.size + 1, 3, none⟩) (by simp; omega)).trans (by simp [go_sem, *])
  have F3 : w2.frozen? ⟨w.heap.size, 3, none⟩ = false := (b2.frozen (p := ⟨w.heap.size, 3, none⟩) (by simp; omega)).trans (by simp [go_sem, *])
  have B2 : Below w.heap.size w w2 := by (refine Below.trans ?_ (Below.mono b2 (by simp; omega)); repeat (first | with_reducible exact B1 | with_reducible refine bl_set ?_ _ | with_reducible refine Below.drew ?_ | with_reducible refine Below.alloc ?_ (by simp; omega) _ | with_reducible refine bl_set2 ?_ (by omega) _))
  have lt2 : w.heap.size < w2.heap.size := by have := b2.size; simp at this; omega
  clear b2 B1 hs1 r0 r1 r2 r3 v0 v1 v2 v3 fr0 fr1 fr2 fr3 fv0 fv1 fv2 fv3 ltr ltv
  go_wp2
  refine bodyPost_ret_by (v := .tuple #[va  3  0  0 b, .int .i64 0]) ?_ rfl ⟨rfl, ?_⟩
  · simp [results, Tryz.results36, go_sem, R0, R1, R2, R3]
  · repeat (first | with_reducible exact B2 | with_reducible refine bl_set ?_ _)

set_option maxRecDepth 20000 in
set_option maxHeartbeats 4000000 in
theorem rpC1n (t q : List UInt8) (S : ByteArray) (c0 cl : UInt8) (U V E : Int) (w : World) (hS : S.size = t.length) (hq : (q == S.toList) = false) (h1 : 1 ≤ t.length) (ht : t.length ≤ 4096)
    (n0 : S.toList.isEmpty = false) (_n1 : (S.toList == [110, 117, 108, 108]) = false) (n2 : (S.toList == [116, 114, 117, 101]) = false) (n3 : (S.toList == [102, 97, 108, 115, 101]) = false)
    (_hg0 : ∀ h, S[0]'h = c0) (_hgl : ∀ h, S[t.length - 1]'h = cl) (h39 : ((c0.toNat : Int) == 39) = false) (h60 : ((c0.toNat : Int) == 60) = false) (h46 : ((cl.toNat : Int) == 46) = false) (h2 : 2 ≤ t.length) (hV : ¬ (0 : Int) < V) (D : ∀ W, Calls Tryz.prog 45 #[.string S] W fun e w' => e = .returned (.tuple #[dv U V, .int .i64 E]) ∧ Below W.heap.size W w')
    (P : ∀ W, Calls Tryz.prog 46 #[va  1  U  0 ⟨#[]⟩] W fun e w' => e = .returned (.string ⟨q.toArray⟩) ∧ Below W.heap.size W w') :
    Calls Tryz.prog 36 #[.string S] w fun e w' => e = .returned (.tuple #[va 0 0 0 ⟨#[]⟩, .int .i64 21]) ∧ Below w.heap.size w w' := by
  have h1' : (1 : Int) ≤ (t.length : Int) := by omega
  have ht' : (t.length : Int) ≤ 4096 := by omega
  have Z0 : Cbox ((w.alloc (.cells #[.int .i64 0, .int .i64 0, .int .i64 0, .string ⟨#[]⟩] 36)).alloc (.cells #[.int .i64 0, .int .i64 0, .int .i64 0, .string ⟨#[]⟩] 36)) w.heap.size #[.int .i64 0, .int .i64 0, .int .i64 0, .string ⟨#[]⟩] 36 := (Cbox.new w _ _).later ((Below.refl _ _).alloc (Nat.le_refl _) _)
  have Z1 : Cbox ((w.alloc (.cells #[.int .i64 0, .int .i64 0, .int .i64 0, .string ⟨#[]⟩] 36)).alloc (.cells #[.int .i64 0, .int .i64 0, .int .i64 0, .string ⟨#[]⟩] 36)) (w.heap.size + 1) #[.int .i64 0, .int .i64 0, .int .i64 0, .string ⟨#[]⟩] 36 := by
    have := Cbox.new (w.alloc (.cells #[.int .i64 0, .int .i64 0, .int .i64 0, .string ⟨#[]⟩] 36)) #[.int .i64 0, .int .i64 0, .int .i64 0, .string ⟨#[]⟩] 36
    rwa [World.size_alloc] at this
  have h2' : (2 : Int) ≤ (t.length : Int) := by omega
  have h3 : ((t.length : Int) - 1).toNat = t.length - 1 := by omega
  have h4 : (0 : Int) ≤ (t.length : Int) - 1 := by omega
  go_enter Tryz.func36, Tryz.ntmps36
  go_wp2_with (go_at_call 45; refine (D _).mono ?_; rintro e w1 ⟨rfl, b1⟩; have Zr : Cbox w1 w.heap.size #[.int .i64 0, .int .i64 0, .int .i64 0, .string ⟨#[]⟩] 36 := Z0.later b1; have Zv : Cbox w1 (w.heap.size + 1) #[.int .i64 0, .int .i64 0, .int .i64 0, .string ⟨#[]⟩] 36 := Z1.later b1; have r0 := Zr.at 0; have v0 := Zv.at 0; have fr0 := Zr.free 0; have fv0 := Zv.free 0; have r1 := Zr.at 1; have v1 := Zv.at 1; have fr1 := Zr.free 1; have fv1 := Zv.free 1; have r2 := Zr.at 2; have v2 := Zv.at 2; have fr2 := Zr.free 2; have fv2 := Zv.free 2; have r3 := Zr.at 3; have v3 := Zv.at 3; have fr3 := Zr.free 3; have fv3 := Zv.free 3; have ltr := Zr.lt; have ltv := Zv.lt; have B1 : Below w.heap.size w w1 := (((Below.refl _ w).alloc (Nat.le_refl _) _).alloc (by simp) _).trans (b1.mono (by simp; omega)); have hs1 := B1.size; clear Zr Zv)
  refine (P _).mono ?_
  rintro e w2 ⟨rfl, b2⟩
  have R0 : w2.cell? ⟨w.heap.size, 0, none⟩ = some (.int .i64 0) := (b2.cell (p := ⟨w.heap.size, 0, none⟩) (by simp; omega)).trans (by simp [go_sem, *])
  have V0 : w2.cell? ⟨w.heap.size + 1, 0, none⟩ = some (.int .i64 1) := (b2.cell (p := ⟨w.heap.size + 1, 0, none⟩) (by simp; omega)).trans (by simp [go_sem, *])
  have F0 : w2.frozen? ⟨w.heap.size, 0, none⟩ = false := (b2.frozen (p := ⟨w.heap.size, 0, none⟩) (by simp; omega)).trans (by simp [go_sem, *])
  have R1 : w2.cell? ⟨w.heap.size, 1, none⟩ = some (.int .i64 0) := (b2.cell (p := ⟨w.heap.size, 1, none⟩) (by simp; omega)).trans (by simp [go_sem, *])
  have V1 : w2.cell? ⟨w.heap.size + 1, 1, none⟩ = some (.int .i64 U) := (b2.cell (p := ⟨w.heap.size + 1, 1, none⟩) (by simp; omega)).trans (by simp [go_sem, *])
  have F1 : w2.frozen? ⟨w.heap.size, 1, none⟩ = false := (b2.frozen (p := ⟨w.heap.size, 1, none⟩) (by simp; omega)).trans (by simp [go_sem, *])
  have R2 : w2.cell? ⟨w.heap.size, 2, none⟩ = some (.int .i64 0) := (b2.cell (p := ⟨w.heap.size, 2, none⟩) (by simp; omega)).trans (by simp [go_sem, *])
  have V2 : w2.cell? ⟨w.heap.size + 1, 2, none⟩ = some (.int .i64 0) := (b2.cell (p := ⟨w.heap.size + 1, 2, none⟩) (by simp; omega)).trans (by simp [go_sem, *])
  have F2 : w2.frozen? ⟨w.heap.size, 2, none⟩ = false := (b2.frozen (p := ⟨w.heap.size, 2, none⟩) (by simp; omega)).trans (by simp [go_sem, *])
  have R3 : w2.cell? ⟨w.heap.size, 3, none⟩ = some (.string ⟨#[]⟩) := (b2.cell (p := ⟨w.heap.size, 3, none⟩) (by simp; omega)).trans (by simp [go_sem, *])
  have V3 : w2.cell? ⟨w.heap.size + 1, 3, none⟩ = some (.string ⟨#[]⟩) := (b2.cell (p := ⟨w.heap.size + 1, 3, none⟩) (by simp; omega)).trans (by simp [go_sem, *])
  have F3 : w2.frozen? ⟨w.heap.size, 3, none⟩ = false := (b2.frozen (p := ⟨w.heap.size, 3, none⟩) (by simp; omega)).trans (by simp [go_sem, *])
  have B2 : Below w.heap.size w w2 := by (refine Below.trans ?_ (Below.mono b2 (by simp; omega)); repeat (first | with_reducible exact B1 | with_reducible refine bl_set ?_ _ | with_reducible refine Below.drew ?_ | with_reducible refine Below.alloc ?_ (by simp; omega) _ | with_reducible refine bl_set2 ?_ (by omega) _))
  have lt2 : w.heap.size < w2.heap.size := by have := b2.size; simp at this; omega
  clear b2 B1 hs1 r0 r1 r2 r3 v0 v1 v2 v3 fr0 fr1 fr2 fr3 fv0 fv1 fv2 fv3 ltr ltv
  go_wp2
  refine bodyPost_ret_by (v := .tuple #[va 0 0 0 ⟨#[]⟩, .int .i64 21]) ?_ rfl ⟨rfl, ?_⟩
  · simp [results, Tryz.results36, go_sem, R0, R1, R2, R3]
  · repeat (first | with_reducible exact B2 | with_reducible refine bl_set ?_ _)

set_option maxRecDepth 20000 in
set_option maxHeartbeats 4000000 in
theorem rpC2n (t q : List UInt8) (S : ByteArray) (c0 cl : UInt8) (U V E : Int) (w : World) (hS : S.size = t.length) (hq : (q == S.toList) = false) (h1 : 1 ≤ t.length) (ht : t.length ≤ 4096)
    (n0 : S.toList.isEmpty = false) (_n1 : (S.toList == [110, 117, 108, 108]) = false) (n2 : (S.toList == [116, 114, 117, 101]) = false) (n3 : (S.toList == [102, 97, 108, 115, 101]) = false)
    (_hg0 : ∀ h, S[0]'h = c0) (_hgl : ∀ h, S[t.length - 1]'h = cl) (h39 : ((c0.toNat : Int) == 39) = false) (h60 : ((c0.toNat : Int) == 60) = false) (h46 : ((cl.toNat : Int) == 46) = false) (h2 : 2 ≤ t.length) (hV : (0 : Int) < V) (D : ∀ W, Calls Tryz.prog 45 #[.string S] W fun e w' => e = .returned (.tuple #[dv U V, .int .i64 E]) ∧ Below W.heap.size W w')
    (P : ∀ W, Calls Tryz.prog 46 #[va  2  U  V ⟨#[]⟩] W fun e w' => e = .returned (.string ⟨q.toArray⟩) ∧ Below W.heap.size W w') :
    Calls Tryz.prog 36 #[.string S] w fun e w' => e = .returned (.tuple #[va 0 0 0 ⟨#[]⟩, .int .i64 21]) ∧ Below w.heap.size w w' := by
  have h1' : (1 : Int) ≤ (t.length : Int) := by omega
  have ht' : (t.length : Int) ≤ 4096 := by omega
  have Z0 : Cbox ((w.alloc (.cells #[.int .i64 0, .int .i64 0, .int .i64 0, .string ⟨#[]⟩] 36)).alloc (.cells #[.int .i64 0, .int .i64 0, .int .i64 0, .string ⟨#[]⟩] 36)) w.heap.size #[.int .i64 0, .int .i64 0, .int .i64 0, .string ⟨#[]⟩] 36 := (Cbox.new w _ _).later ((Below.refl _ _).alloc (Nat.le_refl _) _)
  have Z1 : Cbox ((w.alloc (.cells #[.int .i64 0, .int .i64 0, .int .i64 0, .string ⟨#[]⟩] 36)).alloc (.cells #[.int .i64 0, .int .i64 0, .int .i64 0, .string ⟨#[]⟩] 36)) (w.heap.size + 1) #[.int .i64 0, .int .i64 0, .int .i64 0, .string ⟨#[]⟩] 36 := by
    have := Cbox.new (w.alloc (.cells #[.int .i64 0, .int .i64 0, .int .i64 0, .string ⟨#[]⟩] 36)) #[.int .i64 0, .int .i64 0, .int .i64 0, .string ⟨#[]⟩] 36
    rwa [World.size_alloc] at this
  have h2' : (2 : Int) ≤ (t.length : Int) := by omega
  have h3 : ((t.length : Int) - 1).toNat = t.length - 1 := by omega
  have h4 : (0 : Int) ≤ (t.length : Int) - 1 := by omega
  go_enter Tryz.func36, Tryz.ntmps36
  go_upto_region 18 with (go_at_call 45; refine (D _).mono ?_; rintro e w1 ⟨rfl, b1⟩; have Zr : Cbox w1 w.heap.size #[.int .i64 0, .int .i64 0, .int .i64 0, .string ⟨#[]⟩] 36 := Z0.later b1; have Zv : Cbox w1 (w.heap.size + 1) #[.int .i64 0, .int .i64 0, .int .i64 0, .string ⟨#[]⟩] 36 := Z1.later b1; have r0 := Zr.at 0; have v0 := Zv.at 0; have fr0 := Zr.free 0; have fv0 := Zv.free 0; have r1 := Zr.at 1; have v1 := Zv.at 1; have fr1 := Zr.free 1; have fv1 := Zv.free 1; have r2 := Zr.at 2; have v2 := Zv.at 2; have fr2 := Zr.free 2; have fv2 := Zv.free 2; have r3 := Zr.at 3; have v3 := Zv.at 3; have fr3 := Zr.free 3; have fv3 := Zv.free 3; have ltr := Zr.lt; have ltv := Zv.lt; have B1 : Below w.heap.size w w1 := (((Below.refl _ w).alloc (Nat.le_refl _) _).alloc (by simp) _).trans (b1.mono (by simp; omega)); have hs1 := B1.size; clear Zr Zv)
  obtain ⟨X, hX⟩ : ∃ X, X = ((((w1.setCell ⟨w.heap.size + 1, 0, none⟩ (.int .i64 1)).setCell ⟨w.heap.size + 1, 1, none⟩ (.int .i64 U)).setCell ⟨w.heap.size + 1, 2, none⟩ (.int .i64 0)).setCell ⟨w.heap.size + 1, 3, none⟩ (.string ⟨#[]⟩)).alloc (.cells #[.int .i64 U, .int .i64 V] 73) := ⟨_, rfl⟩
  have a0 : X.cell? ⟨w.heap.size, 0, none⟩ = some (.int .i64 0) := by rw [hX]; simp [go_sem, *]
  have e0 : X.cell? ⟨w.heap.size + 1, 0, none⟩ = some (.int .i64 1) := by rw [hX]; simp [go_sem, *]
  have fa0 : X.frozen? ⟨w.heap.size, 0, none⟩ = false := by rw [hX]; simp [go_sem, *]
  have fe0 : X.frozen? ⟨w.heap.size + 1, 0, none⟩ = false := by rw [hX]; simp [go_sem, *]
  have a1 : X.cell? ⟨w.heap.size, 1, none⟩ = some (.int .i64 0) := by rw [hX]; simp [go_sem, *]
  have e1 : X.cell? ⟨w.heap.size + 1, 1, none⟩ = some (.int .i64 U) := by rw [hX]; simp [go_sem, *]
  have fa1 : X.frozen? ⟨w.heap.size, 1, none⟩ = false := by rw [hX]; simp [go_sem, *]
  have fe1 : X.frozen? ⟨w.heap.size + 1, 1, none⟩ = false := by rw [hX]; simp [go_sem, *]
  have a2 : X.cell? ⟨w.heap.size, 2, none⟩ = some (.int .i64 0) := by rw [hX]; simp [go_sem, *]
  have e2 : X.cell? ⟨w.heap.size + 1, 2, none⟩ = some (.int .i64 0) := by rw [hX]; simp [go_sem, *]
  have fa2 : X.frozen? ⟨w.heap.size, 2, none⟩ = false := by rw [hX]; simp [go_sem, *]
  have fe2 : X.frozen? ⟨w.heap.size + 1, 2, none⟩ = false := by rw [hX]; simp [go_sem, *]
  have a3 : X.cell? ⟨w.heap.size, 3, none⟩ = some (.string ⟨#[]⟩) := by rw [hX]; simp [go_sem, *]
  have e3 : X.cell? ⟨w.heap.size + 1, 3, none⟩ = some (.string ⟨#[]⟩) := by rw [hX]; simp [go_sem, *]
  have fa3 : X.frozen? ⟨w.heap.size, 3, none⟩ = false := by rw [hX]; simp [go_sem, *]
  have fe3 : X.frozen? ⟨w.heap.size + 1, 3, none⟩ = false := by rw [hX]; simp [go_sem, *]
  have d0 : X.cell? ⟨w1.heap.size, 0, none⟩ = some (.int .i64 U) := by rw [hX]; simp [go_sem, *]
  have d1 : X.cell? ⟨w1.heap.size, 1, none⟩ = some (.int .i64 V) := by rw [hX]; simp [go_sem, *]
  have BX : Below w.heap.size w X := by (rw [hX]; repeat (first | with_reducible exact B1 | with_reducible refine bl_set ?_ _ | with_reducible refine Below.drew ?_ | with_reducible refine Below.alloc ?_ (by simp; omega) _ | with_reducible refine bl_set2 ?_ (by omega) _))
  have hsX : X.heap.size = w1.heap.size + 1 := by rw [hX]; simp
  have ltX : w.heap.size < X.heap.size := by omega
  have ltX2 : w.heap.size + 1 < X.heap.size := by omega
  show Code.wp _ _ _ _ (((((w1.setCell ⟨w.heap.size + 1, 0, none⟩ (.int .i64 1)).setCell ⟨w.heap.size + 1, 1, none⟩ (.int .i64 U)).setCell ⟨w.heap.size + 1, 2, none⟩ (.int .i64 0)).setCell ⟨w.heap.size + 1, 3, none⟩ (.string ⟨#[]⟩)).alloc (.cells #[.int .i64 U, .int .i64 V] 73))
  rw [← hX]
  clear hX r0 r1 r2 r3 v0 v1 v2 v3 fr0 fr1 fr2 fr3 fv0 fv1 fv2 fv3 B1 hs1
  have r0 := a0
  have r1 := a1
  have r2 := a2
  have r3 := a3
  have v0 := e0
  have v1 := e1
  have v2 := e2
  have v3 := e3
  have fr0 := fa0
  have fr1 := fa1
  have fr2 := fa2
  have fr3 := fa3
  have fv0 := fe0
  have fv1 := fe1
  have fv2 := fe2
  have fv3 := fe3
  have B1 := BX
  have hs1 := BX.size
  clear a0 a1 a2 a3 e0 e1 e2 e3 fa0 fa1 fa2 fa3 fe0 fe1 fe2 fe3 BX
  go_wp2_with fail
  refine (P _).mono ?_
  rintro e w2 ⟨rfl, b2⟩
  have R0 : w2.cell? ⟨w.heap.size, 0, none⟩ = some (.int .i64 0) := (b2.cell (p := ⟨w.heap.size, 0, none⟩) (by simp; omega)).trans (by simp [go_sem, *])
  have V0 : w2.cell? ⟨w.heap.size + 1, 0, none⟩ = some (.int .i64 2) := (b2.cell (p := ⟨w.heap.size + 1, 0, none⟩) (by simp; omega)).trans (by simp [go_sem, *])
  have F0 : w2.frozen? ⟨w.heap.size, 0, none⟩ = false := (b2.frozen (p := ⟨w.heap.size, 0, none⟩) (by simp; omega)).trans (by simp [go_sem, *])
  have R1 : w2.cell? ⟨w.heap.size, 1, none⟩ = some (.int .i64 0) := (b2.cell (p := ⟨w.heap.size, 1, none⟩) (by simp; omega)).trans (by simp [go_sem, *])
  have V1 : w2.cell? ⟨w.heap.size + 1, 1, none⟩ = some (.int .i64 U) := (b2.cell (p := ⟨w.heap.size + 1, 1, none⟩) (by simp; omega)).trans (by simp [go_sem, *])
  have F1 : w2.frozen? ⟨w.heap.size, 1, none⟩ = false := (b2.frozen (p := ⟨w.heap.size, 1, none⟩) (by simp; omega)).trans (by simp [go_sem, *])
  have R2 : w2.cell? ⟨w.heap.size, 2, none⟩ = some (.int .i64 0) := (b2.cell (p := ⟨w.heap.size, 2, none⟩) (by simp; omega)).trans (by simp [go_sem, *])
  have V2 : w2.cell? ⟨w.heap.size + 1, 2, none⟩ = some (.int .i64 V) := (b2.cell (p := ⟨w.heap.size + 1, 2, none⟩) (by simp; omega)).trans (by simp [go_sem, *])
  have F2 : w2.frozen? ⟨w.heap.size, 2, none⟩ = false := (b2.frozen (p := ⟨w.heap.size, 2, none⟩) (by simp; omega)).trans (by simp [go_sem, *])
  have R3 : w2.cell? ⟨w.heap.size, 3, none⟩ = some (.string ⟨#[]⟩) := (b2.cell (p := ⟨w.heap.size, 3, none⟩) (by simp; omega)).trans (by simp [go_sem, *])
  have V3 : w2.cell? ⟨w.heap.size + 1, 3, none⟩ = some (.string ⟨#[]⟩) := (b2.cell (p := ⟨w.heap.size + 1, 3, none⟩) (by simp; omega)).trans (by simp [go_sem, *])
  have F3 : w2.frozen? ⟨w.heap.size, 3, none⟩ = false := (b2.frozen (p := ⟨w.heap.size, 3, none⟩) (by simp; omega)).trans (by simp [go_sem, *])
  have B2 : Below w.heap.size w w2 := by (refine Below.trans ?_ (Below.mono b2 (by simp; omega)); repeat (first | with_reducible exact B1 | with_reducible refine bl_set ?_ _ | with_reducible refine Below.drew ?_ | with_reducible refine Below.alloc ?_ (by simp; omega) _ | with_reducible refine bl_set2 ?_ (by omega) _))
  have lt2 : w.heap.size < w2.heap.size := by have := b2.size; simp at this; omega
  clear b2 B1 hs1 r0 r1 r2 r3 v0 v1 v2 v3 fr0 fr1 fr2 fr3 fv0 fv1 fv2 fv3 ltr ltv
  go_wp2
  refine bodyPost_ret_by (v := .tuple #[va 0 0 0 ⟨#[]⟩, .int .i64 21]) ?_ rfl ⟨rfl, ?_⟩
  · simp [results, Tryz.results36, go_sem, R0, R1, R2, R3]
  · repeat (first | with_reducible exact B2 | with_reducible refine bl_set ?_ _)

set_option maxRecDepth 20000 in
set_option maxHeartbeats 4000000 in
theorem rpD1n (t q : List UInt8) (S : ByteArray) (c0 cl : UInt8) (U V E : Int) (w : World) (hS : S.size = t.length) (hq : (q == S.toList) = false) (h1 : 1 ≤ t.length) (ht : t.length ≤ 4096)
    (n0 : S.toList.isEmpty = false) (_n1 : (S.toList == [110, 117, 108, 108]) = false) (n2 : (S.toList == [116, 114, 117, 101]) = false) (n3 : (S.toList == [102, 97, 108, 115, 101]) = false)
    (_hg0 : ∀ h, S[0]'h = c0) (_hgl : ∀ h, S[t.length - 1]'h = cl) (h2 : ¬ 2 ≤ t.length) (hV : ¬ (0 : Int) < V) (D : ∀ W, Calls Tryz.prog 45 #[.string S] W fun e w' => e = .returned (.tuple #[dv U V, .int .i64 E]) ∧ Below W.heap.size W w')
    (P : ∀ W, Calls Tryz.prog 46 #[va  1  U  0 ⟨#[]⟩] W fun e w' => e = .returned (.string ⟨q.toArray⟩) ∧ Below W.heap.size W w') :
    Calls Tryz.prog 36 #[.string S] w fun e w' => e = .returned (.tuple #[va 0 0 0 ⟨#[]⟩, .int .i64 21]) ∧ Below w.heap.size w w' := by
  have h1' : (1 : Int) ≤ (t.length : Int) := by omega
  have ht' : (t.length : Int) ≤ 4096 := by omega
  have Z0 : Cbox ((w.alloc (.cells #[.int .i64 0, .int .i64 0, .int .i64 0, .string ⟨#[]⟩] 36)).alloc (.cells #[.int .i64 0, .int .i64 0, .int .i64 0, .string ⟨#[]⟩] 36)) w.heap.size #[.int .i64 0, .int .i64 0, .int .i64 0, .string ⟨#[]⟩] 36 := (Cbox.new w _ _).later ((Below.refl _ _).alloc (Nat.le_refl _) _)
  have Z1 : Cbox ((w.alloc (.cells #[.int .i64 0, .int .i64 0, .int .i64 0, .string ⟨#[]⟩] 36)).alloc (.cells #[.int .i64 0, .int .i64 0, .int .i64 0, .string ⟨#[]⟩] 36)) (w.heap.size + 1) #[.int .i64 0, .int .i64 0, .int .i64 0, .string ⟨#[]⟩] 36 := by
    have := Cbox.new (w.alloc (.cells #[.int .i64 0, .int .i64 0, .int .i64 0, .string ⟨#[]⟩] 36)) #[.int .i64 0, .int .i64 0, .int .i64 0, .string ⟨#[]⟩] 36
    rwa [World.size_alloc] at this
  have h2' : ¬ (2 : Int) ≤ (t.length : Int) := by omega
  go_enter Tryz.func36, Tryz.ntmps36
  go_wp2_with (go_at_call 45; refine (D _).mono ?_; rintro e w1 ⟨rfl, b1⟩; have Zr : Cbox w1 w.heap.size #[.int .i64 0, .int .i64 0, .int .i64 0, .string ⟨#[]⟩] 36 := Z0.later b1; have Zv : Cbox w1 (w.heap.size + 1) #[.int .i64 0, .int .i64 0, .int .i64 0, .string ⟨#[]⟩] 36 := Z1.later b1; have r0 := Zr.at 0; have v0 := Zv.at 0; have fr0 := Zr.free 0; have fv0 := Zv.free 0; have r1 := Zr.at 1; have v1 := Zv.at 1; have fr1 := Zr.free 1; have fv1 := Zv.free 1; have r2 := Zr.at 2; have v2 := Zv.at 2; have fr2 := Zr.free 2; have fv2 := Zv.free 2; have r3 := Zr.at 3; have v3 := Zv.at 3; have fr3 := Zr.free 3; have fv3 := Zv.free 3; have ltr := Zr.lt; have ltv := Zv.lt; have B1 : Below w.heap.size w w1 := (((Below.refl _ w).alloc (Nat.le_refl _) _).alloc (by simp) _).trans (b1.mono (by simp; omega)); have hs1 := B1.size; clear Zr Zv)
  refine (P _).mono ?_
  rintro e w2 ⟨rfl, b2⟩
  have R0 : w2.cell? ⟨w.heap.size, 0, none⟩ = some (.int .i64 0) := (b2.cell (p := ⟨w.heap.size, 0, none⟩) (by simp; omega)).trans (by simp [go_sem, *])
  have V0 : w2.cell? ⟨w.heap.size + 1, 0, none⟩ = some (.int .i64 1) := (b2.cell (p := ⟨w.heap.size + 1, 0, none⟩) (by simp; omega)).trans (by simp [go_sem, *])
  have F0 : w2.frozen? ⟨w.heap.size, 0, none⟩ = false := (b2.frozen (p := ⟨w.heap.size, 0, none⟩) (by simp; omega)).trans (by simp [go_sem, *])
  have R1 : w2.cell? ⟨w.heap.size, 1, none⟩ = some (.int .i64 0) := (b2.cell (p := ⟨w.heap.size, 1, none⟩) (by simp; omega)).trans (by simp [go_sem, *])
  have V1 : w2.cell? ⟨w.heap.size + 1, 1, none⟩ = some (.int .i64 U) := (b2.cell (p := ⟨w.heap.size + 1, 1, none⟩) (by simp; omega)).trans (by simp [go_sem, *])
  have F1 : w2.frozen? ⟨w.heap.size, 1, none⟩ = false := (b2.frozen (p := ⟨w.heap.size, 1, none⟩) (by simp; omega)).trans (by simp [go_sem, *])
  have R2 : w2.cell? ⟨w.heap.size, 2, none⟩ = some (.int .i64 0) := (b2.cell (p := ⟨w.heap.size, 2, none⟩) (by simp; omega)).trans (by simp [go_sem, *])
  have V2 : w2.cell? ⟨w.heap.size + 1, 2, none⟩ = some (.int .i64 0) := (b2.cell (p := ⟨w.heap.size + 1, 2, none⟩) (by simp; omega)).trans (by simp [go_sem, *])
  have F2 : w2.frozen? ⟨w.heap.size, 2, none⟩ = false := (b2.frozen (p := ⟨w.heap.size, 2, none⟩) (by simp; omega)).trans (by simp [go_sem, *])
  have R3 : w2.cell? ⟨w.heap.size, 3, none⟩ = some (.string ⟨#[]⟩) := (b2.cell (p := ⟨w.heap.size, 3, none⟩) (by simp; omega)).trans (by simp [go_sem, *])
  have V3 : w2.cell? ⟨w.heap.size + 1, 3, none⟩ = some (.string ⟨#[]⟩) := (b2.cell (p := ⟨w.heap.size + 1, 3, none⟩) (by simp; omega)).trans (by simp [go_sem, *])
  have F3 : w2.frozen? ⟨w.heap.size, 3, none⟩ = false := (b2.frozen (p := ⟨w.heap.size, 3, none⟩) (by simp; omega)).trans (by simp [go_sem, *])
  have B2 : Below w.heap.size w w2 := by (refine Below.trans ?_ (Below.mono b2 (by simp; omega)); repeat (first | with_reducible exact B1 | with_reducible refine bl_set ?_ _ | with_reducible refine Below.drew ?_ | with_reducible refine Below.alloc ?_ (by simp; omega) _ | with_reducible refine bl_set2 ?_ (by omega) _))
  have lt2 : w.heap.size < w2.heap.size := by have := b2.size; simp at this; omega
  clear b2 B1 hs1 r0 r1 r2 r3 v0 v1 v2 v3 fr0 fr1 fr2 fr3 fv0 fv1 fv2 fv3 ltr ltv
  go_wp2
  refine bodyPost_ret_by (v := .tuple #[va 0 0 0 ⟨#[]⟩, .int .i64 21]) ?_ rfl ⟨rfl, ?_⟩
  · simp [results, Tryz.results36, go_sem, R0, R1, R2, R3]
  · repeat (first | with_reducible exact B2 | with_reducible refine bl_set ?_ _)

set_option maxRecDepth 20000 in
set_option maxHeartbeats 4000000 in
theorem rpBn (t q : List UInt8) (S : ByteArray) (c0 cl : UInt8) (U V E : Int) (S1 : ByteArray) (w : World) (hS : S.size = t.length) (hq : (q == S.toList) = false) (h1 : 1 ≤ t.length) (ht : t.length ≤ 4096)
    (n0 : S.toList.isEmpty = false) (_n1 : (S.toList == [110, 117, 108, 108]) = false) (n2 : (S.toList == [116, 114, 117, 101]) = false) (n3 : (S.toList == [102, 97, 108, 115, 101]) = false)
    (_hg0 : ∀ h, S[0]'h = c0) (_hgl : ∀ h, S[t.length - 1]'h = cl) (h39 : ((c0.toNat : Int) == 39) = false) (h60 : ((c0.toNat : Int) == 60) = false) (h46 : ((cl.toNat : Int) == 46) = true) (h2 : 2 ≤ t.length) (hx : S.extract 0 (t.length - 1) = S1) (D : ∀ W, Calls Tryz.prog 45 #[.string S1] W fun e w' => e = .returned (.tuple #[dv U V, .int .i64 E]) ∧ Below W.heap.size W w')
    (P : ∀ W, Calls Tryz.prog 46 #[va  2  U  V ⟨#[]⟩] W fun e w' => e = .returned (.string ⟨q.toArray⟩) ∧ Below W.heap.size W w') :
    Calls Tryz.prog 36 #[.string S] w fun e w' => e = .returned (.tuple #[va 0 0 0 ⟨#[]⟩, .int .i64 21]) ∧ Below w.heap.size w w' := by
  have h1' : (1 : Int) ≤ (t.length : Int) := by omega
  have ht' : (t.length : Int) ≤ 4096 := by omega
  have Z0 : Cbox ((w.alloc (.cells #[.int .i64 0, .int .i64 0, .int .i64 0, .string ⟨#[]⟩] 36)).alloc (.cells #[.int .i64 0, .int .i64 0, .int .i64 0, .string ⟨#[]⟩] 36)) w.heap.size #[.int .i64 0, .int .i64 0, .int .i64 0, .string ⟨#[]⟩] 36 := (Cbox.new w _ _).later ((Below.refl _ _).alloc (Nat.le_refl _) _)
  have Z1 : Cbox ((w.alloc (.cells #[.int .i64 0, .int .i64 0, .int .i64 0, .string ⟨#[]⟩] 36)).alloc (.cells #[.int .i64 0, .int .i64 0, .int .i64 0, .string ⟨#[]⟩] 36)) (w.heap.size + 1) #[.int .i64 0, .int .i64 0, .int .i64 0, .string ⟨#[]⟩] 36 := by
    have := Cbox.new (w.alloc (.cells #[.int .i64 0, .int .i64 0, .int .i64 0, .string ⟨#[]⟩] 36)) #[.int .i64 0, .int .i64 0, .int .i64 0, .string ⟨#[]⟩] 36
    rwa [World.size_alloc] at this
  have h2' : (2 : Int) ≤ (t.length : Int) := by omega
  have h3 : ((t.length : Int) - 1).toNat = t.length - 1 := by omega
  have h4 : (0 : Int) ≤ (t.length : Int) - 1 := by omega
  have h5 : (t.length : Int) - 1 ≤ (t.length : Int) := by omega
  go_enter Tryz.func36, Tryz.ntmps36
  go_wp2_with (go_at_call 45; refine (D _).mono ?_; rintro e w1 ⟨rfl, b1⟩; have Zr : Cbox w1 w.heap.size #[.int .i64 0, .int .i64 0, .int .i64 0, .string ⟨#[]⟩] 36 := Z0.later b1; have Zv : Cbox w1 (w.heap.size + 1) #[.int .i64 0, .int .i64 0, .int .i64 0, .string ⟨#[]⟩] 36 := Z1.later b1; have r0 := Zr.at 0; have v0 := Zv.at 0; have fr0 := Zr.free 0; have fv0 := Zv.free 0; have r1 := Zr.at 1; have v1 := Zv.at 1; have fr1 := Zr.free 1; have fv1 := Zv.free 1; have r2 := Zr.at 2; have v2 := Zv.at 2; have fr2 := Zr.free 2; have fv2 := Zv.free 2; have r3 := Zr.at 3; have v3 := Zv.at 3; have fr3 := Zr.free 3; have fv3 := Zv.free 3; have ltr := Zr.lt; have ltv := Zv.lt; have B1 : Below w.heap.size w w1 := (((Below.refl _ w).alloc (Nat.le_refl _) _).alloc (by simp) _).trans (b1.mono (by simp; omega)); have hs1 := B1.size; clear Zr Zv)
  refine (P _).mono ?_
  rintro e w2 ⟨rfl, b2⟩
  have R0 : w2.cell? ⟨w.heap.size, 0, none⟩ = some (.int .i64 0) := (b2.cell (p := ⟨w.heap.size, 0, none⟩) (by simp; omega)).trans (by simp [go_sem, *])
  have V0 : w2.cell? ⟨w.heap.size + 1, 0, none⟩ = some (.int .i64 2) := (b2.cell (p := ⟨w.heap.size + 1, 0, none⟩) (by simp; omega)).trans (by simp [go_sem, *])
  have F0 : w2.frozen? ⟨w.heap.size, 0, none⟩ = false := (b2.frozen (p := ⟨w.heap.size, 0, none⟩) (by simp; omega)).trans (by simp [go_sem, *])
  have R1 : w2.cell? ⟨w.heap.size, 1, none⟩ = some (.int .i64 0) := (b2.cell (p := ⟨w.heap.size, 1, none⟩) (by simp; omega)).trans (by simp [go_sem, *])
  have V1 : w2.cell? ⟨w.heap.size + 1, 1, none⟩ = some (.int .i64 U) := (b2.cell (p := ⟨w.heap.size + 1, 1, none⟩) (by simp; omega)).trans (by simp [go_sem, *])
  have F1 : w2.frozen? ⟨w.heap.size, 1, none⟩ = false := (b2.frozen (p := ⟨w.heap.size, 1, none⟩) (by simp; omega)).trans (by simp [go_sem, *])
  have R2 : w2.cell? ⟨w.heap.size, 2, none⟩ = some (.int .i64 0) := (b2.cell (p := ⟨w.heap.size, 2, none⟩) (by simp; omega)).trans (by simp [go_sem, *])
  have V2 : w2.cell? ⟨w.heap.size + 1, 2, none⟩ = some (.int .i64 V) := (b2.cell (p := ⟨w.heap.size + 1, 2, none⟩) (by simp; omega)).trans (by simp [go_sem, *])
  have F2 : w2.frozen? ⟨w.heap.size, 2, none⟩ = false := (b2.frozen (p := ⟨w.heap.size, 2, none⟩) (by simp; omega)).trans (by simp [go_sem, *])
  have R3 : w2.cell? ⟨w.heap.size, 3, none⟩ = some (.string ⟨#[]⟩) := (b2.cell (p := ⟨w.heap.size, 3, none⟩) (by simp; omega)).trans (by simp [go_sem, *])
  have V3 : w2.cell? ⟨w.heap.size + 1, 3, none⟩ = some (.string ⟨#[]⟩) := (b2.cell (p := ⟨w.heap.size + 1, 3, none⟩) (by simp; omega)).trans (by simp [go_sem, *])
  have F3 : w2.frozen? ⟨w.heap.size, 3, none⟩ = false := (b2.frozen (p := ⟨w.heap.size, 3, none⟩) (by simp; omega)).trans (by simp [go_sem, *])
  have B2 : Below w.heap.size w w2 := by (refine Below.trans ?_ (Below.mono b2 (by simp; omega)); repeat (first | with_reducible exact B1 | with_reducible refine bl_set ?_ _ | with_reducible refine Below.drew ?_ | with_reducible refine Below.alloc ?_ (by simp; omega) _ | with_reducible refine bl_set2 ?_ (by omega) _))
  have lt2 : w.heap.size < w2.heap.size := by have := b2.size; simp at this; omega
  clear b2 B1 hs1 r0 r1 r2 r3 v0 v1 v2 v3 fr0 fr1 fr2 fr3 fv0 fv1 fv2 fv3 ltr ltv
  go_wp2
  refine bodyPost_ret_by (v := .tuple #[va 0 0 0 ⟨#[]⟩, .int .i64 21]) ?_ rfl ⟨rfl, ?_⟩
  · simp [results, Tryz.results36, go_sem, R0, R1, R2, R3]
  · repeat (first | with_reducible exact B2 | with_reducible refine bl_set ?_ _)

set_option maxRecDepth 20000 in
set_option maxHeartbeats 4000000 in
theorem rpAn (t q : List UInt8) (S : ByteArray) (c0 cl : UInt8) (b : ByteArray) (w : World) (hS : S.size = t.length) (hq : (q == S.toList) = false) (h1 : 1 ≤ t.length) (ht : t.length ≤ 4096)
    (n0 : S.toList.isEmpty = false) (_n1 : (S.toList == [110, 117, 108, 108]) = false) (n2 : (S.toList == [116, 114, 117, 101]) = false) (n3 : (S.toList == [102, 97, 108, 115, 101]) = false)
    (_hg0 : ∀ h, S[0]'h = c0) (_hgl : ∀ h, S[t.length - 1]'h = cl) (h39 : ((c0.toNat : Int) == 39) = true) (h2 : 2 ≤ t.length) (Q : ∀ W, Calls Tryz.prog 43 #[.string S] W fun e w' => e = .returned (.string b) ∧ Below W.heap.size W w')
    (P : ∀ W, Calls Tryz.prog 46 #[va  3  0  0 b] W fun e w' => e = .returned (.string ⟨q.toArray⟩) ∧ Below W.heap.size W w') :
    Calls Tryz.prog 36 #[.string S] w fun e w' => e = .returned (.tuple #[va 0 0 0 ⟨#[]⟩, .int .i64 21]) ∧ Below w.heap.size w w' := by
  have h1' : (1 : Int) ≤ (t.length : Int) := by omega
  have ht' : (t.length : Int) ≤ 4096 := by omega
  have Z0 : Cbox ((w.alloc (.cells #[.int .i64 0, .int .i64 0, .int .i64 0, .string ⟨#[]⟩] 36)).alloc (.cells #[.int .i64 0, .int .i64 0, .int .i64 0, .string ⟨#[]⟩] 36)) w.heap.size #[.int .i64 0, .int .i64 0, .int .i64 0, .string ⟨#[]⟩] 36 := (Cbox.new w _ _).later ((Below.refl _ _).alloc (Nat.le_refl _) _)
  have Z1 : Cbox ((w.alloc (.cells #[.int .i64 0, .int .i64 0, .int .i64 0, .string ⟨#[]⟩] 36)).alloc (.cells #[.int .i64 0, .int .i64 0, .int .i64 0, .string ⟨#[]⟩] 36)) (w.heap.size + 1) #[.int .i64 0, .int .i64 0, .int .i64 0, .string ⟨#[]⟩] 36 := by
    have := Cbox.new (w.alloc (.cells #[.int .i64 0, .int .i64 0, .int .i64 0, .string ⟨#[]⟩] 36)) #[.int .i64 0, .int .i64 0, .int .i64 0, .string ⟨#[]⟩] 36
    rwa [World.size_alloc] at this
  have h2' : (2 : Int) ≤ (t.length : Int) := by omega
  have h3 : ((t.length : Int) - 1).toNat = t.length - 1 := by omega
  have h4 : (0 : Int) ≤ (t.length : Int) - 1 := by omega
  go_enter Tryz.func36, Tryz.ntmps36
  go_wp2_with (go_at_call 43; refine (Q _).mono ?_; rintro e w1 ⟨rfl, b1⟩; have Zr : Cbox w1 w.heap.size #[.int .i64 0, .int .i64 0, .int .i64 0, .string ⟨#[]⟩] 36 := Z0.later b1; have Zv : Cbox w1 (w.heap.size + 1) #[.int .i64 0, .int .i64 0, .int .i64 0, .string ⟨#[]⟩] 36 := Z1.later b1; have r0 := Zr.at 0; have v0 := Zv.at 0; have fr0 := Zr.free 0; have fv0 := Zv.free 0; have r1 := Zr.at 1; have v1 := Zv.at 1; have fr1 := Zr.free 1; have fv1 := Zv.free 1; have r2 := Zr.at 2; have v2 := Zv.at 2; have fr2 := Zr.free 2; have fv2 := Zv.free 2; have r3 := Zr.at 3; have v3 := Zv.at 3; have fr3 := Zr.free 3; have fv3 := Zv.free 3; have ltr := Zr.lt; have ltv := Zv.lt; have B1 : Below w.heap.size w w1 := (((Below.refl _ w).alloc (Nat.le_refl _) _).alloc (by simp) _).trans (b1.mono (by simp; omega)); have hs1 := B1.size; clear Zr Zv)
  refine (P _).mono ?_
  rintro e w2 ⟨rfl, b2⟩
  have R0 : w2.cell? ⟨w.heap.size, 0, none⟩ = some (.int .i64 0) := (b2.cell (p := ⟨w.heap.size, 0, none⟩) (by simp; omega)).trans (by simp [go_sem, *])
  have V0 : w2.cell? ⟨w.heap.size + 1, 0, none⟩ = some (.int .i64 3) := (b2.cell (p := ⟨w.heap.size + 1, 0, none⟩) (by simp; omega)).trans (by simp [go_sem, *])
  have F0 : w2.frozen? ⟨w.heap.size, 0, none⟩ = false := (b2.frozen (p := ⟨w.heap.size, 0, none⟩) (by simp; omega)).trans (by simp [go_sem, *])
  have R1 : w2.cell? ⟨w.heap.size, 1, none⟩ = some (.int .i64 0) := (b2.cell (p := ⟨w.heap.size, 1, none⟩) (by simp; omega)).trans (by simp [go_sem, *])
  have V1 : w2.cell? ⟨w.heap.size + 1, 1, none⟩ = some (.int .i64 0) := (b2.cell (p := ⟨w.heap.size + 1, 1, none⟩) (by simp; omega)).trans (by simp [go_sem, *])
  have F1 : w2.frozen? ⟨w.heap.size, 1, none⟩ = false := (b2.frozen (p := ⟨w.heap.size, 1, none⟩) (by simp; omega)).trans (by simp [go_sem, *])
  have R2 : w2.cell? ⟨w.heap.size, 2, none⟩ = some (.int .i64 0) := (b2.cell (p := ⟨w.heap.size, 2, none⟩) (by simp; omega)).trans (by simp [go_sem, *])
  have V2 : w2.cell? ⟨w.heap.size + 1, 2, none⟩ = some (.int .i64 0) := (b2.cell (p := ⟨w.heap.size + 1, 2, none⟩) (by simp; omega)).trans (by simp [go_sem, *])
  have F2 : w2.frozen? ⟨w.heap.size, 2, none⟩ = false := (b2.frozen (p := ⟨w.heap.size, 2, none⟩) (by simp; omega)).trans (by simp [go_sem, *])
  have R3 : w2.cell? ⟨w.heap.size, 3, none⟩ = some (.string ⟨#[]⟩) := (b2.cell (p := ⟨w.heap.size, 3, none⟩) (by simp; omega)).trans (by simp [go_sem, *])
  have V3 : w2.cell? ⟨w.heap.size + 1, 3, none⟩ = some (.string b) := (b2.cell (p := ⟨w.heap.size + 1, 3, none⟩) (by simp; omega)).trans (by simp [go_sem, *])
  have F3 : w2.frozen? ⟨w.heap.size, 3, none⟩ = false := (b2.frozen (p := ⟨w.heap.size, 3, none⟩) (by simp; omega)).trans (by simp [go_sem, *])
  have B2 : Below w.heap.size w w2 := by (refine Below.trans ?_ (Below.mono b2 (by simp; omega)); repeat (first | with_reducible exact B1 | with_reducible refine bl_set ?_ _ | with_reducible refine Below.drew ?_ | with_reducible refine Below.alloc ?_ (by simp; omega) _ | with_reducible refine bl_set2 ?_ (by omega) _))
  have lt2 : w.heap.size < w2.heap.size := by have := b2.size; simp at this; omega
  clear b2 B1 hs1 r0 r1 r2 r3 v0 v1 v2 v3 fr0 fr1 fr2 fr3 fv0 fv1 fv2 fv3 ltr ltv
  go_wp2
  refine bodyPost_ret_by (v := .tuple #[va 0 0 0 ⟨#[]⟩, .int .i64 21]) ?_ rfl ⟨rfl, ?_⟩
  · simp [results, Tryz.results36, go_sem, R0, R1, R2, R3]
  · repeat (first | with_reducible exact B2 | with_reducible refine bl_set ?_ _)
end Go.Proofs.YtlfeficldhlbaaaGreatDoor

namespace Go.Proofs.YtlfeficldhlbaaaGreatDoor
open Go.RowKit Go.Shelf

theorem rvprint_any (v : Va) (w : World) (hk : v.k = 1 ∨ v.k = 2 ∨ v.k = 3) (hn : -9223372036854775808 ≤ v.n ∧ v.n ≤ 9223372036854775807) :
    Calls Tryz.prog 46 #[vv v] w fun e w' => e = .returned (.string ⟨(pv v).toArray⟩) ∧ Below w.heap.size w w' := by
  obtain ⟨k, n, m, b⟩ := v
  have R : ∀ W, Calls Tryz.prog 67 #[va k n m ⟨b.toArray⟩] W fun e w' => e = .returned (.bool (vr ⟨k, n, m, b⟩)) ∧ Below W.heap.size W w' := fun W => rright_any k n m ⟨b.toArray⟩ W
  have hok := vr_iff ⟨k, n, m, b⟩
  unfold pv
  cases hvr : vr ⟨k, n, m, b⟩ with
  | false =>
    rw [hvr] at R
    rw [if_neg (by simp)]
    exact rprint_no k n m _ w R
  | true =>
    rw [hvr] at R
    have hok' := hok.1 hvr
    rw [if_pos rfl]
    rcases hk with hk | hk | hk
    · have hk' : k = 1 := hk
      subst hk'
      exact rprint1 n m _ w hn R
    · have hk' : k = 2 := hk
      subst hk'
      have hm : 0 ≤ m ∧ m ≤ 6 := by
        have h := hok'
        unfold vok at h
        simp at h
        omega
      by_cases h0 : m = 0
      · exact rprint2a n m _ w hn hm h0 R
      · exact rprint2b n m _ w hn hm h0 R
    · have hk' : k = 3 := hk
      subst hk'
      have hl : b.length ≤ 256 := by
        have h := hok'
        unfold vok at h
        simp at h
        omega
      exact rprint3 n m _ w hl R

/-- What the document takes for a text's value. -/
def rvA (t : List UInt8) : Va := ⟨3, 0, 0, qrL ((t.take (t.length - 1)).drop 1)⟩
def pU (t : List UInt8) : Int := match PR t with | none => 0 | some (b, n, _) => nz (sval b n)
def pS (t : List UInt8) : Int := match PR t with | none => 0 | some (b, n, s) => fs (sval b n) (s : Int)
theorem PV_parts (t : List UInt8) : ∃ E, PV t = .tuple #[dv (pU t) (pS t), .int .i64 E] := by
  unfold PV pU pS
  cases PR t with
  | none => exact ⟨21, rfl⟩
  | some q => obtain ⟨b, n, s⟩ := q; exact ⟨_, rfl⟩
def rvB (t : List UInt8) : Va := ⟨2, pU t.dropLast, pS t.dropLast, []⟩
def rvC (t : List UInt8) : Va := if 0 < pS t then ⟨2, pU t, pS t, []⟩ else ⟨1, pU t, 0, []⟩

theorem pv3 (b t : List UInt8) (ht : t ≠ []) (h : pv ⟨3, 0, 0, b⟩ = t) : quoL b = t ∧ vr ⟨3, 0, 0, b⟩ = true := by
  unfold pv at h
  cases hv : vr ⟨3, 0, 0, b⟩ with
  | false => rw [hv] at h; simp at h; exact absurd h ht
  | true =>
    rw [hv, if_pos rfl] at h
    exact ⟨by simpa [ptext] using h, rfl⟩

theorem dpvA (l : List UInt8) (hl : 1 ≤ l.length) : dpv (39 :: l) = if pv (rvA (39 :: l)) = 39 :: l then some (rvA (39 :: l)) else none := by
  have e1 : ((39 :: l).take ((39 :: l).length - 1)).drop 1 = l.dropLast := by
    obtain ⟨n, hn⟩ : ∃ n, l.length = n + 1 := ⟨l.length - 1, by omega⟩
    rw [List.length_cons, Nat.add_sub_cancel, hn, List.take_succ_cons, List.dropLast_eq_take, hn]
    rfl
  have eA : rvA (39 :: l) = ⟨3, 0, 0, qrL l.dropLast⟩ := by unfold rvA; rw [e1]
  have eT : tlv (39 :: l) = (match unqL l with | none => (⟨3, 0, 0, []⟩, false) | some b => (⟨3, 0, 0, b⟩, true)) := by unfold tlv; rw [if_pos (show (39 :: l).head? = some 39 from rfl)]; rfl
  have back : ∀ b, quoL b = 39 :: l → unqL l = some b ∧ qrL l.dropLast = b := by
    intro b h
    unfold quoL at h
    have h' : dbl b ++ [39] = l := by simpa using h
    rw [← h']
    exact ⟨unq_dbl b, by rw [List.dropLast_concat, qr_dbl]⟩
  rw [eA]
  unfold dpv
  by_cases h : pv ⟨3, 0, 0, qrL l.dropLast⟩ = 39 :: l
  · rw [if_pos h]
    obtain ⟨h1, _⟩ := pv3 _ _ (by simp) h
    obtain ⟨h2, _⟩ := back _ h1
    rw [eT, h2]
    exact if_pos ⟨rfl, h⟩
  · rw [if_neg h]
    cases hu : unqL l with
    | none => rw [eT, hu]; exact if_neg (by simp)
    | some b =>
      rw [eT, hu]
      refine if_neg ?_
      rintro ⟨_, h3⟩
      obtain ⟨h1, _⟩ := pv3 _ _ (by simp) h3
      obtain ⟨_, h2⟩ := back _ h1
      rw [h2] at h
      exact h h3

theorem pv_zero1 : pv ⟨1, 0, 0, []⟩ = [48] := by
  unfold pv
  rw [if_pos (by decide +kernel)]
  show dtext 0 0 = _
  unfold dtext
  rw [if_neg (by decide), if_pos rfl]
  show [] ++ pad 0 (digs 0) = _
  rw [digs_small 0 (by decide)]
  rfl
theorem pv_zero2 : pv ⟨2, 0, 0, []⟩ = [48, 46] := by
  unfold pv
  rw [if_pos (by decide +kernel)]
  show dpt 0 0 = _
  unfold dpt
  rw [if_pos rfl]
  show dtext 0 0 ++ [46] = _
  unfold dtext
  rw [if_neg (by decide), if_pos rfl]
  show [] ++ pad 0 (digs 0) ++ [46] = _
  rw [digs_small 0 (by decide)]
  rfl

theorem tnv_1 (t : List UInt8) : (tnv t).1 = ⟨if (46 : UInt8) ∈ t then 2 else 1, pU (trimP t), pS (trimP t), []⟩ := by
  unfold tnv pU pS
  cases PR (trimP t) with
  | none => rfl
  | some q => obtain ⟨b, n, s⟩ := q; rfl
theorem tnv_no (t : List UInt8) (h : (tnv t).2 = false) : pU (trimP t) = 0 ∧ pS (trimP t) = 0 := by
  unfold tnv at h
  unfold pU pS
  cases hp : PR (trimP t) with
  | none => exact ⟨rfl, rfl⟩
  | some q =>
    obtain ⟨b, n, s⟩ := q
    rw [hp] at h
    have h' : fits (sval b n) = false := h
    simp [nz, fs, h']

theorem dpvB (c : UInt8) (l : List UInt8) (hc : c ≠ 39) (h46 : (c :: l).getLast? = some 46) : dpv (c :: l) = if pv (rvB (c :: l)) = c :: l then some (rvB (c :: l)) else none := by
  have eT : tlv (c :: l) = tnv (c :: l) := by unfold tlv; rw [if_neg (by simpa using hc)]
  have etr : trimP (c :: l) = (c :: l).dropLast := by unfold trimP; rw [if_pos h46]
  have hin : (46 : UInt8) ∈ (c :: l) := List.mem_of_getLast? h46
  have e1 : (tnv (c :: l)).1 = rvB (c :: l) := by rw [tnv_1, etr, if_pos hin]; rfl
  unfold dpv
  rw [eT, e1]
  cases h2 : (tnv (c :: l)).2 with
  | true => simp
  | false =>
    obtain ⟨hU, hS⟩ := tnv_no _ h2
    rw [etr] at hU hS
    rw [if_neg (by simp), if_neg]
    intro h
    unfold rvB at h
    rw [hU, hS, pv_zero2] at h
    rw [← h] at h2
    exact absurd h2 (by decide +kernel)

theorem no_point (u : Int) (h0 : ¬ u < 0) : (46 : UInt8) ∉ dtext u 0 := by
  unfold dtext
  rw [if_neg h0, if_pos rfl]
  intro h
  have := pad_dig 0 u.natAbs 46 (by simpa using h)
  unfold isDig at this
  exact absurd this.1 (by decide)
theorem a_point (u : Int) (s : Nat) (hs : s ≠ 0) : (46 : UInt8) ∈ dtext u s := by
  unfold dtext
  rw [if_neg hs]
  simp

theorem dpvC (c : UInt8) (l : List UInt8) (hc : isD c = true) (h46 : ¬ (c :: l).getLast? = some 46) : dpv (c :: l) = if pv (rvC (c :: l)) = c :: l then some (rvC (c :: l)) else none := by
  have hc39 : c ≠ 39 := by rintro rfl; cases hc
  have eT : tlv (c :: l) = tnv (c :: l) := by unfold tlv; rw [if_neg (by simpa using hc39)]
  have etr : trimP (c :: l) = c :: l := by unfold trimP; rw [if_neg h46]
  unfold dpv
  rw [eT]
  cases h2 : (tnv (c :: l)).2 with
  | true =>
    have e1 : (tnv (c :: l)).1 = rvC (c :: l) := by
      rw [tnv_1, etr]
      unfold tnv at h2
      rw [etr] at h2
      unfold rvC pU pS
      cases hp : PR (c :: l) with
      | none => rw [hp] at h2; cases h2
      | some q =>
        obtain ⟨b, n, s⟩ := q
        rw [hp] at h2
        have hf : fits (sval b n) = true := h2
        obtain ⟨_, hd⟩ := PR_back (c :: l) b n s hp hf
        have e3 : fs (sval b n) (s : Int) = (s : Int) := by simp [fs, hf]
        simp only [e3]
        by_cases hs : s = 0
        · subst hs
          have hneg : ¬ sval b n < 0 := by
            intro hlt
            have : c = 45 := by
              unfold dtext at hd
              rw [if_pos hlt] at hd
              simp at hd
              exact hd.1.symm
            rw [this] at hc
            revert hc
            simp [isD]
          have : (46 : UInt8) ∉ (c :: l) := by rw [← hd]; exact no_point _ hneg
          rw [if_neg this, if_neg (by simp)]
          rfl
        · have : (46 : UInt8) ∈ (c :: l) := by rw [← hd]; exact a_point _ _ hs
          rw [if_pos this, if_pos (by omega)]
    rw [e1]
    simp
  | false =>
    obtain ⟨hU, hS⟩ := tnv_no _ h2
    rw [etr] at hU hS
    rw [if_neg (by simp), if_neg]
    intro h
    unfold rvC at h
    rw [hU, hS, if_neg (by decide), pv_zero1] at h
    rw [← h] at h2
    exact absurd h2 (by decide +kernel)

theorem rdparse (c : UInt8) (l : List UInt8) (hc : c ≠ 45) (hl : (c :: l).length ≤ 140737488351232) : ∃ E, ∀ W, Calls Tryz.prog 45 #[.string ⟨(c :: l).toArray⟩] W fun e w' => e = .returned (.tuple #[dv (pU (c :: l)) (pS (c :: l)), .int .i64 E]) ∧ Below W.heap.size W w' := by
  obtain ⟨E, hE⟩ := PV_parts (c :: l)
  refine ⟨E, fun W => ?_⟩
  have h := rparse_plus (c :: l) W hl c l rfl hc
  have hs := scan_PV (c :: l) 0 (by rw [if_neg (by simpa using hc)])
  rw [hs, hE] at h
  refine h.mono ?_
  rintro e w' ⟨h1, h2⟩
  exact ⟨h1, h2.below⟩

theorem rvC_kind (t : List UInt8) : ((rvC t).k = 1 ∨ (rvC t).k = 2 ∨ (rvC t).k = 3) ∧ (-9223372036854775808 ≤ (rvC t).n ∧ (rvC t).n ≤ 9223372036854775807) := by
  have hU : -9223372036854775808 ≤ pU t ∧ pU t ≤ 9223372036854775807 := by
    unfold pU
    cases PR t with
    | none => simp
    | some q =>
      obtain ⟨b, n, s⟩ := q
      simp only
      unfold nz
      split
      · rename_i h; exact (fits_iff _).1 h
      · simp
  unfold rvC
  split
  · exact ⟨by simp, hU⟩
  · exact ⟨by simp, hU⟩
theorem pU_in (t : List UInt8) : -9223372036854775808 ≤ pU t ∧ pU t ≤ 9223372036854775807 := by
  unfold pU
  cases PR t with
  | none => simp
  | some q =>
    obtain ⟨b, n, s⟩ := q
    simp only
    unfold nz
    split
    · rename_i h; exact (fits_iff _).1 h
    · simp

theorem rparse_any (t : List UInt8) (w : World) (ht : t.length ≤ 4096) (hh : litH t) (h2 : t.head? = some 39 → 2 ≤ t.length) :
    Calls Tryz.prog 36 #[.string ⟨t.toArray⟩] w fun e w' => e = .returned (dpR (dpv t)) ∧ Below w.heap.size w w' := by
  have n1 := lit_ne hh 110 [117, 108, 108] (by decide) (by decide)
  have n2 := lit_ne hh 116 [114, 117, 101] (by decide) (by decide)
  have n3 := lit_ne hh 102 [97, 108, 115, 101] (by decide) (by decide)
  obtain ⟨c, l, rfl, hc⟩ := hh
  have n0 := not_empty c l
  have hS : (ByteArray.mk (c :: l).toArray).size = (c :: l).length := rfl
  have h1 : 1 ≤ (c :: l).length := by simp
  have hg0 : ∀ h, (ByteArray.mk (c :: l).toArray)[0]'h = c := fun h => rfl
  have hgl : ∀ h, (ByteArray.mk (c :: l).toArray)[(c :: l).length - 1]'h = (c :: l).getLast (by simp) := fun h => by
    rw [List.getLast_eq_getElem]; rfl
  have hlast : (c :: l).getLast? = some ((c :: l).getLast (by simp)) := List.getLast?_eq_some_getLast (by simp)
  have heq : ∀ q : List UInt8, (q == (ByteArray.mk (c :: l).toArray).toList) = decide (q = c :: l) := fun q => by
    rw [ByteArray.toList_eq]
    by_cases h : q = c :: l
    · subst h; simp
    · rw [decide_eq_false h, beq_eq_false_iff_ne]; exact h
  by_cases hq : c = 39
  · subst hq
    have hl2 := h2 rfl
    have Q : ∀ W, Calls Tryz.prog 43 #[.string ⟨(39 :: l).toArray⟩] W fun e w' => e = .returned (.string ⟨(qrL (((39 :: l).take ((39 :: l).length - 1)).drop 1)).toArray⟩) ∧ Below W.heap.size W w' := fun W => rquoted_any (39 :: l) W ht hl2
    have P := fun W => rvprint_any (rvA (39 :: l)) W (by simp [rvA]) (by simp [rvA])
    rw [dpvA l (by simp at hl2; omega)]
    have he := heq (pv (rvA (39 :: l)))
    by_cases h : pv (rvA (39 :: l)) = 39 :: l
    · rw [if_pos h]
      rw [decide_eq_true h] at he
      exact rpA (39 :: l) _ _ 39 _ _ w hS he h1 ht n0 n1 n2 n3 hg0 hgl (by decide) hl2 Q P
    · rw [if_neg h]
      rw [decide_eq_false h] at he
      exact rpAn (39 :: l) _ _ 39 _ _ w hS he h1 ht n0 n1 n2 n3 hg0 hgl (by decide) hl2 Q P
  · have hd : isD c = true := by
      rcases hc with h | h
      · exact absurd h hq
      · exact h
    have hc45 : c ≠ 45 := by rintro rfl; revert hd; decide
    have h39 : ((c.toNat : Int) == 39) = false := by have := eqInt c 39; rwa [decide_eq_false hq] at this
    have h60 : ((c.toNat : Int) == 60) = false := by have := eqInt c 60; rwa [decide_eq_false (by rintro rfl; revert hd; decide)] at this
    by_cases h46 : (c :: l).getLast? = some 46
    · have hl2 : 2 ≤ (c :: l).length := by
        match l, h46 with
        | [], h46 =>
          have : c = 46 := by simpa using h46
          rw [this] at hd; exact absurd hd (by decide)
        | _ :: _, _ => simp
      have e46 : (((c :: l).getLast (by simp)).toNat : Int) == 46 := by
        rw [hlast] at h46
        rw [Option.some.inj h46]; rfl
      obtain ⟨l', hl'⟩ : ∃ l', (c :: l).dropLast = c :: l' := by
        match l, hl2 with
        | d :: l, _ => exact ⟨_, rfl⟩
      have hx : (ByteArray.mk (c :: l).toArray).extract 0 ((c :: l).length - 1) = ⟨(c :: l').toArray⟩ := by
        rw [ba_extract, ← hl', List.dropLast_eq_take]; rfl
      obtain ⟨E, D⟩ := rdparse c l' hc45 (by rw [← hl', List.length_dropLast]; omega)
      have hU := pU_in (c :: l')
      have eB : rvB (c :: l) = ⟨2, pU (c :: l'), pS (c :: l'), []⟩ := by unfold rvB; rw [hl']
      have P := fun W => rvprint_any (rvB (c :: l)) W (by rw [eB]; simp) (by rw [eB]; exact hU)
      rw [dpvB c l hq h46]
      have he := heq (pv (rvB (c :: l)))
      rw [eB] at P he ⊢
      by_cases h : pv ⟨2, pU (c :: l'), pS (c :: l'), []⟩ = c :: l
      · rw [if_pos h]
        rw [decide_eq_true h] at he
        exact rpB (c :: l) _ _ c _ _ _ E _ w hS he h1 ht n0 n1 n2 n3 hg0 hgl h39 h60 e46 hl2 hx D P
      · rw [if_neg h]
        rw [decide_eq_false h] at he
        exact rpBn (c :: l) _ _ c _ _ _ E _ w hS he h1 ht n0 n1 n2 n3 hg0 hgl h39 h60 e46 hl2 hx D P
    · have e46 : ((((c :: l).getLast (by simp)).toNat : Int) == 46) = false := by
        have := eqInt ((c :: l).getLast (by simp)) 46
        rwa [decide_eq_false (fun h => h46 (by rw [hlast, h]))] at this
      obtain ⟨E, D⟩ := rdparse c l hc45 (by omega)
      obtain ⟨k1, k2⟩ := rvC_kind (c :: l)
      have P := fun W => rvprint_any (rvC (c :: l)) W k1 k2
      rw [dpvC c l hd h46]
      have he := heq (pv (rvC (c :: l)))
      by_cases hV : 0 < pS (c :: l)
      · have eC : rvC (c :: l) = ⟨2, pU (c :: l), pS (c :: l), []⟩ := by unfold rvC; rw [if_pos hV]
        rw [eC] at P he ⊢
        have hl2 : 2 ≤ (c :: l).length := by
          match l, hV with
          | [], hV =>
            exfalso
            unfold pS at hV
            cases hp : PR [c] with
            | none => rw [hp] at hV; simp at hV
            | some q =>
              obtain ⟨b, n, s⟩ := q
              rw [hp] at hV
              have hV' : 0 < fs (sval b n) (s : Int) := hV
              unfold fs at hV'
              by_cases hf : fits (sval b n) = true
              · rw [if_pos hf] at hV'
                obtain ⟨_, hdt⟩ := PR_back [c] b n s hp hf
                have := a_point (sval b n) s (by omega)
                rw [hdt] at this
                have hce : (46 : UInt8) = c := by simpa using this
                rw [← hce] at hd
                exact absurd hd (by decide)
              · rw [if_neg hf] at hV'; omega
          | _ :: _, _ => simp
        by_cases h : pv ⟨2, pU (c :: l), pS (c :: l), []⟩ = c :: l
        · rw [if_pos h]
          rw [decide_eq_true h] at he
          exact rpC2 (c :: l) _ _ c _ _ _ E w hS he h1 ht n0 n1 n2 n3 hg0 hgl h39 h60 e46 hl2 hV D P
        · rw [if_neg h]
          rw [decide_eq_false h] at he
          exact rpC2n (c :: l) _ _ c _ _ _ E w hS he h1 ht n0 n1 n2 n3 hg0 hgl h39 h60 e46 hl2 hV D P
      · have eC : rvC (c :: l) = ⟨1, pU (c :: l), 0, []⟩ := by unfold rvC; rw [if_neg hV]
        rw [eC] at P he ⊢
        by_cases hl2 : 2 ≤ (c :: l).length
        · by_cases h : pv ⟨1, pU (c :: l), 0, []⟩ = c :: l
          · rw [if_pos h]
            rw [decide_eq_true h] at he
            exact rpC1 (c :: l) _ _ c _ _ _ E w hS he h1 ht n0 n1 n2 n3 hg0 hgl h39 h60 e46 hl2 hV D P
          · rw [if_neg h]
            rw [decide_eq_false h] at he
            exact rpC1n (c :: l) _ _ c _ _ _ E w hS he h1 ht n0 n1 n2 n3 hg0 hgl h39 h60 e46 hl2 hV D P
        · by_cases h : pv ⟨1, pU (c :: l), 0, []⟩ = c :: l
          · rw [if_pos h]
            rw [decide_eq_true h] at he
            exact rpD1 (c :: l) _ _ c _ _ _ E w hS he h1 ht n0 n1 n2 n3 hg0 hgl hl2 hV D P
          · rw [if_neg h]
            rw [decide_eq_false h] at he
            exact rpD1n (c :: l) _ _ c _ _ _ E w hS he h1 ht n0 n1 n2 n3 hg0 hgl hl2 hV D P
end Go.Proofs.YtlfeficldhlbaaaGreatDoor
