/-
  Plain facts on records: a record is read as it was, cut short it ends too early, and one byte that is another one behind its length is told by its sum. Nothing of the program's code is in it.
-/
import Derived.Test.YtonjjbmjholkjaaGreatDoorWlU
namespace Go.Proofs.YtonjjbmjholkjaaGreatDoor
open Go.RowKit

/-! ### a step of the sum tells registers and bytes apart -/
theorem bitStep_zero (r : BitVec 64) (h : bitStep r = 0) : r = 0 := by
  unfold bitStep at h
  by_cases hm : r.msb = true
  · rw [if_pos hm] at h
    have h0 := congrArg (fun z : BitVec 64 => z.getLsbD 0) h
    have hp : polyB[0] = true := by decide
    simp at h0
    rw [hp] at h0
    cases h0
  · rw [if_neg hm] at h
    have h' : r <<< 1 = 0#64 := by simpa using h
    apply BitVec.eq_of_getLsbD_eq
    intro i hi
    by_cases hl : i = 63
    · subst hl
      have : r.getLsbD 63 = false := by
        have := hm
        simpa [BitVec.msb_eq_getLsbD_last] using this
      rw [this]
      simp
    · have h1 := congrArg (fun z : BitVec 64 => z.getLsbD (i + 1)) h'
      simp only [BitVec.getLsbD_shiftLeft] at h1
      have h2 : i + 1 < 64 := by omega
      simp [h2] at h1
      simpa using h1
theorem bitStep_inj (a b : BitVec 64) (h : bitStep a = bitStep b) : a = b := by
  have e : bitStep (a ^^^ b) = 0 := by rw [bitStep_xor, h, BitVec.xor_self]; rfl
  have := bitStep_zero _ e
  have h2 : a ^^^ b ^^^ b = 0 ^^^ b := by rw [this]
  rw [BitVec.xor_assoc, BitVec.xor_self, BitVec.xor_zero] at h2
  simpa using h2
theorem nib_inj (a b : BitVec 64) (h : nib a = nib b) : a = b := by
  rw [nib_bits, nib_bits] at h
  exact bitStep_inj _ _ (bitStep_inj _ _ (bitStep_inj _ _ (bitStep_inj _ _ h)))
theorem xor_left_inj (a b c : BitVec 64) (h : a ^^^ b = a ^^^ c) : b = c := by
  have h2 : a ^^^ (a ^^^ b) = a ^^^ (a ^^^ c) := by rw [h]
  rwa [← BitVec.xor_assoc, ← BitVec.xor_assoc, BitVec.xor_self, BitVec.zero_xor, BitVec.zero_xor] at h2
theorem byteStep_reg (a b : BitVec 64) (x : UInt8) (h : byteStep a x = byteStep b x) : a = b := by
  have := nib_inj _ _ (nib_inj _ _ h)
  rw [BitVec.xor_comm a, BitVec.xor_comm b] at this
  exact xor_left_inj _ _ _ this
theorem byteStep_byte (a : BitVec 64) (x y : UInt8) (h : byteStep a x = byteStep a y) : x = y := by
  have h1 := xor_left_inj _ _ _ (nib_inj _ _ (nib_inj _ _ h))
  have h2 := congrArg BitVec.toNat h1
  have hx : x.toNat < 256 := x.toNat_lt
  have hy : y.toNat < 256 := y.toNat_lt
  rw [BitVec.toNat_shiftLeft, BitVec.toNat_shiftLeft, BitVec.toNat_ofNat, BitVec.toNat_ofNat, Nat.shiftLeft_eq, Nat.shiftLeft_eq] at h2
  apply UInt8.toNat_inj.1
  omega
theorem fold_reg (l : List UInt8) : ∀ a b : BitVec 64, l.foldl byteStep a = l.foldl byteStep b → a = b := by
  induction l with
  | nil => intro a b h; exact h
  | cons x l ih => intro a b h; exact byteStep_reg a b x (ih _ _ h)
theorem crc_set (l : List UInt8) (j : Nat) (y : UInt8) (hj : j < l.length) (hy : y ≠ l[j]) : crc (l.set j y) ≠ crc l := by
  intro h
  have e1 : l = l.take j ++ l[j] :: l.drop (j + 1) := by rw [← List.drop_eq_getElem_cons hj, List.take_append_drop]
  have e2 : l.set j y = l.take j ++ y :: l.drop (j + 1) := List.set_eq_take_append_cons_drop .. |>.trans (by rw [if_pos hj])
  unfold crc at h
  rw [e2] at h
  conv at h => rhs; rw [e1]
  rw [List.foldl_append, List.foldl_append, List.foldl_cons, List.foldl_cons] at h
  exact hy (byteStep_byte _ _ _ (fold_reg _ _ _ h))

theorem numBytes_take (n : Nat) (hn : n ≤ 1048576) (r : List UInt8) : takeL (numBytes (n : Int) ++ r) = (n, (numBytes (n : Int)).length, 0) := by
  have hf := foldN_lt (n : Int) (by omega) (by omega)
  have e := takeN_nb (foldN (n : Int)) hf r
  have e' : takeN (numBytes (n : Int) ++ r) = (foldN (n : Int), (numBytes (n : Int)).length, 0) := e
  have hu : numOf (takeN (numBytes (n : Int) ++ r)) = (n : Int) := by
    rw [e']
    show unfoldN (foldN (n : Int)) = _
    exact unfold_fold _
  unfold takeL
  rw [hu, e']
  rw [if_neg (by simp), if_neg (by omega)]
  rw [Int.toNat_natCast]

/-- A record whose bytes behind the length are D. -/
theorem takeR_of (n : Nat) (hn : n ≤ 1048576) (D : List UInt8) (hD : D.length = n + 8) : takeR (numBytes (n : Int) ++ D) = if crc (D.take n) ≠ join (D.drop n) then ([], 0, 22) else (D.take n, (numBytes (n : Int)).length + n + 8, 0) := by
  have e := numBytes_take n hn D
  unfold takeR
  rw [e]
  simp only
  rw [if_neg (by simp), if_neg (by simp; omega), List.drop_left, ← List.drop_drop, List.drop_left, List.take_of_length_le (l := D.drop n) (by simp; omega)]

theorem rec_read (bs more : List UInt8) (hn : bs.length ≤ 1048576) : takeR (recBytes bs ++ more) = (bs, (recBytes bs).length, 0) := by
  have e := numBytes_take bs.length hn (bs ++ eight (crc bs) ++ more)
  have ea : recBytes bs ++ more = numBytes (bs.length : Int) ++ (bs ++ eight (crc bs) ++ more) := by simp [recBytes]
  rw [ea]
  unfold takeR
  rw [e]
  simp only
  rw [if_neg (by simp), if_neg (by simp [eight_length]), List.drop_left, ← List.drop_drop, List.drop_left]
  have e1 : (bs ++ eight (crc bs) ++ more).take bs.length = bs := by rw [List.append_assoc, List.take_left]
  have e2 : ((bs ++ eight (crc bs) ++ more).drop bs.length).take 8 = eight (crc bs) := by
    rw [List.append_assoc, List.drop_left]
    exact List.take_left' (eight_length _)
  rw [e1, e2, join_eight, if_neg (by simp)]
  refine Prod.ext rfl (Prod.ext ?_ rfl)
  show _ = (recBytes bs).length
  simp [recBytes, eight_length]
  omega

theorem rec_rot (bs : List UInt8) (hn : bs.length ≤ 1048576) (j : Nat) (hj : j < bs.length + 8) (y : UInt8)
    (hy : ∀ h : (numBytes (bs.length : Int)).length + j < (recBytes bs).length, y ≠ (recBytes bs)[(numBytes (bs.length : Int)).length + j]) :
    takeR ((recBytes bs).set ((numBytes (bs.length : Int)).length + j) y) = ([], 0, 22) := by
  have hl : (recBytes bs).length = (numBytes (bs.length : Int)).length + (bs.length + 8) := by simp [recBytes, eight_length]
  have hlt : (numBytes (bs.length : Int)).length + j < (recBytes bs).length := by omega
  have hy' := hy hlt
  have ea : recBytes bs = numBytes (bs.length : Int) ++ (bs ++ eight (crc bs)) := by simp [recBytes]
  have hD : (bs ++ eight (crc bs)).length = bs.length + 8 := by simp [eight_length]
  have eget : (recBytes bs)[(numBytes (bs.length : Int)).length + j] = (bs ++ eight (crc bs))[j]'(by omega) := by
    simp only [ea]
    rw [List.getElem_append_right (by omega)]
    simp
  rw [eget] at hy'
  have eset : (recBytes bs).set ((numBytes (bs.length : Int)).length + j) y = numBytes (bs.length : Int) ++ (bs ++ eight (crc bs)).set j y := by
    rw [ea, List.set_append_right _ _ (by omega)]
    simp
  rw [eset, takeR_of bs.length hn _ (by rw [List.length_set, hD])]
  rw [if_pos]
  by_cases hb : j < bs.length
  · have e1 : ((bs ++ eight (crc bs)).set j y).take bs.length = bs.set j y := by
      rw [List.set_append_left _ _ hb, List.take_left' (by simp)]
    have e2 : ((bs ++ eight (crc bs)).set j y).drop bs.length = eight (crc bs) := by
      rw [List.set_append_left _ _ hb, List.drop_left' (by simp)]
    rw [e1, e2, join_eight]
    rw [List.getElem_append_left hb] at hy'
    exact crc_set bs j y hb hy'
  · have e1 : ((bs ++ eight (crc bs)).set j y).take bs.length = bs := by
      rw [List.set_append_right _ _ (by omega), List.take_left]
    have e2 : ((bs ++ eight (crc bs)).set j y).drop bs.length = (eight (crc bs)).set (j - bs.length) y := by
      rw [List.set_append_right _ _ (by omega), List.drop_left]
    rw [e1, e2]
    rw [List.getElem_append_right (by omega)] at hy'
    intro h
    have h8 := eight_join ((eight (crc bs)).set (j - bs.length) y) (by rw [List.length_set]; rfl)
    rw [← h] at h8
    have hk : j - bs.length < (eight (crc bs)).length := by rw [eight_length]; omega
    have hg : (eight (crc bs))[j - bs.length] = y := by
      have hlen : j - bs.length < ((eight (crc bs)).set (j - bs.length) y).length := by rw [List.length_set]; exact hk
      have e3 : ((eight (crc bs)).set (j - bs.length) y)[j - bs.length] = y := List.getElem_set_self hlen
      have e4 : (eight (crc bs))[j - bs.length]? = ((eight (crc bs)).set (j - bs.length) y)[j - bs.length]? := congrArg (fun l : List UInt8 => l[j - bs.length]?) h8
      rw [List.getElem?_eq_getElem hk, List.getElem?_eq_getElem hlen] at e4
      rw [Option.some.inj e4, e3]
    exact hy' hg.symm
end Go.Proofs.YtonjjbmjholkjaaGreatDoor
