/-
  Plain facts: a record that is cut short ends too early. Nothing of the program's code is in it.
-/
import Derived.Test.YtonjjbmjholkjaaGreatDoorWlRo
namespace Go.Proofs.YtonjjbmjholkjaaGreatDoor
open Go.RowKit

theorem takeGo_cut : ∀ (f i u a c : Nat), i + f = 9 → c < (nb f u).length → takeGo (f + 1) i a ((nb f u).take c) = (0, 0, 20) := by
  intro f
  induction f with
  | zero =>
    intro i u a c _ hc
    have : c = 0 := by simp [nb] at hc; omega
    subst this
    rfl
  | succ f ih =>
    intro i u a c hi hc
    by_cases hs : u < 128
    · rw [nb_small _ _ hs] at hc ⊢
      have : c = 0 := by simp at hc; omega
      subst this
      rfl
    · rw [nb_big _ _ hs] at hc ⊢
      have e : (UInt8.ofNat (u % 128 + 128)).toNat = u % 128 + 128 := by rw [UInt8.toNat_ofNat']; omega
      cases c with
      | zero => rfl
      | succ c =>
        rw [List.take_succ_cons]
        rw [take_next _ _ _ _ _ (by omega) (by rw [e]; omega)]
        exact ih (i + 1) (u / 128) _ c (by omega) (by simp at hc; omega)

theorem takeN_cut (n : Int) (c : Nat) (hc : c < (numBytes n).length) : takeN ((numBytes n).take c) = (0, 0, 20) := takeGo_cut 9 0 (foldN n) 0 c rfl hc

theorem rec_cut (bs : List UInt8) (hn : bs.length ≤ 1048576) (c : Nat) (hc : c < (recBytes bs).length) : takeR ((recBytes bs).take c) = ([], 0, 20) := by
  have ea : recBytes bs = numBytes (bs.length : Int) ++ (bs ++ eight (crc bs)) := by simp [recBytes]
  have hl : (recBytes bs).length = (numBytes (bs.length : Int)).length + (bs.length + 8) := by simp [recBytes, eight_length]
  by_cases h : c < (numBytes (bs.length : Int)).length
  · have e1 : (recBytes bs).take c = (numBytes (bs.length : Int)).take c := by rw [ea, List.take_append_of_le_length (by omega)]
    rw [e1]
    have e2 := takeN_cut (bs.length : Int) c h
    have e3 : takeL ((numBytes (bs.length : Int)).take c) = (0, 0, 20) := by
      unfold takeL
      rw [e2]
      rfl
    unfold takeR
    rw [e3]
    rfl
  · obtain ⟨d, rfl⟩ : ∃ d, c = (numBytes (bs.length : Int)).length + d := ⟨c - (numBytes (bs.length : Int)).length, by omega⟩
    have e1 : (recBytes bs).take ((numBytes (bs.length : Int)).length + d) = numBytes (bs.length : Int) ++ (bs ++ eight (crc bs)).take d := by
      rw [ea, List.take_append, List.take_of_length_le (by omega), Nat.add_sub_cancel_left]
    rw [e1]
    have e2 := numBytes_take bs.length hn ((bs ++ eight (crc bs)).take d)
    unfold takeR
    rw [e2]
    simp only
    rw [if_neg (by simp), if_pos]
    simp [eight_length]
    omega
end Go.Proofs.YtonjjbmjholkjaaGreatDoor
