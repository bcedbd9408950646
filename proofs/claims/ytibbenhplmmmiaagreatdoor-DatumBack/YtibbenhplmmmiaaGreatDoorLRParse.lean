/-
  The document's quoted and Parse at the texts of literals.
-/
import Derived.Test.YtibbenhplmmmiaaGreatDoorLRPrint
import Derived.Test.YtibbenhplmmmiaaGreatDoorLParse
import Derived.Test.YtibbenhplmmmiaaGreatDoorMvDScan
namespace Go.Proofs.YtibbenhplmmmiaaGreatDoor
open Go.RowKit Go.Shelf
attribute [local go_sem] cell?_more frozen?_more setCell_more more_lt more_more more_drew more_drewN setCell_drewN alloc_drewN

/-- What the document reads within quotes: each two of them as one. -/
def qrL : List UInt8 → List UInt8
  | [] => []
  | [c] => [c]
  | c :: d :: l => if c = 39 then 39 :: qrL l else c :: qrL (d :: l)
theorem qr_cons (c : UInt8) (l : List UInt8) : qrL (c :: l) = c :: (if c = 39 then qrL (l.drop 1) else qrL l) := by
  match l with
  | [] => simp [qrL]
  | d :: l =>
    rw [qrL]
    by_cases h : c = 39
    · rw [if_pos h, if_pos h, h]; rfl
    · rw [if_neg h, if_neg h]
theorem qr_dbl (b : List UInt8) : qrL (dbl b) = b := by
  induction b with
  | nil => rfl
  | cons c b ih =>
    have e : dbl (c :: b) = (if c = 39 then [39, 39] else [c]) ++ dbl b := by simp [dbl]
    rw [e]
    by_cases h : c = 39
    · rw [if_pos h, h]
      show qrL (39 :: 39 :: dbl b) = _
      rw [qr_cons, if_pos rfl]
      show 39 :: qrL (dbl b) = _
      rw [ih]
    · rw [if_neg h]
      show qrL (c :: dbl b) = _
      rw [qr_cons, if_neg h, ih]
theorem unq_dbl (b : List UInt8) : unqL (dbl b ++ [39]) = some b := by
  induction b with
  | nil => rfl
  | cons c b ih =>
    have e : dbl (c :: b) = (if c = 39 then [39, 39] else [c]) ++ dbl b := by simp [dbl]
    rw [e]
    by_cases h : c = 39
    · rw [if_pos h, h]
      show unqL (39 :: 39 :: (dbl b ++ [39])) = _
      rw [unq_two, ih]; rfl
    · rw [if_neg h]
      show unqL (c :: (dbl b ++ [39])) = _
      rw [unq_other _ _ h, ih]; rfl

end Go.Proofs.YtibbenhplmmmiaaGreatDoor
