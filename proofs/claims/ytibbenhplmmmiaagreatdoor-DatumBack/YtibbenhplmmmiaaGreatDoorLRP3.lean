/-
  What the document tells of a literal's text, as plain mathematics.
-/
import Derived.Test.YtibbenhplmmmiaaGreatDoorLRParse
namespace Go.Proofs.YtibbenhplmmmiaaGreatDoor
open Go.RowKit Go.Shelf

/-- What the document takes for a text's value. -/
def rvA (t : List UInt8) : Va := ⟨3, 0, 0, qrL ((t.take (t.length - 1)).drop 1)⟩
def pU (t : List UInt8) : Int := match PR t with | none => 0 | some (b, n, _) => nz (sval b n)
def pS (t : List UInt8) : Int := match PR t with | none => 0 | some (b, n, s) => fs (sval b n) (s : Int)
def rvB (t : List UInt8) : Va := ⟨2, pU t.dropLast, pS t.dropLast, []⟩
def rvC (t : List UInt8) : Va := if 0 < pS t then ⟨2, pU t, pS t, []⟩ else ⟨1, pU t, 0, []⟩

theorem tnv_1 (t : List UInt8) : (tnv t).1 = ⟨if (46 : UInt8) ∈ t then 2 else 1, pU (trimP t), pS (trimP t), []⟩ := by
  unfold tnv pU pS
  cases PR (trimP t) with
  | none => rfl
  | some q => obtain ⟨b, n, s⟩ := q; rfl
theorem pU_in (t : List UInt8) : -9223372036854775808 ≤ pU t ∧ pU t ≤ 9223372036854775807 := by
  unfold pU
  cases PR t with
  | none => simp
  | some q =>
    obtain ⟨b, n, s⟩ := q
    simp only
    unfold nz
    split
    · rename_i h; exact (fits_iff _).1 h
    · simp
end Go.Proofs.YtibbenhplmmmiaaGreatDoor
