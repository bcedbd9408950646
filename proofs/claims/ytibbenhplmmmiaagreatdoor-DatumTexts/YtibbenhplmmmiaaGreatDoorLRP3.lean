/-
  What the document tells of a literal's text, as plain mathematics.
-/
import Derived.Test.YtibbenhplmmmiaaGreatDoorLRParse
namespace Go.Proofs.YtibbenhplmmmiaaGreatDoor
open Go.RowKit Go.Shelf

/-- What the document takes for a text's value. -/
def rvA (t : List UInt8) : Va := ⟨3, 0, 0, qrL ((t.take (t.length - 1)).drop 1)⟩
def pU (t : List UInt8) : Int := match PR t with | none => 0 | some (b, n, _) => nz (sval b n)
def pS (t : List UInt8) : Int := match PR t with | none => 0 | some (b, n, s) => fs (sval b n) (s : Int)
theorem PV_parts (t : List UInt8) : ∃ E, PV t = .tuple #[dv (pU t) (pS t), .int .i64 E] := by
  unfold PV pU pS
  cases PR t with
  | none => exact ⟨21, rfl⟩
  | some q => obtain ⟨b, n, s⟩ := q; exact ⟨_, rfl⟩
def rvB (t : List UInt8) : Va := ⟨2, pU t.dropLast, pS t.dropLast, []⟩
def rvC (t : List UInt8) : Va := if 0 < pS t then ⟨2, pU t, pS t, []⟩ else ⟨1, pU t, 0, []⟩

theorem tnv_1 (t : List UInt8) : (tnv t).1 = ⟨if (46 : UInt8) ∈ t then 2 else 1, pU (trimP t), pS (trimP t), []⟩ := by
  unfold tnv pU pS
  cases PR (trimP t) with
  | none => rfl
  | some q => obtain ⟨b, n, s⟩ := q; rfl
theorem rvC_kind (t : List UInt8) : ((rvC t).k = 1 ∨ (rvC t).k = 2 ∨ (rvC t).k = 3) ∧ (-9223372036854775808 ≤ (rvC t).n ∧ (rvC t).n ≤ 9223372036854775807) := by
  have hU : -9223372036854775808 ≤ pU t ∧ pU t ≤ 9223372036854775807 := by
    unfold pU
    cases PR t with
    | none => simp
    | some q =>
      obtain ⟨b, n, s⟩ := q
      simp only
      unfold nz
      split
      · rename_i h; exact (fits_iff _).1 h
      · simp
  unfold rvC
  split
  · exact ⟨by simp, hU⟩
  · exact ⟨by simp, hU⟩
theorem pU_in (t : List UInt8) : -9223372036854775808 ≤ pU t ∧ pU t ≤ 9223372036854775807 := by
  unfold pU
  cases PR t with
  | none => simp
  | some q =>
    obtain ⟨b, n, s⟩ := q
    simp only
    unfold nz
    split
    · rename_i h; exact (fits_iff _).1 h
    · simp
end Go.Proofs.YtibbenhplmmmiaaGreatDoor
