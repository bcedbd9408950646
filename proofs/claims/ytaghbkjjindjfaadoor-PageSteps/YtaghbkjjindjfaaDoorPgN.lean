/-
  How the document's read goes through bytes: that it comes to the same slots. No program.
-/
import Derived.Test.YtaghbkjjindjfaaDoorPgB
namespace Go.Proofs.YtaghbkjjindjfaaDoor
open Go.RowKit

/-- What the document's read makes of slot number j. -/
def dsl (bs : List UInt8) (j : Nat) : Slt := if fld bs (2 + 4 * j) = 0 then none else some ((bs.drop (fld bs (2 + 4 * j))).take (fld bs (4 + 4 * j)))
def dl (bs : List UInt8) (i : Nat) : List Slt := (List.range i).map (dsl bs)
theorem dl_len (bs : List UInt8) (i : Nat) : (dl bs i).length = i := by simp [dl]
theorem dl_succ (bs : List UInt8) (i : Nat) : dl bs (i + 1) = dl bs i ++ [dsl bs i] := by simp [dl, List.range_succ]
theorem pg_slots {bs : List UInt8} {m : List Slt} (h : pg bs = some m) : fld bs 0 = m.length ∧ ∀ j (hj : j < m.length), slotAt bs j = some m[j] := by
  obtain ⟨e, hf, -, -, -⟩ := pg_some h
  refine ⟨by rw [e]; exact cnt_page m hf, fun j hj => ?_⟩
  have e2 : m = m.take j ++ m[j] :: m.drop (j + 1) := by simp
  have := slotAt_page (m.take j) (m.drop (j + 1)) m[j] (by rw [← e2]; exact hf)
  rw [← e2, ← e, List.length_take, Nat.min_eq_left (by omega)] at this
  exact this
theorem slotAt_dsl {bs : List UInt8} {j : Nat} {s : Slt} (h : slotAt bs j = some s) : fld bs (2 + 4 * j) + fld bs (4 + 4 * j) ≤ 504 ∧ s = dsl bs j := by
  unfold slotAt at h
  split at h
  · cases h
  · exact ⟨by omega, by unfold dsl; exact (Option.some.inj h).symm⟩
theorem pg_dl {bs : List UInt8} {m : List Slt} (h : pg bs = some m) : m = dl bs (fld bs 0) := by
  obtain ⟨hn, hs⟩ := pg_slots h
  apply List.ext_getElem
  · rw [dl_len, hn]
  · intro j h1 h2
    have := (slotAt_dsl (hs j h1)).2
    rw [this]
    simp [dl]
theorem dl_take (bs : List UInt8) (i n : Nat) (h : i ≤ n) : (dl bs n).take i = dl bs i := by
  unfold dl
  rw [← List.map_take, List.take_range, Nat.min_eq_left h]
/-- Where read ends early the bytes are no page. -/
theorem pg_early {bs : List UInt8} (hl : bs.length = 512) (i : Nat) (hi : i < fld bs 0) (ha : fld bs (2 + 4 * i) ≠ 0) (hb : 504 < fld bs (2 + 4 * i) + fld bs (4 + 4 * i) ∨ 504 < used (dl bs i) + fld bs (4 + 4 * i)) : pg bs = none := by
  cases h : pg bs with
  | none => rfl
  | some m =>
    exfalso
    obtain ⟨hn, hs⟩ := pg_slots h
    have hf := (pg_some h).2.1
    have hm := pg_dl h
    obtain ⟨h1, h2⟩ := slotAt_dsl (hs i (by omega))
    rcases hb with hb | hb
    · omega
    · have hu := used_le m i (by omega)
      unfold fits at hf
      have e1 : m.take i = dl bs i := by rw [hm, dl_take bs i _ (by omega)]
      rw [e1, h2] at hu
      unfold dsl at hu
      rw [if_neg ha] at hu
      simp only [sb, Option.getD_some, List.length_take, List.length_drop] at hu
      omega
theorem pg_long {bs : List UInt8} (h : 504 < 2 + 4 * fld bs 0) : pg bs = none := by
  cases h' : pg bs with
  | none => rfl
  | some m =>
    have h1 := (pg_slots h').1
    have h2 := fits_count (pg_some h').2.1
    omega
theorem pg_full {bs : List UInt8} (h : ¬ fits (dl bs (fld bs 0))) : pg bs = none := by
  cases h' : pg bs with
  | none => rfl
  | some m => exact absurd ((pg_dl h') ▸ (pg_some h').2.1) h
theorem strips_last {l l2 : List Slt} (h : Strips l l2) (hl : lastOk l) : l2 = l := by
  obtain ⟨k, hk, rfl, hn, -⟩ := h
  by_cases e : k = l.length
  · subst e; exact List.take_length
  · exfalso
    refine hl ?_
    rw [List.getLast?_eq_getElem?, List.getElem?_eq_getElem (by omega)]
    rw [hn (l.length - 1) (by omega) (by omega)]
theorem strips_len {l l2 : List Slt} (h : Strips l l2) (he : l2.length = l.length) : l2 = l := by
  obtain ⟨k, hk, rfl, -, -⟩ := h
  rw [List.length_take] at he
  rw [List.take_of_length_le (by omega)]
theorem pg_same {bs : List UInt8} {l2 : List Slt} (hf : fits (dl bs (fld bs 0))) (hs : Strips (dl bs (fld bs 0)) l2) : pg bs = if pageL l2 == bs then some (dl bs (fld bs 0)) else none := by
  split
  · rename_i e
    have e' : bs = pageL l2 := (by simpa using e : pageL l2 = bs).symm
    have hf2 := hs.fits hf
    have hk2 : lastOk l2 := by obtain ⟨_, _, _, _, h⟩ := hs; exact h
    have h1 := pg_page l2 hf2 hk2
    rw [← e'] at h1
    rw [h1, ← pg_dl h1]
  · rename_i e
    cases h' : pg bs with
    | none => rfl
    | some m =>
      exfalso
      obtain ⟨e1, -, hl, -, -⟩ := pg_some h'
      have hm := pg_dl h'
      have h2 := strips_last hs (hm ▸ hl)
      refine e ?_
      rw [h2, ← hm, ← e1]
      simp
end Go.Proofs.YtaghbkjjindjfaaDoor
