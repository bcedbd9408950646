/-
  What bytes tell, record by record, as plain data; s[n:] of whatever slice of bytes.
-/
import Derived.Test.YtonjjbmjholkjaaGreatDoorWlU
namespace Go.Proofs.YtonjjbmjholkjaaGreatDoor
open Go.RowKit

/-- A record: where it begins, what is in it, where it ends. -/
structure It where
  off : Nat
  inn : List UInt8
  fin : Nat

/-- The records that bytes begin with. -/
def recL : Nat → Nat → List UInt8 → List It
  | 0, _, _ => []
  | f + 1, off, bs => if (takeR bs).2.2 = 0 then ⟨off, (takeR bs).1, off + (takeR bs).2.1⟩ :: recL f (off + (takeR bs).2.1) (bs.drop (takeR bs).2.1) else []

theorem takeR_size (bs : List UInt8) (h : (takeR bs).2.2 = 0) : 9 ≤ (takeR bs).2.1 ∧ (takeR bs).2.1 ≤ bs.length ∧ (takeR bs).1.length ≤ 1048576 := by
  unfold takeR at *
  split at h
  · rename_i h1; exact absurd h (by simpa using h1)
  · rename_i h1
    have h1' : (takeL bs).2.2 = 0 := by simpa using h1
    obtain ⟨a, b, c⟩ := takeL_size bs h1'
    split at h
    · simp at h
    · rename_i h2
      split at h
      · simp at h
      · rename_i h3
        rw [if_neg h1, if_neg h2, if_neg h3]
        simp only [List.length_take, List.length_drop]
        omega

theorem recL_fuel : ∀ (f g off : Nat) (bs : List UInt8), bs.length < f → bs.length < g → recL f off bs = recL g off bs := by
  intro f
  induction f with
  | zero => intro g off bs h; omega
  | succ f ih =>
    intro g off bs hf hg
    obtain ⟨g, rfl⟩ : ∃ g', g = g' + 1 := ⟨g - 1, by omega⟩
    simp only [recL]
    by_cases h : (takeR bs).2.2 = 0
    · rw [if_pos h, if_pos h]
      have := takeR_size bs h
      rw [ih g _ _ (by simp; omega) (by simp; omega)]
    · rw [if_neg h, if_neg h]

/-- All of them. -/
def rcs (off : Nat) (bs : List UInt8) : List It := recL (bs.length + 1) off bs

theorem rcs_no (off : Nat) (bs : List UInt8) (h : (takeR bs).2.2 ≠ 0) : rcs off bs = [] := by
  simp [rcs, recL, h]

theorem rcs_yes (off : Nat) (bs : List UInt8) (h : (takeR bs).2.2 = 0) : rcs off bs = ⟨off, (takeR bs).1, off + (takeR bs).2.1⟩ :: rcs (off + (takeR bs).2.1) (bs.drop (takeR bs).2.1) := by
  have := takeR_size bs h
  have e : rcs off bs = ⟨off, (takeR bs).1, off + (takeR bs).2.1⟩ :: recL bs.length (off + (takeR bs).2.1) (bs.drop (takeR bs).2.1) := by
    show recL (bs.length + 1) off bs = _
    simp only [recL]
    rw [if_pos h]
  rw [e]
  unfold rcs
  rw [recL_fuel bs.length _ _ _ (by simp; omega) (Nat.lt_succ_self _)]

/-- Where the last one ends. -/
def endL (off : Nat) (l : List It) : Nat := l.foldl (fun _ x => x.fin) off

theorem endL_snoc (off : Nat) (l : List It) (x : It) : endL off (l ++ [x]) = x.fin := by simp [endL]

theorem endL_cons (off : Nat) (l : List It) (x : It) : endL off (x :: l) = endL x.fin l := rfl

theorem rcs_end : ∀ (n off : Nat) (bs : List UInt8), bs.length ≤ n → off ≤ endL off (rcs off bs) ∧ endL off (rcs off bs) ≤ off + bs.length := by
  intro n
  induction n with
  | zero =>
    intro off bs h
    have : bs = [] := List.eq_nil_of_length_eq_zero (by omega)
    subst this
    have : rcs off [] = [] := by
      by_cases h : (takeR []).2.2 = 0
      · have := takeR_size [] h; simp at this; omega
      · exact rcs_no _ _ h
    rw [this]; simp [endL]
  | succ n ih =>
    intro off bs hn
    by_cases h : (takeR bs).2.2 = 0
    · have hs := takeR_size bs h
      rw [rcs_yes off bs h, endL_cons]
      have := ih (off + (takeR bs).2.1) (bs.drop (takeR bs).2.1) (by simp; omega)
      simp only [List.length_drop] at this
      dsimp only
      omega
    · rw [rcs_no off bs h]; simp [endL]

/-- s[n:], of a slice of bytes that lies somewhere. -/
theorem slice_tail {w : World} {ao : Option Addr} {m cap : Nat} {bs : List UInt8} (h : Rd w ao m cap bs) (n : Nat) (hn : n ≤ m) :
    ∃ ao', (∀ W, (Instr.slice 22 (.slice ao m cap) (some (.int .i64 (n : Int))) none none).run Tryz.prog W = .ok (.slice ao' (m - n) (cap - n)) W) ∧
      (∀ W, Rd W ao m cap bs → Rd W ao' (m - n) (cap - n) (bs.drop n)) ∧ ∀ x, ao' = some x → ∃ y, ao = some y ∧ y.block = x.block := by
  have hcap := h.2.1
  have hl := h.1
  cases ao with
  | none =>
    obtain ⟨rfl, rfl⟩ := h.2.2.2.1 rfl
    obtain rfl : n = 0 := by omega
    refine ⟨none, fun W => ?_, fun W hW => by simpa using hW, fun x e => by cases e⟩
    simp [Instr.slice, Instr.sliceBounds, Instr.sliceBound, asIntOf, run_underlying Tryz.underlying22]
  | some a =>
    have rd : ∀ (W : World) (x : Addr), (0 < m - n → x = a.add n) → Rd W (some a) m cap bs → Rd W (some x) (m - n) (cap - n) (bs.drop n) := fun W x hx hW => by
      refine ⟨by simp; omega, by omega, by have := hW.2.2.1; omega, (fun e => by cases e), fun hp => ?_⟩
      obtain ⟨b, off, e, hc⟩ := hW.2.2.2.2 (by omega)
      cases e
      rw [hx hp, Addr.add_lit]
      refine ⟨b, off + n, rfl, fun i hi => ?_⟩
      have hi2 : n + i < bs.length := by simp at hi; omega
      have := hc (n + i) hi2
      rw [show off + n + i = off + (n + i) by omega, this]
      congr 2
      simp
    by_cases hc : cap - n = 0
    · refine ⟨some a, fun W => ?_, fun W hW => rd W a (fun _ => by omega) hW, fun x e => ⟨x, e, rfl⟩⟩
      simp [Instr.slice, Instr.sliceBounds, Instr.sliceBound, asIntOf, run_underlying Tryz.underlying22, hc, hn]
      first | done | (intro h; omega)
    · have hcf : ¬ cap = n := by omega
      refine ⟨some (a.add n), fun W => ?_, fun W hW => rd W _ (fun _ => rfl) hW, fun x e => ?_⟩
      · simp [Instr.slice, Instr.sliceBounds, Instr.sliceBound, asIntOf, run_underlying Tryz.underlying22, hn]
        first | done | (intro h; omega) | (rw [if_neg (by omega)])
      · refine ⟨a, rfl, ?_⟩
        have e1 := Option.some.inj e
        rw [← e1]
        unfold Addr.add
        split <;> rfl
end Go.Proofs.YtonjjbmjholkjaaGreatDoor
