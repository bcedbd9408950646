/-
  The contract of codec.takeText: what the call tells of any bytes.
-/
import Derived.Test.YtdjilmcpkeckoaaDoorReads
namespace Go.Proofs.YtdjilmcpkeckoaaDoor
open Go.RowKit

/-- The text that bytes begin with, how many bytes it has with its length, which error. -/
def takeT (bs : List UInt8) : List UInt8 × Nat × Nat :=
  if (takeL bs).2.2 ≠ 0 then ([], 0, (takeL bs).2.2)
  else if bs.length - (takeL bs).2.1 < (takeL bs).1 then ([], 0, 20)
  else ((bs.drop (takeL bs).2.1).take (takeL bs).1, (takeL bs).2.1 + (takeL bs).1, 0)

theorem Rd.cut {w : World} {b off n cap : Nat} {bs : List UInt8} (h : Rd w (some ⟨b, off, none⟩) n cap bs) (l m : Nat) (hlm : l + m ≤ n) : Rd w (some ⟨b, off + l, none⟩) m (cap - l) ((bs.drop l).take m) := by
  obtain ⟨h1, h2, h3, h4, h5⟩ := h
  refine ⟨by simp; omega, by omega, by omega, (fun h => by cases h), fun hm => ?_⟩
  obtain ⟨b', off', hao, hc⟩ := h5 (by omega)
  cases hao
  refine ⟨b, off + l, rfl, fun i hi => ?_⟩
  have hi' : i < m := by simp at hi; omega
  have := hc (l + i) (by omega)
  rw [Nat.add_assoc, this]
  simp

set_option maxHeartbeats 400000 in
theorem takeText_any (ao : Option Addr) (n cap : Nat) (bs : List UInt8) (w : World) (h : Rd w ao n cap bs) :
    Calls Tryd.prog 42 #[.slice ao n cap] w fun e w' => e = .returned (.tuple #[.string ⟨(takeT bs).1.toArray⟩, .int .i64 ((takeT bs).2.1 : Int), .int .i64 ((takeT bs).2.2 : Int)]) ∧ w = w' := by
  have hcall := takeLength_any ao n cap bs w h
  have hsz := takeL_size bs
  have hT : takeT bs = if (takeL bs).2.2 ≠ 0 then ([], 0, (takeL bs).2.2) else if bs.length - (takeL bs).2.1 < (takeL bs).1 then ([], 0, 20) else ((bs.drop (takeL bs).2.1).take (takeL bs).1, (takeL bs).2.1 + (takeL bs).1, 0) := rfl
  generalize takeT bs = t at hT
  generalize (takeL bs).1 = m at hcall hT hsz
  generalize (takeL bs).2.1 = k at hcall hT hsz
  generalize (takeL bs).2.2 = er at hcall hT hsz
  have HC : Hid (Calls Tryd.prog 44 #[.slice ao n cap] w fun e w' => e = .returned (.tuple #[.int .i64 (m : Int), .int .i64 (k : Int), .int .i64 (er : Int)]) ∧ w = w') := hcall
  clear hcall
  have hn := h.2.2.1
  have hnc := h.2.1
  have hbl := h.1
  unfold maxLen at hn
  by_cases he : er = 0
  · subst he
    obtain ⟨hk0, hkn, hm1⟩ := hsz rfl
    clear hsz
    rw [if_neg (by simp)] at hT
    by_cases hlt : bs.length - k < m
    · rw [if_pos hlt] at hT
      subst hT
      clear h
      have hlt' : (n : Int) - (k : Int) < (m : Int) := by omega
      go_enter Tryd.func42, Tryd.ntmps42
      go_wp2_with (go_at_call 44; refine HC.out.mono ?_; rintro e w' ⟨rfl, rfl⟩)
      go_ret3
      exact ⟨rfl, rfl⟩
    · rw [if_neg hlt] at hT
      subst hT
      have hlt' : ¬ (n : Int) - (k : Int) < (m : Int) := by omega
      obtain ⟨b, off, rfl, _⟩ := h.2.2.2.2 (by omega)
      by_cases hcap : cap = k
      · have hm0 : m = 0 := by omega
        subst hm0
        subst hcap
        have hcv := fun W : World => run_string_of (P := Tryd.prog) (w := W) (ao := some ⟨b, off, none⟩) (n := 0) (cap := 0) (bs := []) 22 9 5 Tryd.underlying22 Tryd.underlying5 Tryd.underlying9 ⟨rfl, Nat.le_refl _, Nat.zero_le _, (fun h => by cases h), fun h => by omega⟩
        clear h
        go_enter Tryd.func42, Tryd.ntmps42
        go_wp2_with (go_at_call 44; refine HC.out.mono ?_; rintro e w' ⟨rfl, rfl⟩)
        go_ret3
        exact ⟨rfl, rfl⟩
      · have hcv := run_string_of (P := Tryd.prog) 22 9 5 Tryd.underlying22 Tryd.underlying5 Tryd.underlying9 (h.cut k m (by omega))
        clear h
        go_enter Tryd.func42, Tryd.ntmps42
        go_wp2_with (go_at_call 44; refine HC.out.mono ?_; rintro e w' ⟨rfl, rfl⟩)
        go_ret3
        exact ⟨ret_three rfl rfl rfl, rfl⟩
  · rw [if_pos he] at hT
    subst hT
    clear hsz h
    have he2 : ((er : Int) != 0) = true := by simp; omega
    clear he
    go_enter Tryd.func42, Tryd.ntmps42
    go_wp2_with (go_at_call 44; refine HC.out.mono ?_; rintro e w' ⟨rfl, rfl⟩)
    go_ret3
    exact ⟨rfl, rfl⟩
end Go.Proofs.YtdjilmcpkeckoaaDoor
