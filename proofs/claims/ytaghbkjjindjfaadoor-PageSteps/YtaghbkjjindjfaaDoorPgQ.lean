/-
  The document's slots as they lie in memory; the contract of its room.
-/
import Derived.Test.YtaghbkjjindjfaaDoorPgL
namespace Go.Proofs.YtaghbkjjindjfaaDoor
open Go.RowKit

/-- A slot of the document's lies in two cells: its record, and whether there is one. -/
def Bt2 (w : World) (b o : Nat) (c : Cn) : Prop := w.cell? ⟨b, o, none⟩ = some (.slice c.ao c.n c.cap) ∧ w.cell? ⟨b, o + 1, none⟩ = some (.bool c.t)
theorem Bt2.lt {w : World} {b o : Nat} {c : Cn} (h : Bt2 w b o c) : b < w.heap.size := World.block_lt_of_cell? w _ h.1
theorem Bt2.later {w w' : World} {b o : Nat} {c : Cn} (h : Bt2 w b o c) (hb : Below w.heap.size w w') : Bt2 w' b o c :=
  ⟨by rw [hb.cell (p := ⟨b, o, none⟩) h.lt]; exact h.1, by rw [hb.cell (p := ⟨b, o + 1, none⟩) h.lt]; exact h.2⟩
def Bw (w : World) (ao : Option Addr) (cs : List Cn) : Prop := 0 < cs.length → ∃ b off, ao = some ⟨b, off, none⟩ ∧ ∀ i (h : i < cs.length), Bt2 w b (off + i * 2) cs[i]
theorem Bw.later {w w' : World} {ao : Option Addr} {cs : List Cn} (h : Bw w ao cs) (hb : Below w.heap.size w w') : Bw w' ao cs := by
  intro hp
  obtain ⟨b, off, e, hc⟩ := h hp
  exact ⟨b, off, e, fun i hi => (hc i hi).later hb⟩

set_option maxHeartbeats 1000000 in
theorem rroom_any (ao : Option Addr) (cap : Nat) (cs : List Cn) (w : World) (hc : Bw w ao cs) (hl : cs.length ≤ 1000) (hu : usedN cs ≤ 4611686018427387904) :
    Calls Tryd.prog 30 #[.slice ao cs.length cap] w fun e w' => e = .returned (.int .i64 (502 - 4 * (cs.length : Int) - (usedN cs : Int))) ∧ w = w' := by
  obtain ⟨n, hn⟩ : ∃ n, cs.length = n := ⟨_, rfl⟩
  rw [hn] at hl ⊢
  have HN : Hid (cs.length = n) := hn
  have HU : Hid (usedN cs ≤ 4611686018427387904) := hu
  clear hn hu
  go_enter Tryd.func30, Tryd.ntmps30
  go_wp2
  go_loop [3, 4] (fun r i => ∃ (k m : Nat), k ≤ n ∧ i = .int .i64 k ∧ r = .int .i64 (502 - 4 * (n : Int) - (m : Int)) ∧ Hid (m = usedN (cs.take k))) (fun _ i => n - (intOf i).toNat)
  case atStart => exact ⟨0, 0, Nat.zero_le _, rfl, by simp, rfl⟩
  case round =>
    obtain ⟨k, m, hk, rfl, rfl, hm⟩ := hrel
    have hmu := usedN_le cs k
    rw [← hm.out] at hmu
    have hmu2 : m ≤ 4611686018427387904 := Nat.le_trans hmu HU.out
    by_cases hlt : k < n
    · have hkl : k < cs.length := by rw [HN.out]; exact hlt
      obtain ⟨b, off, rfl, hA⟩ := hc (by omega)
      have hA := hA k hkl
      have e1 := usedN_succ cs k hkl
      have hle := usedN_le cs (k + 1)
      rw [e1, ← hm.out] at hle
      have hle2 : m + cs[k].n ≤ 4611686018427387904 := Nat.le_trans hle HU.out
      rw [← hm.out] at e1
      have E1 : Hid (usedN (cs.take (k + 1)) = m + cs[k].n) := e1
      clear hle hmu e1 hc
      generalize cs[k] = c at *
      obtain ⟨h1, h2⟩ := hA
      go_wp2
      go_round
      case rel => exact ⟨k + 1, m + c.n, by omega, by go_num, by simp; omega, E1.out.symm⟩
      case measure => simp [intOf]; omega
    · obtain rfl : k = n := by omega
      clear hc
      go_wp2
      go_ret
      have e : cs.take k = cs := List.take_of_length_le (by rw [HN.out]; omega)
      have hm' := hm.out
      rw [e] at hm'
      exact ⟨ret_int (by rw [← hm']), rfl⟩
end Go.Proofs.YtaghbkjjindjfaaDoor
