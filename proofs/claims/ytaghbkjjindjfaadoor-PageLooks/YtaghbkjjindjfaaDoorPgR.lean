/-
  Contents of slots as they lie in memory; the contracts of page.room, firstEmpty and withoutEmptyEnd.
-/
import Derived.Test.YtaghbkjjindjfaaDoorPgC
namespace Go.Proofs.YtaghbkjjindjfaaDoor
open Go.RowKit

/-- A content as plain data: is it taken, and its record's slice. -/
structure Cn where
  t : Bool
  ao : Option Addr
  n : Nat
  cap : Nat
abbrev Cn.z : Cn := ⟨false, none, 0, 0⟩
def cnc (c : Cn) : List Value := [.bool c.t, .slice c.ao c.n c.cap]
def At2 (w : World) (b o : Nat) (c : Cn) : Prop := w.cell? ⟨b, o, none⟩ = some (.bool c.t) ∧ w.cell? ⟨b, o + 1, none⟩ = some (.slice c.ao c.n c.cap)
theorem At2.lt {w : World} {b o : Nat} {c : Cn} (h : At2 w b o c) : b < w.heap.size := World.block_lt_of_cell? w _ h.1
theorem At2.later {w w' : World} {b o : Nat} {c : Cn} (h : At2 w b o c) (hb : Below w.heap.size w w') : At2 w' b o c :=
  ⟨by rw [hb.cell (p := ⟨b, o, none⟩) h.lt]; exact h.1, by rw [hb.cell (p := ⟨b, o + 1, none⟩) h.lt]; exact h.2⟩
/-- Contents lie behind an address. -/
def Cw (w : World) (ao : Option Addr) (cs : List Cn) : Prop := 0 < cs.length → ∃ b off, ao = some ⟨b, off, none⟩ ∧ ∀ i (h : i < cs.length), At2 w b (off + i * 2) cs[i]
theorem Cw.later {w w' : World} {ao : Option Addr} {cs : List Cn} (h : Cw w ao cs) (hb : Below w.heap.size w w') : Cw w' ao cs := by
  intro hp
  obtain ⟨b, off, e, hc⟩ := h hp
  exact ⟨b, off, e, fun i hi => (hc i hi).later hb⟩
/-- A content is a slot's. -/
def CnR (w : World) (c : Cn) : Slt → Prop
  | none => c = Cn.z
  | some b => c.t = true ∧ Rd w c.ao c.n c.cap b
theorem CnR.later {w w' : World} {c : Cn} {s : Slt} (h : CnR w c s) (hb : Below w.heap.size w w') : CnR w' c s := by
  cases s with
  | none => exact h
  | some b => exact ⟨h.1, h.2.later hb⟩
theorem CnR.len {w : World} {c : Cn} {s : Slt} (h : CnR w c s) : (sb s).length = c.n := by
  cases s with
  | none => cases h; rfl
  | some b => exact h.2.1
theorem CnR.taken {w : World} {c : Cn} {s : Slt} (h : CnR w c s) : c.t = s.isSome := by
  cases s with
  | none => cases h; rfl
  | some b => exact h.1
def CsR (w : World) (cs : List Cn) (l : List Slt) : Prop := cs.length = l.length ∧ ∀ i (h : i < cs.length) (h' : i < l.length), CnR w cs[i] l[i]
theorem CsR.later {w w' : World} {cs : List Cn} {l : List Slt} (h : CsR w cs l) (hb : Below w.heap.size w w') : CsR w' cs l := ⟨h.1, fun i h1 h2 => (h.2 i h1 h2).later hb⟩
def usedN : List Cn → Nat
  | [] => 0
  | c :: l => c.n + usedN l
theorem usedN_append (l m : List Cn) : usedN (l ++ m) = usedN l + usedN m := by
  induction l with
  | nil => simp [usedN]
  | cons s l ih => simp [usedN, ih]; omega
theorem usedN_le (l : List Cn) (k : Nat) : usedN (l.take k) ≤ usedN l := by
  have := usedN_append (l.take k) (l.drop k)
  rw [List.take_append_drop] at this; omega
theorem CsR.used {w : World} : ∀ {cs : List Cn} {l : List Slt}, CsR w cs l → usedN cs = used l
  | [], [], _ => rfl
  | [], _ :: _, h => by have := h.1; simp at this
  | _ :: _, [], h => by have := h.1; simp at this
  | c :: cs, s :: l, h => by
    have h0 := h.2 0 (by simp) (by simp)
    have ht : CsR w cs l := ⟨by have := h.1; simpa using this, fun i h1 h2 => by have := h.2 (i + 1) (by simp; omega) (by simp; omega); simpa using this⟩
    simp only [List.getElem_cons_zero] at h0
    simp [usedN, Go.Proofs.YtaghbkjjindjfaaDoor.used, ht.used, h0.len]

theorem usedN_succ (cs : List Cn) (k : Nat) (h : k < cs.length) : usedN (cs.take (k + 1)) = usedN (cs.take k) + cs[k].n := by
  rw [List.take_succ_eq_append_getElem h, usedN_append]; simp [usedN]

set_option maxHeartbeats 1000000 in
theorem room_any (ao : Option Addr) (cap : Nat) (cs : List Cn) (w : World) (hc : Cw w ao cs) (hl : cs.length ≤ 1000) (hu : usedN cs ≤ 4611686018427387904) :
    Calls Tryd.prog 29 #[.slice ao cs.length cap] w fun e w' => e = .returned (.int .i64 (502 - 4 * (cs.length : Int) - (usedN cs : Int))) ∧ Below w.heap.size w w' := by
  obtain ⟨n, hn⟩ : ∃ n, cs.length = n := ⟨_, rfl⟩
  rw [hn] at hl ⊢
  have HN : Hid (cs.length = n) := hn
  have HU : Hid (usedN cs ≤ 4611686018427387904) := hu
  clear hn hu
  go_enter Tryd.func29, Tryd.ntmps29
  go_wp2
  go_loopw [3, 12] (fun r i wr => ∃ (k m : Nat), k ≤ n ∧ i = .int .i64 k ∧ r = .int .i64 (502 - (n : Int) * 4 - (m : Int)) ∧ Hid (m = usedN (cs.take k)) ∧ Below w.heap.size w wr) (fun _ i _ => n - (intOf i).toNat)
  case atStart => exact ⟨0, 0, Nat.zero_le _, rfl, by simp, rfl, Below.refl _ _⟩
  case round =>
    obtain ⟨k, m, hk, rfl, rfl, hm, hbl⟩ := hrel
    have hmu := usedN_le cs k
    rw [← hm.out] at hmu
    have hmu2 : m ≤ 4611686018427387904 := Nat.le_trans hmu HU.out
    by_cases hlt : k < n
    · have hkl : k < cs.length := by rw [HN.out]; exact hlt
      obtain ⟨b, off, rfl, hA⟩ := (hc.later hbl) (by omega)
      have hA := hA k hkl
      have e1 := usedN_succ cs k hkl
      have hle := usedN_le cs (k + 1)
      rw [e1, ← hm.out] at hle
      have hle2 : m + cs[k].n ≤ 4611686018427387904 := Nat.le_trans hle HU.out
      rw [← hm.out] at e1
      have E1 : Hid (usedN (cs.take (k + 1)) = m + cs[k].n) := e1
      clear hle hmu e1
      generalize cs[k] = c at *
      obtain ⟨h1, h2⟩ := hA
      go_wp2
      exact ⟨⟨k + 1, m + c.n, by omega, by go_num, by simp; omega, E1.out.symm, hbl.alloc hbl.size _⟩, by simp [intOf]; omega⟩
    · obtain rfl : k = n := by omega
      go_wp2
      go_ret
      have e : cs.take k = cs := List.take_of_length_le (by rw [HN.out]; omega)
      have hm' := hm.out
      rw [e] at hm'
      exact ⟨ret_int (by rw [← hm']; omega), hbl⟩

set_option maxHeartbeats 1000000 in
theorem firstEmpty_any (ao : Option Addr) (cap : Nat) (cs : List Cn) (w : World) (hc : Cw w ao cs) (hl : cs.length ≤ 1000) :
    Calls Tryd.prog 33 #[.slice ao cs.length cap] w fun e w' => ∃ k : Nat, k ≤ cs.length ∧ e = .returned (.int .i64 (k : Int)) ∧ (∀ i (h : i < cs.length), i < k → cs[i].t = true) ∧ (∀ h : k < cs.length, cs[k].t = false) ∧ Below w.heap.size w w' := by
  obtain ⟨n, hn⟩ : ∃ n, cs.length = n := ⟨_, rfl⟩
  have HN : Hid (cs.length = n) := hn
  rw [hn] at hl
  rw [show (Value.slice ao cs.length cap) = .slice ao n cap by rw [hn]]
  clear hn
  go_enter Tryd.func33, Tryd.ntmps33
  go_wp2
  go_loopw [7] (fun i wr => ∃ (k : Nat), k ≤ n ∧ i = .int .i64 k ∧ Hid (∀ i (h : i < cs.length), i < k → cs[i].t = true) ∧ Below w.heap.size w wr) (fun i _ => n - (intOf i).toNat)
  case atStart => exact ⟨0, Nat.zero_le _, rfl, fun i _ h => absurd h (by omega), Below.refl _ _⟩
  case round =>
    obtain ⟨k, hk, rfl, hm, hbl⟩ := hrel
    by_cases hlt : k < n
    · have hkl : k < cs.length := by rw [HN.out]; exact hlt
      obtain ⟨b, off, rfl, hA⟩ := (hc.later hbl) (by omega)
      have hA := hA k hkl
      obtain ⟨c, hck⟩ : ∃ c, c = cs[k] := ⟨_, rfl⟩
      rw [← hck] at hA
      have HC : Hid (c = cs[k]) := hck
      clear hck
      obtain ⟨ct, cao, cn, ccap⟩ := c
      obtain ⟨h1, h2⟩ := hA
      cases ct with
      | false =>
        go_wp2
        go_ret
        refine ⟨k, by rw [HN.out]; exact hk, rfl, hm.out, fun _ => by rw [← HC.out], hbl.alloc hbl.size _⟩
      | true =>
        go_wp2
        go_roundw
        case rel => exact ⟨k + 1, by omega, by go_num, fun i hi h => by
          rcases Nat.lt_or_ge i k with h' | h'
          · exact hm.out i hi h'
          · obtain rfl : i = k := by omega
            rw [← HC.out], hbl.alloc hbl.size _⟩
        case measure => simp [intOf]; omega
    · obtain rfl : k = n := by omega
      go_wp2
      go_ret
      exact ⟨k, by rw [HN.out]; exact Nat.le_refl _, rfl, hm.out, fun h => absurd h (by rw [HN.out]; omega), hbl⟩

def slen : Value → Nat
  | .slice _ n _ => n
  | _ => 0

set_option maxHeartbeats 1000000 in
theorem strip_any (ao : Option Addr) (cap : Nat) (cs : List Cn) (w : World) (hc : Cw w ao cs) (hl : cs.length ≤ 1000) (hcap : cs.length ≤ cap) (hm : cap ≤ maxLen) :
    Calls Tryd.prog 36 #[.slice ao cs.length cap] w fun e w' => ∃ k : Nat, k ≤ cs.length ∧ e = .returned (.slice ao k cap) ∧ (∀ i (h : i < cs.length), k ≤ i → cs[i].t = false) ∧ (∀ j (h : j < cs.length), j + 1 = k → cs[j].t = true) ∧ Below w.heap.size w w' := by
  obtain ⟨n, hn⟩ : ∃ n, cs.length = n := ⟨_, rfl⟩
  have HN : Hid (cs.length = n) := hn
  rw [hn] at hl hcap
  rw [show (Value.slice ao cs.length cap) = .slice ao n cap by rw [hn]]
  clear hn
  unfold maxLen at hm
  go_enter Tryd.func36, Tryd.ntmps36
  go_wp2
  go_loopw [0] (fun v wr => ∃ (k : Nat), k ≤ n ∧ v = .slice ao k cap ∧ Hid (∀ i (h : i < cs.length), k ≤ i → cs[i].t = false) ∧ Below w.heap.size w wr) (fun v _ => slen v)
  case atStart => exact ⟨n, Nat.le_refl _, rfl, fun i h h' => absurd h (by rw [HN.out]; omega), Below.refl _ _⟩
  case round =>
    obtain ⟨k, hk, rfl, hm, hbl⟩ := hrel
    rcases Nat.eq_zero_or_pos k with hz | hz
    · subst hz
      go_wp2
      go_ret
      exact ⟨0, Nat.zero_le _, rfl, hm.out, fun j _ h => absurd h (by omega), hbl⟩
    · obtain ⟨j, rfl⟩ : ∃ j, k = j + 1 := ⟨k - 1, by omega⟩
      have hkl : j < cs.length := by rw [HN.out]; omega
      obtain ⟨b, off, rfl, hA⟩ := (hc.later hbl) (by omega)
      have hA := hA j hkl
      obtain ⟨c, hck⟩ : ∃ c, c = cs[j] := ⟨_, rfl⟩
      rw [← hck] at hA
      have HC : Hid (c = cs[j]) := hck
      clear hck
      obtain ⟨ct, cao, cn, ccap⟩ := c
      obtain ⟨h1, h2⟩ := hA
      have hj0 : (0 : Int) < ((j + 1 : Nat) : Int) := by omega
      have hjc : ((j : Nat) : Int) ≤ (cap : Int) := by omega
      have hc0 : ¬ cap = 0 := by omega
      cases ct with
      | true =>
        go_wp2
        go_ret
        refine ⟨j + 1, by rw [HN.out]; exact hk, rfl, hm.out, fun i h e => ?_, hbl⟩
        obtain rfl : i = j := by omega
        rw [← HC.out]
      | false =>
        go_wp2
        refine ⟨⟨j, by omega, rfl, fun i h h' => ?_, hbl⟩, by simp [slen]⟩
        rcases Nat.eq_or_lt_of_le h' with e | e
        · subst e
          rw [← HC.out]
        · exact hm.out i h (by omega)
end Go.Proofs.YtaghbkjjindjfaaDoor
