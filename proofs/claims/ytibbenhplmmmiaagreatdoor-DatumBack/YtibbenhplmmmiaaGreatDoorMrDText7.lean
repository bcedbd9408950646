/-
  A scope that is entered ahead of its one label and jumps back to it a few times: its passes, one behind the other. Nothing of the program is in it.
  Toward the program's Print: passes by induction, the room.
  The program's tellDigits: the number of the digits that a text begins with, and how many they are.
-/
import Derived.ScopeJumps
import Derived.Tactics
import Derived.Test.YtibbenhplmmmiaaGreatDoorDText3
namespace Go.Proofs.YtibbenhplmmmiaaGreatDoor

/-- n passes from the label at most. -/
def passes (P : Program) (l : Nat) (rest : Code) (Q : Exit → Act → World → Prop) : Nat → Act → World → Prop
  | 0, _, _ => False
  | n + 1, a, w => rest.wp P (Exit.jump l (passes P l rest Q n) Q) a w

theorem wp_scope_passes {P : Program} {a : Act} {w : World} {Q : Exit → Act → World → Prop} {c rest : Code} (l n : Nat) (hf : findLabel c l = some rest)
    (first : c.wp P (Exit.jump l (passes P l rest Q n) Q) a w) : (Code.scope c).wp P Q a w := by
  intro b k cs
  have hg : gotoIn l (.inScope c :: k) = some (.code rest :: .inScope c :: k) := by simp [gotoIn, hf]
  have key : ∀ n a w, passes P l rest Q n a w → ∃ e a' w', Q e a' w' ∧ Arrives P (lone (b.at a (.code rest :: .inScope c :: k)) cs w) b k cs e a' w' := by
    intro n
    induction n with
    | zero => intro a w h; exact h.elim
    | succ n ih =>
      intro a w hJ
      obtain ⟨e, a₁, w₁, hq, harr⟩ := hJ b (.inScope c :: k) cs
      cases e with
      | normal => exact ⟨.normal, a₁, w₁, hq, Steps.trans harr (.one step_inScope)⟩
      | exit id => exact ⟨.exit id, a₁, w₁, hq, fun k' hk => harr k' (by simp [exitTo, hk])⟩
      | goto l' =>
        obtain ⟨rfl, hJ'⟩ := hq
        obtain ⟨e₂, a₂, w₂, hq₂, harr₂⟩ := ih a₁ w₁ hJ'
        exact ⟨e₂, a₂, w₂, hq₂, .of_steps (harr _ hg) harr₂⟩
      | ret => exact ⟨_, a₁, w₁, hq, harr⟩
      | panic ch => exact ⟨_, a₁, w₁, hq, harr⟩
      | outgrown => exact ⟨_, a₁, w₁, hq, harr⟩
  obtain ⟨e, a₁, w₁, hq, harr⟩ := first b (.inScope c :: k) cs
  cases e with
  | normal => exact ⟨.normal, a₁, w₁, hq, .head step_scope (Steps.trans harr (.one step_inScope))⟩
  | exit id => exact ⟨.exit id, a₁, w₁, hq, fun k' hk => .head step_scope (harr k' (by simp [exitTo, hk]))⟩
  | goto l' =>
    obtain ⟨rfl, hJ'⟩ := hq
    obtain ⟨e₂, a₂, w₂, hq₂, harr₂⟩ := key _ a₁ w₁ hJ'
    exact ⟨e₂, a₂, w₂, hq₂, .of_steps (.head step_scope (harr _ hg)) harr₂⟩
  | ret => exact ⟨_, a₁, w₁, hq, .of_steps (.one step_scope) harr⟩
  | panic ch => exact ⟨_, a₁, w₁, hq, .of_steps (.one step_scope) harr⟩
  | outgrown => exact ⟨_, a₁, w₁, hq, .of_steps (.one step_scope) harr⟩
end Go.Proofs.YtibbenhplmmmiaaGreatDoor

namespace Go.Proofs.YtibbenhplmmmiaaGreatDoor
open Go.RowKit

/-- Passes by induction: each leads to the next, or out. -/
theorem pass_ind {P : Program} {l : Nat} {body : Code} {Q : Exit → Act → World → Prop} (R : Nat → Act → World → Prop) (none0 : ∀ a w, ¬ R 0 a w)
    (step : ∀ (f : Nat) (K : Act → World → Prop), (∀ a w, R f a w → K a w) → ∀ a w, R (f + 1) a w → body.wp P (Exit.jump l K Q) a w) (F : Nat) {a : Act} {w : World} (h : R (F + 1) a w) :
    body.wp P (Exit.jump l (passes P l (Code.skip.seq body) Q F) Q) a w := by
  refine step F _ ?_ a w h
  clear h
  induction F with
  | zero => intro a w h; exact absurd h (none0 a w)
  | succ F ih => intro a w h; exact wp_seq (wp_skip (step F _ ih a w h))

/-- The room: what is written lies at its end. -/
def Room (C : Array Value) (t : List UInt8) (j : Nat) : Prop :=
  C.size = 21 ∧ j + t.length = 21 ∧ (∀ i, i < 21 → ∃ y : UInt8, C[i]? = some (.int .u8 (y.toNat : Int))) ∧ ∀ i (h : i < t.length), C[j + i]? = some (.int .u8 (t[i].toNat : Int))
theorem Room.cons {C : Array Value} {t : List UInt8} {j : Nat} (h : Room C t (j + 1)) (y : UInt8) : Room (C.setIfInBounds j (.int .u8 (y.toNat : Int))) (y :: t) j := by
  obtain ⟨h1, h2, h3, h4⟩ := h
  refine ⟨by simpa using h1, by rw [List.length_cons]; omega, fun i hi => ?_, fun i hi => ?_⟩
  · by_cases e : i = j
    · subst e; exact ⟨y, by rw [Array.getElem?_setIfInBounds_self, if_pos (by omega)]⟩
    · obtain ⟨z, hz⟩ := h3 i hi
      exact ⟨z, by rw [Array.getElem?_setIfInBounds_ne (by omega)]; exact hz⟩
  · cases i with
    | zero => rw [Nat.add_zero, Array.getElem?_setIfInBounds_self, if_pos (by omega)]; rfl
    | succ i =>
      rw [Array.getElem?_setIfInBounds_ne (by omega)]
      have := h4 i (by simpa using hi)
      rw [show j + 1 + i = j + (i + 1) by omega] at this
      exact this

theorem str_room (V : World) (n : Nat) (C : Array Value) (t : List UInt8) (j L : Nat) (h : Room C t j) (hL : L = t.length) :
    (convert 36 9 (.slice (some ⟨V.heap.size, j, none⟩) L L)).run Tryz.prog ((V.alloc (.cells C 175)).drewN n) = .ok (.string ⟨t.toArray⟩) ((V.alloc (.cells C 175)).drewN n) := by
  subst hL
  refine run_convert_bytes_back _ 36 9 5 ⟨V.heap.size, j, none⟩ t.length t Tryz.underlying36 Tryz.underlying5 Tryz.underlying9 fun i hi => ?_
  rw [Addr.add_lit]
  rw [World.cell?_drewN, World.cell?_alloc_at _ _ _ _ rfl]
  exact h.2.2.2 i hi

theorem written_ge (s f : Nat) : ∀ k x t, t.length ≤ (written s f k x t).length := by
  induction f with
  | zero => intro k x t; exact Nat.le_refl _
  | succ f ih =>
    intro k x t
    have h1 : t.length ≤ (told s k x t).length := by unfold told; split <;> simp <;> omega
    unfold written
    split
    · exact Nat.le_trans h1 (ih _ _ _)
    · exact h1
theorem written_told (s f k x : Nat) (t : List UInt8) : (told s k x t).length ≤ (written s (f + 1) k x t).length := by
  unfold written
  split
  · exact written_ge _ _ _ _ _
  · exact Nat.le_refl _

end Go.Proofs.YtibbenhplmmmiaaGreatDoor

namespace Go.Proofs.YtibbenhplmmmiaaGreatDoor
open Go.RowKit

/-- One digit more; what does not fit is the greatest number. -/
def nextN (n : Nat) (c : UInt8) : Nat := if n * 10 + (c.toNat - 48) < 18446744073709551616 then n * 10 + (c.toNat - 48) else 18446744073709551615
/-- The number of the digits that a list begins with, and how many they are. -/
def tellF : List UInt8 → Nat → Nat → Nat × Nat
  | [], n, i => (n, i)
  | c :: l, n, i => if c.toNat < 48 ∨ 57 < c.toNat then (n, i) else tellF l (nextN n c) (i + 1)

set_option maxRecDepth 20000 in
set_option maxHeartbeats 4000000 in
theorem tell_any (bs : List UInt8) (w : World) (hb : bs.length ≤ 9223372036854775806) :
    Calls Tryz.prog 211 #[.string ⟨bs.toArray⟩] w fun e w' => e = .returned (.tuple #[.int .u64 ((tellF bs 0 0).1 : Int), .int .i64 ((tellF bs 0 0).2 : Int)]) ∧ w = w' := by
  obtain ⟨R, hR⟩ : ∃ R, R = tellF bs 0 0 := ⟨_, rfl⟩
  rw [← hR]
  go_enter Tryz.func211, Tryz.ntmps211
  go_wp2
  refine wp_scope_passes 0 bs.length rfl ?_
  go_wp2_with fail
  apply wp_label
  rename_i aK
  refine aK _ _ ?_
  refine pass_ind (fun f a W => ∃ (i n : Nat) (z4 z5 z6 z7 z8 z9 z10 z11 z12 z13 z14 z15 z16 z17 z18 z19 z20 z21 z22 z23 z24 z25 z26 z27 z28 z29 z30 z31 z32 z33 z34 z35 z36 z37 z38 z39 z40 z41 z42 z43 z44 z45 z46 : Value), a = { tmps := #[Value.string { data := bs.toArray }, undef, Value.int IntKind.u64 (n : Int), Value.int IntKind.i64 (i : Int), z4, z5, z6, z7, z8, z9, z10, z11, z12, z13, z14, z15, z16, z17, z18, z19, z20, z21, z22, z23, z24, z25, z26, z27, z28, z29, z30, z31, z32, z33, z34, z35, z36, z37, z38, z39, z40, z41, z42, z43, z44, z45, z46], defers := [] } ∧ W = w ∧ Hid (i ≤ bs.length ∧ n < 18446744073709551616 ∧ i + f = bs.length + 1 ∧ tellF (bs.drop i) n i = R)) ?none0 ?step bs.length ?start
  case none0 =>
    rintro a W ⟨i, n, z4, z5, z6, z7, z8, z9, z10, z11, z12, z13, z14, z15, z16, z17, z18, z19, z20, z21, z22, z23, z24, z25, z26, z27, z28, z29, z30, z31, z32, z33, z34, z35, z36, z37, z38, z39, z40, z41, z42, z43, z44, z45, z46, rfl, rfl, hI⟩
    have h1 := hI.out
    omega
  case start =>
    exact ⟨0, 0, _, _, _, _, _, _, _, _, _, _, _, _, _, _, _, _, _, _, _, _, _, _, _, _, _, _, _, _, _, _, _, _, _, _, _, _, _, _, _, _, _, _, _, rfl, rfl, ⟨Nat.zero_le _, by decide, by omega, hR.symm⟩⟩
  case step =>
    rintro f K hK a W ⟨i, n, z4, z5, z6, z7, z8, z9, z10, z11, z12, z13, z14, z15, z16, z17, z18, z19, z20, z21, z22, z23, z24, z25, z26, z27, z28, z29, z30, z31, z32, z33, z34, z35, z36, z37, z38, z39, z40, z41, z42, z43, z44, z45, z46, rfl, rfl, hI⟩
    obtain ⟨h1, h2, h3, h4⟩ := hI.out
    have hsz : (ByteArray.mk bs.toArray).size = bs.length := rfl
    by_cases he : i = bs.length
    · have hei : (i : Int) = (bs.length : Int) := by omega
      have HR : Hid (R = (n, bs.length)) := by show R = _; rw [← h4, he, List.drop_length]; rfl
      subst he
      clear hI h1 h2 h3 h4 hR hb hei
      go_wp2
      simp only [Exit.jump]
      refine bodyPost_ret_by (v := .tuple #[.int .u64 (n : Int), .int .i64 (bs.length : Int)]) ?_ (by rfl) ⟨by rw [HR.out], rfl⟩
      simp [results, Tryz.results211, go_sem]
    · have hne : ¬ (i : Int) = (bs.length : Int) := by omega
      have hlt : i < bs.length := by omega
      have i0 : (0 : Int) ≤ (i : Int) := by omega
      have i1 : (i : Int) < (bs.length : Int) := by omega
      obtain ⟨c, hc0⟩ : ∃ c, c = bs[i] := ⟨_, rfl⟩
      have hc : ∀ h, (ByteArray.mk bs.toArray)[i]'h = c := fun h => by rw [hc0]; rfl
      have hdr : bs.drop i = c :: bs.drop (i + 1) := by rw [hc0]; exact List.drop_eq_getElem_cons hlt
      rw [hdr] at h4
      by_cases hlo : c.toNat < 48
      · have HR : Hid (R = (n, i)) := by show R = _; rw [← h4]; unfold tellF; rw [if_pos (.inl hlo)]
        have hli : (c.toNat : Int) < 48 := by omega
        clear hI h1 h2 h3 h4 he hR hb hc0 hdr
        go_wp2
        simp only [Exit.jump]
        refine bodyPost_ret_by (v := .tuple #[.int .u64 (n : Int), .int .i64 (i : Int)]) ?_ (by rfl) ⟨by rw [HR.out], rfl⟩
        simp [results, Tryz.results211, go_sem]
      · have hli : ¬ (c.toNat : Int) < 48 := by omega
        by_cases hhi : 57 < c.toNat
        · have HR : Hid (R = (n, i)) := by show R = _; rw [← h4]; unfold tellF; rw [if_pos (.inr hhi)]
          have hhj : (57 : Int) < (c.toNat : Int) := by omega
          clear hI h1 h2 h3 h4 he hR hb hc0 hdr
          go_wp2
          simp only [Exit.jump]
          refine bodyPost_ret_by (v := .tuple #[.int .u64 (n : Int), .int .i64 (i : Int)]) ?_ (by rfl) ⟨by rw [HR.out], rfl⟩
          simp [results, Tryz.results211, go_sem]
        · have hhj : ¬ (57 : Int) < (c.toNat : Int) := by omega
          obtain ⟨d, hd⟩ : ∃ d, d = c.toNat - 48 := ⟨_, rfl⟩
          have e1 : IntKind.u8.wrap ((c.toNat : Int) - 48) = (d : Int) := by rw [IntKind.wrap_u8]; omega
          have e2 : IntKind.u64.wrap (d : Int) = (d : Int) := by rw [IntKind.wrap_u64]; omega
          have M := fun W => mul64_any n 10 h2 (by decide) W
          obtain ⟨H, hH⟩ : ∃ H, H = n * 10 / 18446744073709551616 := ⟨_, rfl⟩
          obtain ⟨Lo, hLo⟩ : ∃ Lo, Lo = n * 10 % 18446744073709551616 := ⟨_, rfl⟩
          rw [← hH, ← hLo] at M
          have A := fun W => add64_0 (Lo : Int) (d : Int) (by omega) (by omega) W
          obtain ⟨S, hS⟩ : ∃ S : Nat, ((Lo : Int) + (d : Int)) % 18446744073709551616 = (S : Int) := ⟨(Lo + d) % 18446744073709551616, by omega⟩
          obtain ⟨Q, hQ⟩ : ∃ Q : Nat, ((Lo : Int) + (d : Int)) / 18446744073709551616 = (Q : Int) := ⟨(Lo + d) / 18446744073709551616, by omega⟩
          rw [hS, hQ] at A
          obtain ⟨E, hE⟩ : ∃ E, E = H + Q := ⟨_, rfl⟩
          have eE : IntKind.u64.wrap ((H : Int) + (Q : Int)) = (E : Int) := by rw [IntKind.wrap_u64]; omega
          obtain ⟨k1, hk1⟩ : ∃ k1, k1 = i + 1 := ⟨_, rfl⟩
          have e5 : IntKind.i64.wrap ((i : Int) + 1) = (k1 : Int) := by rw [IntKind.wrap_i64]; omega
          have hval : n * 10 + d = E * 18446744073709551616 + S := by omega
          have hS2 : S < 18446744073709551616 := by omega
          have hnx : tellF (bs.drop (i + 1)) (nextN n c) (i + 1) = R := by
            rw [← h4]
            show _ = if _ then _ else _
            rw [if_neg (by omega)]
          by_cases hE0 : E = 0
          · subst hE0
            have HN : Hid (k1 ≤ bs.length ∧ S < 18446744073709551616 ∧ k1 + f = bs.length + 1 ∧ tellF (bs.drop k1) S k1 = R) := by
              refine ⟨by omega, hS2, by omega, ?_⟩
              rw [← hnx, hk1]
              unfold nextN
              rw [← hd, if_pos (by omega), hval, Nat.zero_mul, Nat.zero_add]
            clear hI h1 h2 h3 h4 he hR hb hc0 hdr hH hLo hS hQ hE hval hd hk1 hlt hlo hhi hS2 hnx
            go_wp2_with (go_at_call 265; refine (M _).mono ?_; rintro e w' ⟨rfl, rfl⟩)
            apply wp_goto
            refine ⟨rfl, ?_⟩
            exact hK _ _ ⟨k1, S, _, _, _, _, _, _, _, _, _, _, _, _, _, _, _, _, _, _, _, _, _, _, _, _, _, _, _, _, _, _, _, _, _, _, _, _, _, _, _, _, _, _, _, rfl, rfl, HN⟩
          · have hEi : (0 : Int) < (E : Int) := by omega
            have HN : Hid (k1 ≤ bs.length ∧ 18446744073709551615 < 18446744073709551616 ∧ k1 + f = bs.length + 1 ∧ tellF (bs.drop k1) 18446744073709551615 k1 = R) := by
              refine ⟨by omega, by decide, by omega, ?_⟩
              rw [← hnx, hk1]
              unfold nextN
              rw [← hd, if_neg (by omega)]
            clear hE0 hI h1 h2 h3 h4 he hR hb hc0 hdr hH hLo hS hQ hE hval hd hk1 hlt hlo hhi hS2 hnx
            go_wp2_with (go_at_call 265; refine (M _).mono ?_; rintro e w' ⟨rfl, rfl⟩)
            apply wp_goto
            refine ⟨rfl, ?_⟩
            exact hK _ _ ⟨k1, 18446744073709551615, _, _, _, _, _, _, _, _, _, _, _, _, _, _, _, _, _, _, _, _, _, _, _, _, _, _, _, _, _, _, _, _, _, _, _, _, _, _, _, _, _, _, _, rfl, rfl, HN⟩
end Go.Proofs.YtibbenhplmmmiaaGreatDoor
