/-
  The reader of expressions: steps, parts that are parted by the signs of ops.
-/
import Derived.Test.YtclhmmgdhagloaaGreatDoorESpec
import Derived.Test.YtclhmmgdhagloaaGreatDoorMjDText7
namespace Go.Proofs.YtclhmmgdhagloaaGreatDoor
open Go.RowKit Go.Shelf
attribute [local go_sem] cell?_more frozen?_more setCell_more more_lt more_more more_drew more_drewN setCell_drewN alloc_drewN

theorem opAt_lt (t : List UInt8) : ∀ (f c : Nat), f + c ≤ 19 → opAt t f c < 19 := by
  intro f c
  induction c generalizing f with
  | zero => intro _; unfold opAt; omega
  | succ c ih =>
    intro h
    unfold opAt
    split
    · omega
    · exact ih (f + 1) (by omega)

set_option maxRecDepth 20000 in
set_option maxHeartbeats 4000000 in
theorem steps_an (w0 : World) (ao : Option Addr) (ts : List Ti) (cap p o : Nat) (E : Env w0 ao ts) (f c : Nat) (L : Int) (hf : 6 ≤ f) (hc : f + c ≤ 19) (hL : L = (f : Int) + (c : Int) - 1)
    (part : Nat → List Nd → Rz) (k0 : Nat) (H : ∀ k acc nv w, Stt w0 ao ts cap p w k nv acc o → k0 ≤ k → Does w0 ao ts cap p 137 o k acc nv w (part k acc))
    (k : Nat) (acc : List Nd) (nv : Value) (w : World) (S : Stt w0 ao ts cap p w k nv acc o) (hk : k0 ≤ k) (M : Nat) (hM : ts.length + 1 ≤ M + k) :
    Calls Tryz.prog 136 #[.pointer (some ⟨p, 0, none⟩), .int .i64 (f : Int), .int .i64 L, .func (.func 137) #[.pointer (some ⟨p, 0, none⟩)] #[]] w fun e w' =>
      e = .returned (.int .i64 ((stepsF (nxt ts) f c part M 0 k acc).1 : Int)) ∧ (∃ nv', Stt w0 ao ts cap p w' (stepsF (nxt ts) f c part M 0 k acc).2.1 nv' (stepsF (nxt ts) f c part M 0 k acc).2.2 o ∧ Goes p w w' nv nv') ∧ k ≤ (stepsF (nxt ts) f c part M 0 k acc).2.1 := by
  obtain ⟨R, hR⟩ : ∃ R, R = stepsF (nxt ts) f c part M 0 k acc := ⟨_, rfl⟩
  rw [← hR]
  have HR : Hid (R = stepsF (nxt ts) f c part M 0 k acc) := hR
  clear hR
  have HS : Hid (Stt w0 ao ts cap p w k nv acc o) := S
  have HH : Hid (∀ k acc nv w, Stt w0 ao ts cap p w k nv acc o → k0 ≤ k → Does w0 ao ts cap p 137 o k acc nv w (part k acc)) := H
  have HE : Hid (Env w0 ao ts) := E
  have HL : Hid (L = (f : Int) + (c : Int) - 1) := hL
  clear S H E hL
  obtain ⟨M', rfl⟩ : ∃ M', M = M' + 1 := ⟨M - 1, by have := HS.out.kl; omega⟩
  go_enter Tryz.func136, Tryz.ntmps136
  go_wp2
  refine wp_scope_passes 0 M' rfl ?_
  go_wp2
  apply wp_label
  show _
  rename_i aK
  refine aK _ _ ?_
  clear aK
  refine pass_ind (fun m a W => ∃ (k' op : Nat) (acc' : List Nd) (nv' : Value) (z8 z10 z11 z12 z13 z14 z15 z16 z17 z18 z19 z20 z21 z22 z23 z24 z25 z26 z27 z28 z29 : Value), a = { tmps := #[Value.pointer (some ⟨p, 0, none⟩), Value.int IntKind.i64 (f : Int), Value.int IntKind.i64 L, Value.func (Fn.func 137) #[Value.pointer (some ⟨p, 0, none⟩)] #[], undef, undef, undef, undef, z8, Value.int IntKind.i64 (op : Int), z10, z11, z12, z13, z14, z15, z16, z17, z18, z19, z20, z21, z22, z23, z24, z25, z26, z27, z28, z29], defers := [] } ∧ Hid (Stt w0 ao ts cap p W k' nv' acc' o ∧ Goes p w W nv nv' ∧ k0 ≤ k' ∧ k ≤ k' ∧ stepsF (nxt ts) f c part m op k' acc' = R ∧ ts.length + 1 ≤ m + k' ∧ op < 19)) ?none0 ?step M' ?start
  case none0 =>
    rintro a W ⟨k', op, acc', nv', z8, z10, z11, z12, z13, z14, z15, z16, z17, z18, z19, z20, z21, z22, z23, z24, z25, z26, z27, z28, z29, _, hI⟩
    have h1 := hI.out.1.kl
    have h2 := hI.out.2.2.2.2.2.1
    omega
  case start => exact ⟨k, 0, acc, nv, _, _, _, _, _, _, _, _, _, _, _, _, _, _, _, _, _, _, _, _, _, rfl, HS.out, Goes.refl _ _ _, hk, Nat.le_refl _, HR.out.symm, hM, by omega⟩
  case step =>
    rintro m K hK a W ⟨k', op, acc', nv', z8, z10, z11, z12, z13, z14, z15, z16, z17, z18, z19, z20, z21, z22, z23, z24, z25, z26, z27, z28, z29, rfl, hI⟩
    have HK : Hid (∀ a w_1, (∃ (k' op : Nat) (acc' : List Nd) (nv' : Value) (z8 z10 z11 z12 z13 z14 z15 z16 z17 z18 z19 z20 z21 z22 z23 z24 z25 z26 z27 z28 z29 : Value), a = { tmps := #[Value.pointer (some ⟨p, 0, none⟩), Value.int IntKind.i64 (f : Int), Value.int IntKind.i64 L, Value.func (Fn.func 137) #[Value.pointer (some ⟨p, 0, none⟩)] #[], undef, undef, undef, undef, z8, Value.int IntKind.i64 (op : Int), z10, z11, z12, z13, z14, z15, z16, z17, z18, z19, z20, z21, z22, z23, z24, z25, z26, z27, z28, z29], defers := [] } ∧ Hid (Stt w0 ao ts cap p w_1 k' nv' acc' o ∧ Goes p w w_1 nv nv' ∧ k0 ≤ k' ∧ k ≤ k' ∧ stepsF (nxt ts) f c part m op k' acc' = R ∧ ts.length + 1 ≤ m + k' ∧ op < 19)) → K a w_1) := hK
    clear hK HR HS
    obtain ⟨S1, G1, hk1, hk2, hst, hm, hop⟩ := hI.out
    have D := HH.out k' acc' nv' W S1 hk1
    unfold Does at D
    have hst' : (if (part k' acc').1 = 0 then
      (if opAt (nxt ts (part k' acc').2.1).t f c = 0 then (0, (part k' acc').2.1, if op = 0 then (part k' acc').2.2 else putN (part k' acc').2.2 (opX op))
       else stepsF (nxt ts) f c part m (opAt (nxt ts (part k' acc').2.1).t f c) ((part k' acc').2.1 + 1) (if op = 0 then (part k' acc').2.2 else putN (part k' acc').2.2 (opX op)))
      else part k' acc') = R := hst
    generalize part k' acc' = r at D hst'
    obtain ⟨re, rk, rc⟩ := r
    simp only at D hst'
    have HST : Hid _ := hst'
    clear hst hst' hI HH S1
    go_wp2_with fail
    refine D.mono ?_
    rintro e w1 ⟨rfl, ⟨n1, S1, g1⟩, hrk⟩
    clear D
    have G2 := G1.trans g1
    by_cases hre : re = 0
    case neg =>
      have hre' : ¬ (re : Int) = 0 := by omega
      have HF : Hid (R = (re, rk, rc)) := by show R = _; rw [← HST.out, if_neg hre]
      clear HST
      go_wp2
      simp only [Exit.jump]
      go_ret
      have hR := HF.out
      subst hR
      exact ⟨rfl, ⟨n1, S1, G2⟩, by simp only; omega⟩
    · subst hre
      have hst2 := HST.out
      rw [if_pos rfl] at hst2
      clear HST
      have HS1 : Hid (Stt w0 ao ts cap p w1 rk n1 rc o) := S1
      have PU : Calls Tryz.prog 198 #[.pointer (some ⟨p, 0, none⟩), .agg #[.int .i64 (op : Int), .string ⟨#[]⟩, .string ⟨#[]⟩, .int .i64 0, .int .i64 0, .int .i64 0, .string ⟨#[]⟩, .int .i64 0]] w1 fun e w' => e = .returned (.tuple #[]) ∧ ∃ nv', Stt w0 ao ts cap p w' rk nv' (putN rc (opX op)) o ∧ Goes p w1 w' n1 nv' := put_any w0 p ao ts cap rk o n1 rc (opX op) w1 S1
      have TO : Hid (∀ n2 A W2, Stt w0 ao ts cap p W2 rk n2 A o → Calls Tryz.prog 199 #[.pointer (some ⟨p, 0, none⟩), .int .i64 (f : Int), .int .i64 L] W2 fun e w' => e = .returned (.int .i64 (opAt (nxt ts rk).t f c : Int)) ∧ Stt w0 ao ts cap p w' (if opAt (nxt ts rk).t f c = 0 then rk else rk + 1) n2 A o ∧ Fr W2 w' p none) := fun n2 A W2 h => tookOp_any w0 p ao ts cap rk o n2 A f c L W2 HE.out hf hc HL.out h
      have hq19 : opAt (nxt ts rk).t f c < 19 := opAt_lt _ _ _ hc
      generalize opAt (nxt ts rk).t f c = q at TO hst2 hq19
      have HST2 : Hid _ := hst2
      clear hst2 S1
      by_cases hop0 : op = 0
      · subst hop0
        clear PU
        simp only [↓reduceIte] at HST2
        by_cases hq : q = 0
        · subst hq
          simp only [↓reduceIte] at HST2 TO
          have T1 := TO.out n1 rc w1 HS1.out
          clear TO
          go_wp2_with (go_at_call 199; refine T1.mono ?_; rintro e w2 ⟨rfl, S2, g2⟩)
          simp only [Exit.jump]
          go_ret
          have hR := HST2.out
          subst hR
          exact ⟨rfl, ⟨n1, S2, G2.trans (Goes.of_fr g2 n1)⟩, by simp only; omega⟩
        · have hq' : ¬ (q : Int) = 0 := by omega
          rw [if_neg hq] at TO
          have HN : Hid (stepsF (nxt ts) f c part m q (rk + 1) rc = R) := by
            have := HST2.out
            rw [if_neg hq] at this
            exact this
          have T1 := TO.out n1 rc w1 HS1.out
          clear TO HST2
          go_wp2_with (go_at_call 199; refine T1.mono ?_; rintro e w2 ⟨rfl, S2, g2⟩)
          apply wp_goto
          refine ⟨rfl, ?_⟩
          exact HK.out _ _ ⟨rk + 1, q, rc, n1, _, _, _, _, _, _, _, _, _, _, _, _, _, _, _, _, _, _, _, _, _, rfl, S2, G2.trans (Goes.of_fr g2 n1), by omega, by omega, HN.out, by omega, hq19⟩
      · have hop' : ¬ (op : Int) = 0 := by omega
        simp only [if_neg hop0] at HST2
        by_cases hq : q = 0
        · subst hq
          simp only [↓reduceIte] at HST2 TO
          go_wp2_with (first
            | (go_at_call 198; refine PU.mono ?_; rintro e w2 ⟨rfl, n2, S2, g2⟩; have T1 := TO.out n2 _ w2 S2)
            | (go_at_call 199; refine T1.mono ?_; rintro e w3 ⟨rfl, S3, g3⟩))
          simp only [Exit.jump]
          go_ret
          have hR := HST2.out
          subst hR
          exact ⟨rfl, ⟨n2, S3, (G2.trans g2).trans (Goes.of_fr g3 n2)⟩, by simp only; omega⟩
        · have hq' : ¬ (q : Int) = 0 := by omega
          rw [if_neg hq] at TO
          have HN : Hid (stepsF (nxt ts) f c part m q (rk + 1) (putN rc (opX op)) = R) := by
            have := HST2.out
            rw [if_neg hq] at this
            exact this
          clear HST2
          go_wp2_with (first
            | (go_at_call 198; refine PU.mono ?_; rintro e w2 ⟨rfl, n2, S2, g2⟩; have T1 := TO.out n2 _ w2 S2)
            | (go_at_call 199; refine T1.mono ?_; rintro e w3 ⟨rfl, S3, g3⟩))
          apply wp_goto
          refine ⟨rfl, ?_⟩
          exact HK.out _ _ ⟨rk + 1, q, _, n2, _, _, _, _, _, _, _, _, _, _, _, _, _, _, _, _, _, _, _, _, _, rfl, S3, (G2.trans g2).trans (Goes.of_fr g3 n2), by omega, by omega, HN.out, by omega, hq19⟩

set_option maxRecDepth 20000 in
set_option maxHeartbeats 4000000 in
theorem steps_no (w0 : World) (ao : Option Addr) (ts : List Ti) (cap p o : Nat) (E : Env w0 ao ts) (f c : Nat) (L : Int) (hf : 6 ≤ f) (hc : f + c ≤ 19) (hL : L = (f : Int) + (c : Int) - 1)
    (part : Nat → List Nd → Rz) (k0 : Nat) (H : ∀ k acc nv w, Stt w0 ao ts cap p w k nv acc o → k0 ≤ k → Does w0 ao ts cap p 200 o k acc nv w (part k acc))
    (k : Nat) (acc : List Nd) (nv : Value) (w : World) (S : Stt w0 ao ts cap p w k nv acc o) (hk : k0 ≤ k) (M : Nat) (hM : ts.length + 1 ≤ M + k) :
    Calls Tryz.prog 136 #[.pointer (some ⟨p, 0, none⟩), .int .i64 (f : Int), .int .i64 L, .func (.func 200) #[.pointer (some ⟨p, 0, none⟩)] #[]] w fun e w' =>
      e = .returned (.int .i64 ((stepsF (nxt ts) f c part M 0 k acc).1 : Int)) ∧ (∃ nv', Stt w0 ao ts cap p w' (stepsF (nxt ts) f c part M 0 k acc).2.1 nv' (stepsF (nxt ts) f c part M 0 k acc).2.2 o ∧ Goes p w w' nv nv') ∧ k ≤ (stepsF (nxt ts) f c part M 0 k acc).2.1 := by
  obtain ⟨R, hR⟩ : ∃ R, R = stepsF (nxt ts) f c part M 0 k acc := ⟨_, rfl⟩
  rw [← hR]
  have HR : Hid (R = stepsF (nxt ts) f c part M 0 k acc) := hR
  clear hR
  have HS : Hid (Stt w0 ao ts cap p w k nv acc o) := S
  have HH : Hid (∀ k acc nv w, Stt w0 ao ts cap p w k nv acc o → k0 ≤ k → Does w0 ao ts cap p 200 o k acc nv w (part k acc)) := H
  have HE : Hid (Env w0 ao ts) := E
  have HL : Hid (L = (f : Int) + (c : Int) - 1) := hL
  clear S H E hL
  obtain ⟨M', rfl⟩ : ∃ M', M = M' + 1 := ⟨M - 1, by have := HS.out.kl; omega⟩
  go_enter Tryz.func136, Tryz.ntmps136
  go_wp2
  refine wp_scope_passes 0 M' rfl ?_
  go_wp2
  apply wp_label
  show _
  rename_i aK
  refine aK _ _ ?_
  clear aK
  refine pass_ind (fun m a W => ∃ (k' op : Nat) (acc' : List Nd) (nv' : Value) (z8 z10 z11 z12 z13 z14 z15 z16 z17 z18 z19 z20 z21 z22 z23 z24 z25 z26 z27 z28 z29 : Value), a = { tmps := #[Value.pointer (some ⟨p, 0, none⟩), Value.int IntKind.i64 (f : Int), Value.int IntKind.i64 L, Value.func (Fn.func 200) #[Value.pointer (some ⟨p, 0, none⟩)] #[], undef, undef, undef, undef, z8, Value.int IntKind.i64 (op : Int), z10, z11, z12, z13, z14, z15, z16, z17, z18, z19, z20, z21, z22, z23, z24, z25, z26, z27, z28, z29], defers := [] } ∧ Hid (Stt w0 ao ts cap p W k' nv' acc' o ∧ Goes p w W nv nv' ∧ k0 ≤ k' ∧ k ≤ k' ∧ stepsF (nxt ts) f c part m op k' acc' = R ∧ ts.length + 1 ≤ m + k' ∧ op < 19)) ?none0 ?step M' ?start
  case none0 =>
    rintro a W ⟨k', op, acc', nv', z8, z10, z11, z12, z13, z14, z15, z16, z17, z18, z19, z20, z21, z22, z23, z24, z25, z26, z27, z28, z29, _, hI⟩
    have h1 := hI.out.1.kl
    have h2 := hI.out.2.2.2.2.2.1
    omega
  case start => exact ⟨k, 0, acc, nv, _, _, _, _, _, _, _, _, _, _, _, _, _, _, _, _, _, _, _, _, _, rfl, HS.out, Goes.refl _ _ _, hk, Nat.le_refl _, HR.out.symm, hM, by omega⟩
  case step =>
    rintro m K hK a W ⟨k', op, acc', nv', z8, z10, z11, z12, z13, z14, z15, z16, z17, z18, z19, z20, z21, z22, z23, z24, z25, z26, z27, z28, z29, rfl, hI⟩
    have HK : Hid (∀ a w_1, (∃ (k' op : Nat) (acc' : List Nd) (nv' : Value) (z8 z10 z11 z12 z13 z14 z15 z16 z17 z18 z19 z20 z21 z22 z23 z24 z25 z26 z27 z28 z29 : Value), a = { tmps := #[Value.pointer (some ⟨p, 0, none⟩), Value.int IntKind.i64 (f : Int), Value.int IntKind.i64 L, Value.func (Fn.func 200) #[Value.pointer (some ⟨p, 0, none⟩)] #[], undef, undef, undef, undef, z8, Value.int IntKind.i64 (op : Int), z10, z11, z12, z13, z14, z15, z16, z17, z18, z19, z20, z21, z22, z23, z24, z25, z26, z27, z28, z29], defers := [] } ∧ Hid (Stt w0 ao ts cap p w_1 k' nv' acc' o ∧ Goes p w w_1 nv nv' ∧ k0 ≤ k' ∧ k ≤ k' ∧ stepsF (nxt ts) f c part m op k' acc' = R ∧ ts.length + 1 ≤ m + k' ∧ op < 19)) → K a w_1) := hK
    clear hK HR HS
    obtain ⟨S1, G1, hk1, hk2, hst, hm, hop⟩ := hI.out
    have D := HH.out k' acc' nv' W S1 hk1
    unfold Does at D
    have hst' : (if (part k' acc').1 = 0 then
      (if opAt (nxt ts (part k' acc').2.1).t f c = 0 then (0, (part k' acc').2.1, if op = 0 then (part k' acc').2.2 else putN (part k' acc').2.2 (opX op))
       else stepsF (nxt ts) f c part m (opAt (nxt ts (part k' acc').2.1).t f c) ((part k' acc').2.1 + 1) (if op = 0 then (part k' acc').2.2 else putN (part k' acc').2.2 (opX op)))
      else part k' acc') = R := hst
    generalize part k' acc' = r at D hst'
    obtain ⟨re, rk, rc⟩ := r
    simp only at D hst'
    have HST : Hid _ := hst'
    clear hst hst' hI HH S1
    go_wp2_with fail
    refine D.mono ?_
    rintro e w1 ⟨rfl, ⟨n1, S1, g1⟩, hrk⟩
    clear D
    have G2 := G1.trans g1
    by_cases hre : re = 0
    case neg =>
      have hre' : ¬ (re : Int) = 0 := by omega
      have HF : Hid (R = (re, rk, rc)) := by show R = _; rw [← HST.out, if_neg hre]
      clear HST
      go_wp2
      simp only [Exit.jump]
      go_ret
      have hR := HF.out
      subst hR
      exact ⟨rfl, ⟨n1, S1, G2⟩, by simp only; omega⟩
    · subst hre
      have hst2 := HST.out
      rw [if_pos rfl] at hst2
      clear HST
      have HS1 : Hid (Stt w0 ao ts cap p w1 rk n1 rc o) := S1
      have PU : Calls Tryz.prog 198 #[.pointer (some ⟨p, 0, none⟩), .agg #[.int .i64 (op : Int), .string ⟨#[]⟩, .string ⟨#[]⟩, .int .i64 0, .int .i64 0, .int .i64 0, .string ⟨#[]⟩, .int .i64 0]] w1 fun e w' => e = .returned (.tuple #[]) ∧ ∃ nv', Stt w0 ao ts cap p w' rk nv' (putN rc (opX op)) o ∧ Goes p w1 w' n1 nv' := put_any w0 p ao ts cap rk o n1 rc (opX op) w1 S1
      have TO : Hid (∀ n2 A W2, Stt w0 ao ts cap p W2 rk n2 A o → Calls Tryz.prog 199 #[.pointer (some ⟨p, 0, none⟩), .int .i64 (f : Int), .int .i64 L] W2 fun e w' => e = .returned (.int .i64 (opAt (nxt ts rk).t f c : Int)) ∧ Stt w0 ao ts cap p w' (if opAt (nxt ts rk).t f c = 0 then rk else rk + 1) n2 A o ∧ Fr W2 w' p none) := fun n2 A W2 h => tookOp_any w0 p ao ts cap rk o n2 A f c L W2 HE.out hf hc HL.out h
      have hq19 : opAt (nxt ts rk).t f c < 19 := opAt_lt _ _ _ hc
      generalize opAt (nxt ts rk).t f c = q at TO hst2 hq19
      have HST2 : Hid _ := hst2
      clear hst2 S1
      by_cases hop0 : op = 0
      · subst hop0
        clear PU
        simp only [↓reduceIte] at HST2
        by_cases hq : q = 0
        · subst hq
          simp only [↓reduceIte] at HST2 TO
          have T1 := TO.out n1 rc w1 HS1.out
          clear TO
          go_wp2_with (go_at_call 199; refine T1.mono ?_; rintro e w2 ⟨rfl, S2, g2⟩)
          simp only [Exit.jump]
          go_ret
          have hR := HST2.out
          subst hR
          exact ⟨rfl, ⟨n1, S2, G2.trans (Goes.of_fr g2 n1)⟩, by simp only; omega⟩
        · have hq' : ¬ (q : Int) = 0 := by omega
          rw [if_neg hq] at TO
          have HN : Hid (stepsF (nxt ts) f c part m q (rk + 1) rc = R) := by
            have := HST2.out
            rw [if_neg hq] at this
            exact this
          have T1 := TO.out n1 rc w1 HS1.out
          clear TO HST2
          go_wp2_with (go_at_call 199; refine T1.mono ?_; rintro e w2 ⟨rfl, S2, g2⟩)
          apply wp_goto
          refine ⟨rfl, ?_⟩
          exact HK.out _ _ ⟨rk + 1, q, rc, n1, _, _, _, _, _, _, _, _, _, _, _, _, _, _, _, _, _, _, _, _, _, rfl, S2, G2.trans (Goes.of_fr g2 n1), by omega, by omega, HN.out, by omega, hq19⟩
      · have hop' : ¬ (op : Int) = 0 := by omega
        simp only [if_neg hop0] at HST2
        by_cases hq : q = 0
        · subst hq
          simp only [↓reduceIte] at HST2 TO
          go_wp2_with (first
            | (go_at_call 198; refine PU.mono ?_; rintro e w2 ⟨rfl, n2, S2, g2⟩; have T1 := TO.out n2 _ w2 S2)
            | (go_at_call 199; refine T1.mono ?_; rintro e w3 ⟨rfl, S3, g3⟩))
          simp only [Exit.jump]
          go_ret
          have hR := HST2.out
          subst hR
          exact ⟨rfl, ⟨n2, S3, (G2.trans g2).trans (Goes.of_fr g3 n2)⟩, by simp only; omega⟩
        · have hq' : ¬ (q : Int) = 0 := by omega
          rw [if_neg hq] at TO
          have HN : Hid (stepsF (nxt ts) f c part m q (rk + 1) (putN rc (opX op)) = R) := by
            have := HST2.out
            rw [if_neg hq] at this
            exact this
          clear HST2
          go_wp2_with (first
            | (go_at_call 198; refine PU.mono ?_; rintro e w2 ⟨rfl, n2, S2, g2⟩; have T1 := TO.out n2 _ w2 S2)
            | (go_at_call 199; refine T1.mono ?_; rintro e w3 ⟨rfl, S3, g3⟩))
          apply wp_goto
          refine ⟨rfl, ?_⟩
          exact HK.out _ _ ⟨rk + 1, q, _, n2, _, _, _, _, _, _, _, _, _, _, _, _, _, _, _, _, _, _, _, _, _, rfl, S3, (G2.trans g2).trans (Goes.of_fr g3 n2), by omega, by omega, HN.out, by omega, hq19⟩

set_option maxRecDepth 20000 in
set_option maxHeartbeats 4000000 in
theorem steps_te (w0 : World) (ao : Option Addr) (ts : List Ti) (cap p o : Nat) (E : Env w0 ao ts) (f c : Nat) (L : Int) (hf : 6 ≤ f) (hc : f + c ≤ 19) (hL : L = (f : Int) + (c : Int) - 1)
    (part : Nat → List Nd → Rz) (k0 : Nat) (H : ∀ k acc nv w, Stt w0 ao ts cap p w k nv acc o → k0 ≤ k → Does w0 ao ts cap p 300 o k acc nv w (part k acc))
    (k : Nat) (acc : List Nd) (nv : Value) (w : World) (S : Stt w0 ao ts cap p w k nv acc o) (hk : k0 ≤ k) (M : Nat) (hM : ts.length + 1 ≤ M + k) :
    Calls Tryz.prog 136 #[.pointer (some ⟨p, 0, none⟩), .int .i64 (f : Int), .int .i64 L, .func (.func 300) #[.pointer (some ⟨p, 0, none⟩)] #[]] w fun e w' =>
      e = .returned (.int .i64 ((stepsF (nxt ts) f c part M 0 k acc).1 : Int)) ∧ (∃ nv', Stt w0 ao ts cap p w' (stepsF (nxt ts) f c part M 0 k acc).2.1 nv' (stepsF (nxt ts) f c part M 0 k acc).2.2 o ∧ Goes p w w' nv nv') ∧ k ≤ (stepsF (nxt ts) f c part M 0 k acc).2.1 := by
  obtain ⟨R, hR⟩ : ∃ R, R = stepsF (nxt ts) f c part M 0 k acc := ⟨_, rfl⟩
  rw [← hR]
  have HR : Hid (R = stepsF (nxt ts) f c part M 0 k acc) := hR
  clear hR
  have HS : Hid (Stt w0 ao ts cap p w k nv acc o) := S
  have HH : Hid (∀ k acc nv w, Stt w0 ao ts cap p w k nv acc o → k0 ≤ k → Does w0 ao ts cap p 300 o k acc nv w (part k acc)) := H
  have HE : Hid (Env w0 ao ts) := E
  have HL : Hid (L = (f : Int) + (c : Int) - 1) := hL
  clear S H E hL
  obtain ⟨M', rfl⟩ : ∃ M', M = M' + 1 := ⟨M - 1, by have := HS.out.kl; omega⟩
  go_enter Tryz.func136, Tryz.ntmps136
  go_wp2
  refine wp_scope_passes 0 M' rfl ?_
  go_wp2
  apply wp_label
  show _
  rename_i aK
  refine aK _ _ ?_
  clear aK
  refine pass_ind (fun m a W => ∃ (k' op : Nat) (acc' : List Nd) (nv' : Value) (z8 z10 z11 z12 z13 z14 z15 z16 z17 z18 z19 z20 z21 z22 z23 z24 z25 z26 z27 z28 z29 : Value), a = { tmps := #[Value.pointer (some ⟨p, 0, none⟩), Value.int IntKind.i64 (f : Int), Value.int IntKind.i64 L, Value.func (Fn.func 300) #[Value.pointer (some ⟨p, 0, none⟩)] #[], undef, undef, undef, undef, z8, Value.int IntKind.i64 (op : Int), z10, z11, z12, z13, z14, z15, z16, z17, z18, z19, z20, z21, z22, z23, z24, z25, z26, z27, z28, z29], defers := [] } ∧ Hid (Stt w0 ao ts cap p W k' nv' acc' o ∧ Goes p w W nv nv' ∧ k0 ≤ k' ∧ k ≤ k' ∧ stepsF (nxt ts) f c part m op k' acc' = R ∧ ts.length + 1 ≤ m + k' ∧ op < 19)) ?none0 ?step M' ?start
  case none0 =>
    rintro a W ⟨k', op, acc', nv', z8, z10, z11, z12, z13, z14, z15, z16, z17, z18, z19, z20, z21, z22, z23, z24, z25, z26, z27, z28, z29, _, hI⟩
    have h1 := hI.out.1.kl
    have h2 := hI.out.2.2.2.2.2.1
    omega
  case start => exact ⟨k, 0, acc, nv, _, _, _, _, _, _, _, _, _, _, _, _, _, _, _, _, _, _, _, _, _, rfl, HS.out, Goes.refl _ _ _, hk, Nat.le_refl _, HR.out.symm, hM, by omega⟩
  case step =>
    rintro m K hK a W ⟨k', op, acc', nv', z8, z10, z11, z12, z13, z14, z15, z16, z17, z18, z19, z20, z21, z22, z23, z24, z25, z26, z27, z28, z29, rfl, hI⟩
    have HK : Hid (∀ a w_1, (∃ (k' op : Nat) (acc' : List Nd) (nv' : Value) (z8 z10 z11 z12 z13 z14 z15 z16 z17 z18 z19 z20 z21 z22 z23 z24 z25 z26 z27 z28 z29 : Value), a = { tmps := #[Value.pointer (some ⟨p, 0, none⟩), Value.int IntKind.i64 (f : Int), Value.int IntKind.i64 L, Value.func (Fn.func 300) #[Value.pointer (some ⟨p, 0, none⟩)] #[], undef, undef, undef, undef, z8, Value.int IntKind.i64 (op : Int), z10, z11, z12, z13, z14, z15, z16, z17, z18, z19, z20, z21, z22, z23, z24, z25, z26, z27, z28, z29], defers := [] } ∧ Hid (Stt w0 ao ts cap p w_1 k' nv' acc' o ∧ Goes p w w_1 nv nv' ∧ k0 ≤ k' ∧ k ≤ k' ∧ stepsF (nxt ts) f c part m op k' acc' = R ∧ ts.length + 1 ≤ m + k' ∧ op < 19)) → K a w_1) := hK
    clear hK HR HS
    obtain ⟨S1, G1, hk1, hk2, hst, hm, hop⟩ := hI.out
    have D := HH.out k' acc' nv' W S1 hk1
    unfold Does at D
    have hst' : (if (part k' acc').1 = 0 then
      (if opAt (nxt ts (part k' acc').2.1).t f c = 0 then (0, (part k' acc').2.1, if op = 0 then (part k' acc').2.2 else putN (part k' acc').2.2 (opX op))
       else stepsF (nxt ts) f c part m (opAt (nxt ts (part k' acc').2.1).t f c) ((part k' acc').2.1 + 1) (if op = 0 then (part k' acc').2.2 else putN (part k' acc').2.2 (opX op)))
      else part k' acc') = R := hst
    generalize part k' acc' = r at D hst'
    obtain ⟨re, rk, rc⟩ := r
    simp only at D hst'
    have HST : Hid _ := hst'
    clear hst hst' hI HH S1
    go_wp2_with fail
    refine D.mono ?_
    rintro e w1 ⟨rfl, ⟨n1, S1, g1⟩, hrk⟩
    clear D
    have G2 := G1.trans g1
    by_cases hre : re = 0
    case neg =>
      have hre' : ¬ (re : Int) = 0 := by omega
      have HF : Hid (R = (re, rk, rc)) := by show R = _; rw [← HST.out, if_neg hre]
      clear HST
      go_wp2
      simp only [Exit.jump]
      go_ret
      have hR := HF.out
      subst hR
      exact ⟨rfl, ⟨n1, S1, G2⟩, by simp only; omega⟩
    · subst hre
      have hst2 := HST.out
      rw [if_pos rfl] at hst2
      clear HST
      have HS1 : Hid (Stt w0 ao ts cap p w1 rk n1 rc o) := S1
      have PU : Calls Tryz.prog 198 #[.pointer (some ⟨p, 0, none⟩), .agg #[.int .i64 (op : Int), .string ⟨#[]⟩, .string ⟨#[]⟩, .int .i64 0, .int .i64 0, .int .i64 0, .string ⟨#[]⟩, .int .i64 0]] w1 fun e w' => e = .returned (.tuple #[]) ∧ ∃ nv', Stt w0 ao ts cap p w' rk nv' (putN rc (opX op)) o ∧ Goes p w1 w' n1 nv' := put_any w0 p ao ts cap rk o n1 rc (opX op) w1 S1
      have TO : Hid (∀ n2 A W2, Stt w0 ao ts cap p W2 rk n2 A o → Calls Tryz.prog 199 #[.pointer (some ⟨p, 0, none⟩), .int .i64 (f : Int), .int .i64 L] W2 fun e w' => e = .returned (.int .i64 (opAt (nxt ts rk).t f c : Int)) ∧ Stt w0 ao ts cap p w' (if opAt (nxt ts rk).t f c = 0 then rk else rk + 1) n2 A o ∧ Fr W2 w' p none) := fun n2 A W2 h => tookOp_any w0 p ao ts cap rk o n2 A f c L W2 HE.out hf hc HL.out h
      have hq19 : opAt (nxt ts rk).t f c < 19 := opAt_lt _ _ _ hc
      generalize opAt (nxt ts rk).t f c = q at TO hst2 hq19
      have HST2 : Hid _ := hst2
      clear hst2 S1
      by_cases hop0 : op = 0
      · subst hop0
        clear PU
        simp only [↓reduceIte] at HST2
        by_cases hq : q = 0
        · subst hq
          simp only [↓reduceIte] at HST2 TO
          have T1 := TO.out n1 rc w1 HS1.out
          clear TO
          go_wp2_with (go_at_call 199; refine T1.mono ?_; rintro e w2 ⟨rfl, S2, g2⟩)
          simp only [Exit.jump]
          go_ret
          have hR := HST2.out
          subst hR
          exact ⟨rfl, ⟨n1, S2, G2.trans (Goes.of_fr g2 n1)⟩, by simp only; omega⟩
        · have hq' : ¬ (q : Int) = 0 := by omega
          rw [if_neg hq] at TO
          have HN : Hid (stepsF (nxt ts) f c part m q (rk + 1) rc = R) := by
            have := HST2.out
            rw [if_neg hq] at this
            exact this
          have T1 := TO.out n1 rc w1 HS1.out
          clear TO HST2
          go_wp2_with (go_at_call 199; refine T1.mono ?_; rintro e w2 ⟨rfl, S2, g2⟩)
          apply wp_goto
          refine ⟨rfl, ?_⟩
          exact HK.out _ _ ⟨rk + 1, q, rc, n1, _, _, _, _, _, _, _, _, _, _, _, _, _, _, _, _, _, _, _, _, _, rfl, S2, G2.trans (Goes.of_fr g2 n1), by omega, by omega, HN.out, by omega, hq19⟩
      · have hop' : ¬ (op : Int) = 0 := by omega
        simp only [if_neg hop0] at HST2
        by_cases hq : q = 0
        · subst hq
          simp only [↓reduceIte] at HST2 TO
          go_wp2_with (first
            | (go_at_call 198; refine PU.mono ?_; rintro e w2 ⟨rfl, n2, S2, g2⟩; have T1 := TO.out n2 _ w2 S2)
            | (go_at_call 199; refine T1.mono ?_; rintro e w3 ⟨rfl, S3, g3⟩))
          simp only [Exit.jump]
          go_ret
          have hR := HST2.out
          subst hR
          exact ⟨rfl, ⟨n2, S3, (G2.trans g2).trans (Goes.of_fr g3 n2)⟩, by simp only; omega⟩
        · have hq' : ¬ (q : Int) = 0 := by omega
          rw [if_neg hq] at TO
          have HN : Hid (stepsF (nxt ts) f c part m q (rk + 1) (putN rc (opX op)) = R) := by
            have := HST2.out
            rw [if_neg hq] at this
            exact this
          clear HST2
          go_wp2_with (first
            | (go_at_call 198; refine PU.mono ?_; rintro e w2 ⟨rfl, n2, S2, g2⟩; have T1 := TO.out n2 _ w2 S2)
            | (go_at_call 199; refine T1.mono ?_; rintro e w3 ⟨rfl, S3, g3⟩))
          apply wp_goto
          refine ⟨rfl, ?_⟩
          exact HK.out _ _ ⟨rk + 1, q, _, n2, _, _, _, _, _, _, _, _, _, _, _, _, _, _, _, _, _, _, _, _, _, rfl, S3, (G2.trans g2).trans (Goes.of_fr g3 n2), by omega, by omega, HN.out, by omega, hq19⟩

set_option maxRecDepth 20000 in
set_option maxHeartbeats 4000000 in
theorem steps_un (w0 : World) (ao : Option Addr) (ts : List Ti) (cap p o : Nat) (E : Env w0 ao ts) (f c : Nat) (L : Int) (hf : 6 ≤ f) (hc : f + c ≤ 19) (hL : L = (f : Int) + (c : Int) - 1)
    (part : Nat → List Nd → Rz) (k0 : Nat) (H : ∀ k acc nv w, Stt w0 ao ts cap p w k nv acc o → k0 ≤ k → Does w0 ao ts cap p 314 o k acc nv w (part k acc))
    (k : Nat) (acc : List Nd) (nv : Value) (w : World) (S : Stt w0 ao ts cap p w k nv acc o) (hk : k0 ≤ k) (M : Nat) (hM : ts.length + 1 ≤ M + k) :
    Calls Tryz.prog 136 #[.pointer (some ⟨p, 0, none⟩), .int .i64 (f : Int), .int .i64 L, .func (.func 314) #[.pointer (some ⟨p, 0, none⟩)] #[]] w fun e w' =>
      e = .returned (.int .i64 ((stepsF (nxt ts) f c part M 0 k acc).1 : Int)) ∧ (∃ nv', Stt w0 ao ts cap p w' (stepsF (nxt ts) f c part M 0 k acc).2.1 nv' (stepsF (nxt ts) f c part M 0 k acc).2.2 o ∧ Goes p w w' nv nv') ∧ k ≤ (stepsF (nxt ts) f c part M 0 k acc).2.1 := by
  obtain ⟨R, hR⟩ : ∃ R, R = stepsF (nxt ts) f c part M 0 k acc := ⟨_, rfl⟩
  rw [← hR]
  have HR : Hid (R = stepsF (nxt ts) f c part M 0 k acc) := hR
  clear hR
  have HS : Hid (Stt w0 ao ts cap p w k nv acc o) := S
  have HH : Hid (∀ k acc nv w, Stt w0 ao ts cap p w k nv acc o → k0 ≤ k → Does w0 ao ts cap p 314 o k acc nv w (part k acc)) := H
  have HE : Hid (Env w0 ao ts) := E
  have HL : Hid (L = (f : Int) + (c : Int) - 1) := hL
  clear S H E hL
  obtain ⟨M', rfl⟩ : ∃ M', M = M' + 1 := ⟨M - 1, by have := HS.out.kl; omega⟩
  go_enter Tryz.func136, Tryz.ntmps136
  go_wp2
  refine wp_scope_passes 0 M' rfl ?_
  go_wp2
  apply wp_label
  show _
  rename_i aK
  refine aK _ _ ?_
  clear aK
  refine pass_ind (fun m a W => ∃ (k' op : Nat) (acc' : List Nd) (nv' : Value) (z8 z10 z11 z12 z13 z14 z15 z16 z17 z18 z19 z20 z21 z22 z23 z24 z25 z26 z27 z28 z29 : Value), a = { tmps := #[Value.pointer (some ⟨p, 0, none⟩), Value.int IntKind.i64 (f : Int), Value.int IntKind.i64 L, Value.func (Fn.func 314) #[Value.pointer (some ⟨p, 0, none⟩)] #[], undef, undef, undef, undef, z8, Value.int IntKind.i64 (op : Int), z10, z11, z12, z13, z14, z15, z16, z17, z18, z19, z20, z21, z22, z23, z24, z25, z26, z27, z28, z29], defers := [] } ∧ Hid (Stt w0 ao ts cap p W k' nv' acc' o ∧ Goes p w W nv nv' ∧ k0 ≤ k' ∧ k ≤ k' ∧ stepsF (nxt ts) f c part m op k' acc' = R ∧ ts.length + 1 ≤ m + k' ∧ op < 19)) ?none0 ?step M' ?start
  case none0 =>
    rintro a W ⟨k', op, acc', nv', z8, z10, z11, z12, z13, z14, z15, z16, z17, z18, z19, z20, z21, z22, z23, z24, z25, z26, z27, z28, z29, _, hI⟩
    have h1 := hI.out.1.kl
    have h2 := hI.out.2.2.2.2.2.1
    omega
  case start => exact ⟨k, 0, acc, nv, _, _, _, _, _, _, _, _, _, _, _, _, _, _, _, _, _, _, _, _, _, rfl, HS.out, Goes.refl _ _ _, hk, Nat.le_refl _, HR.out.symm, hM, by omega⟩
  case step =>
    rintro m K hK a W ⟨k', op, acc', nv', z8, z10, z11, z12, z13, z14, z15, z16, z17, z18, z19, z20, z21, z22, z23, z24, z25, z26, z27, z28, z29, rfl, hI⟩
    have HK : Hid (∀ a w_1, (∃ (k' op : Nat) (acc' : List Nd) (nv' : Value) (z8 z10 z11 z12 z13 z14 z15 z16 z17 z18 z19 z20 z21 z22 z23 z24 z25 z26 z27 z28 z29 : Value), a = { tmps := #[Value.pointer (some ⟨p, 0, none⟩), Value.int IntKind.i64 (f : Int), Value.int IntKind.i64 L, Value.func (Fn.func 314) #[Value.pointer (some ⟨p, 0, none⟩)] #[], undef, undef, undef, undef, z8, Value.int IntKind.i64 (op : Int), z10, z11, z12, z13, z14, z15, z16, z17, z18, z19, z20, z21, z22, z23, z24, z25, z26, z27, z28, z29], defers := [] } ∧ Hid (Stt w0 ao ts cap p w_1 k' nv' acc' o ∧ Goes p w w_1 nv nv' ∧ k0 ≤ k' ∧ k ≤ k' ∧ stepsF (nxt ts) f c part m op k' acc' = R ∧ ts.length + 1 ≤ m + k' ∧ op < 19)) → K a w_1) := hK
    clear hK HR HS
    obtain ⟨S1, G1, hk1, hk2, hst, hm, hop⟩ := hI.out
    have D := HH.out k' acc' nv' W S1 hk1
    unfold Does at D
    have hst' : (if (part k' acc').1 = 0 then
      (if opAt (nxt ts (part k' acc').2.1).t f c = 0 then (0, (part k' acc').2.1, if op = 0 then (part k' acc').2.2 else putN (part k' acc').2.2 (opX op))
       else stepsF (nxt ts) f c part m (opAt (nxt ts (part k' acc').2.1).t f c) ((part k' acc').2.1 + 1) (if op = 0 then (part k' acc').2.2 else putN (part k' acc').2.2 (opX op)))
      else part k' acc') = R := hst
    generalize part k' acc' = r at D hst'
    obtain ⟨re, rk, rc⟩ := r
    simp only at D hst'
    have HST : Hid _ := hst'
    clear hst hst' hI HH S1
    go_wp2_with fail
    refine D.mono ?_
    rintro e w1 ⟨rfl, ⟨n1, S1, g1⟩, hrk⟩
    clear D
    have G2 := G1.trans g1
    by_cases hre : re = 0
    case neg =>
      have hre' : ¬ (re : Int) = 0 := by omega
      have HF : Hid (R = (re, rk, rc)) := by show R = _; rw [← HST.out, if_neg hre]
      clear HST
      go_wp2
      simp only [Exit.jump]
      go_ret
      have hR := HF.out
      subst hR
      exact ⟨rfl, ⟨n1, S1, G2⟩, by simp only; omega⟩
    · subst hre
      have hst2 := HST.out
      rw [if_pos rfl] at hst2
      clear HST
      have HS1 : Hid (Stt w0 ao ts cap p w1 rk n1 rc o) := S1
      have PU : Calls Tryz.prog 198 #[.pointer (some ⟨p, 0, none⟩), .agg #[.int .i64 (op : Int), .string ⟨#[]⟩, .string ⟨#[]⟩, .int .i64 0, .int .i64 0, .int .i64 0, .string ⟨#[]⟩, .int .i64 0]] w1 fun e w' => e = .returned (.tuple #[]) ∧ ∃ nv', Stt w0 ao ts cap p w' rk nv' (putN rc (opX op)) o ∧ Goes p w1 w' n1 nv' := put_any w0 p ao ts cap rk o n1 rc (opX op) w1 S1
      have TO : Hid (∀ n2 A W2, Stt w0 ao ts cap p W2 rk n2 A o → Calls Tryz.prog 199 #[.pointer (some ⟨p, 0, none⟩), .int .i64 (f : Int), .int .i64 L] W2 fun e w' => e = .returned (.int .i64 (opAt (nxt ts rk).t f c : Int)) ∧ Stt w0 ao ts cap p w' (if opAt (nxt ts rk).t f c = 0 then rk else rk + 1) n2 A o ∧ Fr W2 w' p none) := fun n2 A W2 h => tookOp_any w0 p ao ts cap rk o n2 A f c L W2 HE.out hf hc HL.out h
      have hq19 : opAt (nxt ts rk).t f c < 19 := opAt_lt _ _ _ hc
      generalize opAt (nxt ts rk).t f c = q at TO hst2 hq19
      have HST2 : Hid _ := hst2
      clear hst2 S1
      by_cases hop0 : op = 0
      · subst hop0
        clear PU
        simp only [↓reduceIte] at HST2
        by_cases hq : q = 0
        · subst hq
          simp only [↓reduceIte] at HST2 TO
          have T1 := TO.out n1 rc w1 HS1.out
          clear TO
          go_wp2_with (go_at_call 199; refine T1.mono ?_; rintro e w2 ⟨rfl, S2, g2⟩)
          simp only [Exit.jump]
          go_ret
          have hR := HST2.out
          subst hR
          exact ⟨rfl, ⟨n1, S2, G2.trans (Goes.of_fr g2 n1)⟩, by simp only; omega⟩
        · have hq' : ¬ (q : Int) = 0 := by omega
          rw [if_neg hq] at TO
          have HN : Hid (stepsF (nxt ts) f c part m q (rk + 1) rc = R) := by
            have := HST2.out
            rw [if_neg hq] at this
            exact this
          have T1 := TO.out n1 rc w1 HS1.out
          clear TO HST2
          go_wp2_with (go_at_call 199; refine T1.mono ?_; rintro e w2 ⟨rfl, S2, g2⟩)
          apply wp_goto
          refine ⟨rfl, ?_⟩
          exact HK.out _ _ ⟨rk + 1, q, rc, n1, _, _, _, _, _, _, _, _, _, _, _, _, _, _, _, _, _, _, _, _, _, rfl, S2, G2.trans (Goes.of_fr g2 n1), by omega, by omega, HN.out, by omega, hq19⟩
      · have hop' : ¬ (op : Int) = 0 := by omega
        simp only [if_neg hop0] at HST2
        by_cases hq : q = 0
        · subst hq
          simp only [↓reduceIte] at HST2 TO
          go_wp2_with (first
            | (go_at_call 198; refine PU.mono ?_; rintro e w2 ⟨rfl, n2, S2, g2⟩; have T1 := TO.out n2 _ w2 S2)
            | (go_at_call 199; refine T1.mono ?_; rintro e w3 ⟨rfl, S3, g3⟩))
          simp only [Exit.jump]
          go_ret
          have hR := HST2.out
          subst hR
          exact ⟨rfl, ⟨n2, S3, (G2.trans g2).trans (Goes.of_fr g3 n2)⟩, by simp only; omega⟩
        · have hq' : ¬ (q : Int) = 0 := by omega
          rw [if_neg hq] at TO
          have HN : Hid (stepsF (nxt ts) f c part m q (rk + 1) (putN rc (opX op)) = R) := by
            have := HST2.out
            rw [if_neg hq] at this
            exact this
          clear HST2
          go_wp2_with (first
            | (go_at_call 198; refine PU.mono ?_; rintro e w2 ⟨rfl, n2, S2, g2⟩; have T1 := TO.out n2 _ w2 S2)
            | (go_at_call 199; refine T1.mono ?_; rintro e w3 ⟨rfl, S3, g3⟩))
          apply wp_goto
          refine ⟨rfl, ?_⟩
          exact HK.out _ _ ⟨rk + 1, q, _, n2, _, _, _, _, _, _, _, _, _, _, _, _, _, _, _, _, _, _, _, _, _, rfl, S3, (G2.trans g2).trans (Goes.of_fr g3 n2), by omega, by omega, HN.out, by omega, hq19⟩

end Go.Proofs.YtclhmmgdhagloaaGreatDoor
