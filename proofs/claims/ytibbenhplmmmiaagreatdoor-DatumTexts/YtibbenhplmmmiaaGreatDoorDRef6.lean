/-
  The document's wide numbers: back.
-/
import Derived.Test.YtibbenhplmmmiaaGreatDoorDRef1
namespace Go.Proofs.YtibbenhplmmmiaaGreatDoor
open Go.RowKit

theorem over_big (s : Bool) (v : Nat) (h : 18446744073709551616 ≤ v) : nz (sval s v) = 0 ∧ (∀ t, fs (sval s v) t = 0) ∧ nErr (sval s v) = 32 := by
  have hf : fits (sval s v) = false := by rw [Bool.eq_false_iff]; intro h2; have := (fits_iff _).1 h2; cases s <;> simp [sval] at this <;> omega
  simp [nz, fs, nErr, hf]

set_option maxRecDepth 5000 in
set_option maxHeartbeats 4000000 in
theorem rback_any (a0 a1 a2 a3 a4 a5 : Nat) (s : Bool) (t : Int) (w : World) (ha : Low6 a0 a1 a2 a3 a4 a5) :
    Calls Tryz.prog 82 #[wv a0 a1 a2 a3 a4 a5 s, .int .i64 t] w fun e w' => e = .returned (dres (sval s (val6 a0 a1 a2 a3 a4 a5)) t) ∧ Grew w w' := by
  have HA : Hid (Low6 a0 a1 a2 a3 a4 a5) := ha
  clear ha
  by_cases h2 : a2 = 0
  · subst h2
    by_cases h3 : a3 = 0
    · subst h3
      by_cases h4 : a4 = 0
      · subst h4
        by_cases h5 : a5 = 0
        · subst h5
          obtain ⟨l0, l1, _⟩ := HA.out
          have e1 : val6 a0 a1 0 0 0 0 = a1 * 4294967296 + a0 := by unfold val6; omega
          obtain ⟨u, m, x1, x2, x3, lu⟩ : ∃ u m : Nat, u = a1 * 4294967296 + a0 ∧ IntKind.u64.wrap ((a1 : Int) * 4294967296) = (m : Int) ∧ IntKind.u64.wrap ((m : Int) + (a0 : Int)) = (u : Int) ∧ u < 18446744073709551616 :=
            ⟨a1 * 4294967296 + a0, a1 * 4294967296, rfl, by rw [IntKind.wrap_u64]; omega, by rw [IntKind.wrap_u64]; omega, by omega⟩
          rw [e1, ← x1]
          have HU : Hid (u < 18446744073709551616) := lu
          clear e1 x1 l0 l1 HA lu
          cases s
          · by_cases hb : 9223372036854775808 ≤ u
            · have hbi : (9223372036854775808 : Int) ≤ (u : Int) := by omega
              have hz : nz (sval false u) = 0 ∧ fs (sval false u) t = 0 ∧ nErr (sval false u) = 32 := by
                have hf : fits (sval false u) = false := by rw [Bool.eq_false_iff]; intro h; have := (fits_iff _).1 h; simp [sval] at this; omega
                simp [nz, fs, nErr, hf]
              rw [dres, hz.1, hz.2.1, hz.2.2]
              clear hz hb
              go_enter Tryz.func82, Tryz.ntmps82
              go_wp2_with fail
              refine wp_loop_rounds 5 ?_
              rw [rounds_succ]
              go_wp2_with fail
              rw [rounds_succ]
              go_wp2_with fail
              rw [rounds_succ]
              go_wp2_with fail
              rw [rounds_succ]
              go_wp2_with fail
              rw [rounds_succ]
              go_wp2_with fail
              refine bodyPost_ret_by (v := dBad 32) ?_ rfl ⟨rfl, (by repeat (first | exact Grew.refl _ | apply Grew.drew | apply Grew.drewN | apply Grew.alloc | apply Grew.more))⟩
              simp [results, Tryz.results82, go_sem]
            · have hbi : (u : Int) < (9223372036854775808 : Int) := by omega
              have hz : nz (sval false u) = u ∧ fs (sval false u) t = t ∧ nErr (sval false u) = 0 := by
                have hf : fits (sval false u) = true := (fits_iff _).2 (by simp [sval]; omega)
                simp [nz, fs, nErr, hf]; rfl
              have ew : IntKind.i64.wrap (u : Int) = (u : Int) := by rw [IntKind.wrap_i64]; omega
              rw [dres, hz.1, hz.2.1, hz.2.2]
              clear hz hb HU
              generalize (u : Int) = U at *
              go_enter Tryz.func82, Tryz.ntmps82
              go_wp2_with fail
              refine wp_loop_rounds 5 ?_
              rw [rounds_succ]
              go_wp2_with fail
              rw [rounds_succ]
              go_wp2_with fail
              rw [rounds_succ]
              go_wp2_with fail
              rw [rounds_succ]
              go_wp2_with fail
              rw [rounds_succ]
              go_wp2_with fail
              refine bodyPost_ret_by (v := .tuple #[dv U t, .int .i64 0]) ?_ (by rfl) ⟨by rfl, (by repeat (first | exact Grew.refl _ | apply Grew.drew | apply Grew.drewN | apply Grew.alloc | apply Grew.more))⟩
              simp [results, Tryz.results82, go_sem]
          · by_cases hb : u ≤ 9223372036854775808
            · have hbi : (u : Int) ≤ (9223372036854775808 : Int) := by omega
              have hz : nz (sval true u) = -(u : Int) ∧ fs (sval true u) t = t ∧ nErr (sval true u) = 0 := by
                have hf : fits (sval true u) = true := (fits_iff _).2 (by simp [sval]; omega)
                simp [nz, fs, nErr, hf]; rfl
              have ew : IntKind.i64.wrap (IntKind.u64.wrap (-(u : Int))) = -(u : Int) := by rw [IntKind.wrap_u64, IntKind.wrap_i64]; omega
              rw [dres, hz.1, hz.2.1, hz.2.2]
              clear hz hb
              go_enter Tryz.func82, Tryz.ntmps82
              go_wp2_with fail
              refine wp_loop_rounds 5 ?_
              rw [rounds_succ]
              go_wp2_with fail
              rw [rounds_succ]
              go_wp2_with fail
              rw [rounds_succ]
              go_wp2_with fail
              rw [rounds_succ]
              go_wp2_with fail
              rw [rounds_succ]
              go_wp2_with fail
              refine bodyPost_ret_by (v := .tuple #[dv (-(u : Int)) t, .int .i64 0]) ?_ rfl ⟨rfl, (by repeat (first | exact Grew.refl _ | apply Grew.drew | apply Grew.drewN | apply Grew.alloc | apply Grew.more))⟩
              simp [results, Tryz.results82, go_sem]
            · have hbi : ¬ (u : Int) ≤ (9223372036854775808 : Int) := by omega
              have hbj : (9223372036854775808 : Int) ≤ (u : Int) := by omega
              have hz : nz (sval true u) = 0 ∧ fs (sval true u) t = 0 ∧ nErr (sval true u) = 32 := by
                have hf : fits (sval true u) = false := by rw [Bool.eq_false_iff]; intro h; have := (fits_iff _).1 h; simp [sval] at this; omega
                simp [nz, fs, nErr, hf]
              rw [dres, hz.1, hz.2.1, hz.2.2]
              clear hz hb
              go_enter Tryz.func82, Tryz.ntmps82
              go_wp2_with fail
              refine wp_loop_rounds 5 ?_
              rw [rounds_succ]
              go_wp2_with fail
              rw [rounds_succ]
              go_wp2_with fail
              rw [rounds_succ]
              go_wp2_with fail
              rw [rounds_succ]
              go_wp2_with fail
              rw [rounds_succ]
              go_wp2_with fail
              refine bodyPost_ret_by (v := dBad 32) ?_ rfl ⟨rfl, (by repeat (first | exact Grew.refl _ | apply Grew.drew | apply Grew.drewN | apply Grew.alloc | apply Grew.more))⟩
              simp [results, Tryz.results82, go_sem]
        · have HV : Hid (18446744073709551616 ≤ val6 a0 a1 0 0 0 a5) := (show 18446744073709551616 ≤ val6 a0 a1 0 0 0 a5 by unfold val6; omega)
          have hi : ¬ (a5 : Int) = 0 := by omega
          obtain ⟨va, hva⟩ : ∃ v, v = val6 a0 a1 0 0 0 a5 := ⟨_, rfl⟩
          rw [← hva] at HV ⊢
          clear hva
          have hz := over_big s va HV.out
          rw [dres, hz.1, hz.2.1, hz.2.2]
          go_enter Tryz.func82, Tryz.ntmps82
          go_wp2_with fail
          refine wp_loop_rounds 5 ?_
          rw [rounds_succ]
          go_wp2_with fail
          rw [rounds_succ]
          go_wp2_with fail
          rw [rounds_succ]
          go_wp2_with fail
          rw [rounds_succ]
          go_wp2_with fail
          refine bodyPost_ret_by (v := dBad 32) ?_ rfl ⟨rfl, (by repeat (first | exact Grew.refl _ | apply Grew.drew | apply Grew.drewN | apply Grew.alloc | apply Grew.more))⟩
          simp [results, Tryz.results82, go_sem]
      · have HV : Hid (18446744073709551616 ≤ val6 a0 a1 0 0 a4 a5) := (show 18446744073709551616 ≤ val6 a0 a1 0 0 a4 a5 by unfold val6; omega)
        have hi : ¬ (a4 : Int) = 0 := by omega
        obtain ⟨va, hva⟩ : ∃ v, v = val6 a0 a1 0 0 a4 a5 := ⟨_, rfl⟩
        rw [← hva] at HV ⊢
        clear hva
        have hz := over_big s va HV.out
        rw [dres, hz.1, hz.2.1, hz.2.2]
        go_enter Tryz.func82, Tryz.ntmps82
        go_wp2_with fail
        refine wp_loop_rounds 5 ?_
        rw [rounds_succ]
        go_wp2_with fail
        rw [rounds_succ]
        go_wp2_with fail
        rw [rounds_succ]
        go_wp2_with fail
        refine bodyPost_ret_by (v := dBad 32) ?_ rfl ⟨rfl, (by repeat (first | exact Grew.refl _ | apply Grew.drew | apply Grew.drewN | apply Grew.alloc | apply Grew.more))⟩
        simp [results, Tryz.results82, go_sem]
    · have HV : Hid (18446744073709551616 ≤ val6 a0 a1 0 a3 a4 a5) := (show 18446744073709551616 ≤ val6 a0 a1 0 a3 a4 a5 by unfold val6; omega)
      have hi : ¬ (a3 : Int) = 0 := by omega
      obtain ⟨va, hva⟩ : ∃ v, v = val6 a0 a1 0 a3 a4 a5 := ⟨_, rfl⟩
      rw [← hva] at HV ⊢
      clear hva
      have hz := over_big s va HV.out
      rw [dres, hz.1, hz.2.1, hz.2.2]
      go_enter Tryz.func82, Tryz.ntmps82
      go_wp2_with fail
      refine wp_loop_rounds 5 ?_
      rw [rounds_succ]
      go_wp2_with fail
      rw [rounds_succ]
      go_wp2_with fail
      refine bodyPost_ret_by (v := dBad 32) ?_ rfl ⟨rfl, (by repeat (first | exact Grew.refl _ | apply Grew.drew | apply Grew.drewN | apply Grew.alloc | apply Grew.more))⟩
      simp [results, Tryz.results82, go_sem]
  · have HV : Hid (18446744073709551616 ≤ val6 a0 a1 a2 a3 a4 a5) := (show 18446744073709551616 ≤ val6 a0 a1 a2 a3 a4 a5 by unfold val6; omega)
    have hi : ¬ (a2 : Int) = 0 := by omega
    obtain ⟨va, hva⟩ : ∃ v, v = val6 a0 a1 a2 a3 a4 a5 := ⟨_, rfl⟩
    rw [← hva] at HV ⊢
    clear hva
    have hz := over_big s va HV.out
    rw [dres, hz.1, hz.2.1, hz.2.2]
    go_enter Tryz.func82, Tryz.ntmps82
    go_wp2_with fail
    refine wp_loop_rounds 5 ?_
    rw [rounds_succ]
    go_wp2_with fail
    refine bodyPost_ret_by (v := dBad 32) ?_ rfl ⟨rfl, (by repeat (first | exact Grew.refl _ | apply Grew.drew | apply Grew.drewN | apply Grew.alloc | apply Grew.more))⟩
    simp [results, Tryz.results82, go_sem]
end Go.Proofs.YtibbenhplmmmiaaGreatDoor
