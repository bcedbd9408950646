/-
  The document's wide numbers: sum, back.
  The document's wide numbers: back.
  AddInt and MulInt, the program's and the document's: the exact sum or product, if that is an int.
  The document's wide numbers: scaled.
-/
import Derived.Test.YtnpdecbgakgbgaaGreatDoorDRef2
import Derived.Test.YtnpdecbgakgbgaaGreatDoorDRef3
import Derived.Test.YtnpdecbgakgbgaaGreatDoorDRef1
import Derived.Test.YtnpdecbgakgbgaaGreatDoorDRef4
import Derived.Test.YtnpdecbgakgbgaaGreatDoorMvDInt0
import Derived.Test.YtnpdecbgakgbgaaGreatDoorMCQTru
import Derived.Deep.RegionHeld2
namespace Go.Proofs.YtnpdecbgakgbgaaGreatDoor
open Go.RowKit
attribute [local go_sem] cell?_more frozen?_more setCell_more more_lt more_more more_drew more_drewN setCell_drewN alloc_drewN

theorem cellMA (l : List Obj) (o : Obj) (n i : Nat) (w : World) (h : n < w.heap.size) : ((more w l).alloc o).cell? ⟨n, i, none⟩ = w.cell? ⟨n, i, none⟩ :=
  (World.cell?_alloc_past o n i (more_lt h l)).trans (cell?_more l n i w h)
theorem frozenMA (l : List Obj) (o : Obj) (n i : Nat) (w : World) (h : n < w.heap.size) : ((more w l).alloc o).frozen? ⟨n, i, none⟩ = w.frozen? ⟨n, i, none⟩ :=
  (World.frozen?_alloc_past o n i (more_lt h l)).trans (frozen?_more l n i w h)
theorem setMA (l : List Obj) (o : Obj) (n i : Nat) (v : Value) (w : World) (h : n < w.heap.size) : ((more w l).alloc o).setCell ⟨n, i, none⟩ v = (more (w.setCell ⟨n, i, none⟩ v) l).alloc o := by
  rw [World.setCell_alloc_past o n i v (more_lt h l), setCell_more l n i v w h]
attribute [local go_sem high] cellMA frozenMA setMA

theorem low_lt {a0 a1 a2 a3 a4 a5 : Nat} (h : Low6 a0 a1 a2 a3 a4 a5) : val6 a0 a1 a2 a3 a4 a5 < 6277101735386680763835789423207666416102355444464034512896 := by
  obtain ⟨h0, h1, h2, h3, h4, h5⟩ := h
  unfold val6; omega

set_option maxRecDepth 5000 in
set_option maxHeartbeats 4000000 in
theorem rsum_any (a0 a1 a2 a3 a4 a5 b0 b1 b2 b3 b4 b5 : Nat) (sa sb : Bool) (w : World) (ha : Low6 a0 a1 a2 a3 a4 a5) (hb : Low6 b0 b1 b2 b3 b4 b5) (hf : val6 a0 a1 a2 a3 a4 a5 + val6 b0 b1 b2 b3 b4 b5 < 6277101735386680763835789423207666416102355444464034512896) :
    Calls Tryz.prog 125 #[wv a0 a1 a2 a3 a4 a5 sa, wv b0 b1 b2 b3 b4 b5 sb] w fun e w' => ∃ (o0 o1 o2 o3 o4 o5 : Nat) (s : Bool), e = .returned (wv o0 o1 o2 o3 o4 o5 s) ∧ Low6 o0 o1 o2 o3 o4 o5 ∧ sval s (val6 o0 o1 o2 o3 o4 o5) = sval sa (val6 a0 a1 a2 a3 a4 a5) + sval sb (val6 b0 b1 b2 b3 b4 b5) ∧ Grew w w' := by
  have P := fun W => plus_any a0 a1 a2 a3 a4 a5 b0 b1 b2 b3 b4 b5 sa sb W ha hb
  have L := fun W => less_any a0 a1 a2 a3 a4 a5 b0 b1 b2 b3 b4 b5 sa sb W ha hb
  have M1 := fun h W => minus_any b0 b1 b2 b3 b4 b5 a0 a1 a2 a3 a4 a5 sb sa W hb ha h
  have M2 := fun h W => minus_any a0 a1 a2 a3 a4 a5 b0 b1 b2 b3 b4 b5 sa sb W ha hb h
  obtain ⟨va, hva⟩ : ∃ v, v = val6 a0 a1 a2 a3 a4 a5 := ⟨_, rfl⟩
  obtain ⟨vb, hvb⟩ : ∃ v, v = val6 b0 b1 b2 b3 b4 b5 := ⟨_, rfl⟩
  rw [← hva, ← hvb] at P L M1 M2 hf
  rw [← hva, ← hvb]
  have HF : Hid (va + vb < 6277101735386680763835789423207666416102355444464034512896) := hf
  clear hva hvb ha hb hf
  by_cases hs : sa = sb
  · subst hs
    clear L M1 M2
    go_enter Tryz.func125, Tryz.ntmps125
    go_wp2_with (go_at_call 186; refine (P _).mono ?_; rintro e w' ⟨o0, o1, o2, o3, o4, o5, c, rfl, lo, hv, os, n, rfl⟩)
    refine bodyPost_ret_by (v := wv o0 o1 o2 o3 o4 o5 sa) ?_ rfl ⟨o0, o1, o2, o3, o4, o5, sa, rfl, lo, ?_, (by repeat (first | exact Grew.refl _ | apply Grew.drew | apply Grew.drewN | apply Grew.alloc | apply Grew.more))⟩
    · simp [results, Tryz.results125, go_sem]
    · have h1 := HF.out
      have h2 : val6 o0 o1 o2 o3 o4 o5 = va + vb := by omega
      rw [h2]
      cases sa <;> simp [sval] <;> omega
  · have hsb : (sa == sb) = false := by simpa using hs
    clear P
    by_cases hlt : va < vb
    · have hd : decide (va < vb) = true := by simp [hlt]
      rw [hd] at L
      have M := M1 (by omega)
      clear M1 M2 hd
      go_enter Tryz.func125, Tryz.ntmps125
      go_wp2_with (first
        | (go_at_call 187; refine (L _).mono ?_; rintro e w' ⟨rfl, os1, n1, rfl⟩)
        | (go_at_call 188; refine (M _).mono ?_; rintro e w' ⟨o0, o1, o2, o3, o4, o5, rfl, lo, hv, os, n, rfl⟩))
      refine bodyPost_ret_by (v := wv o0 o1 o2 o3 o4 o5 sb) ?_ rfl ⟨o0, o1, o2, o3, o4, o5, sb, rfl, lo, ?_, (by repeat (first | exact Grew.refl _ | apply Grew.drew | apply Grew.drewN | apply Grew.alloc | apply Grew.more))⟩
      · simp [results, Tryz.results125, go_sem]
      · rw [hv]
        cases sa <;> cases sb <;> simp [sval] at hs ⊢ <;> omega
    · have hd : decide (va < vb) = false := by simp; omega
      rw [hd] at L
      have M := M2 (by omega)
      clear M1 M2 hd
      go_enter Tryz.func125, Tryz.ntmps125
      go_wp2_with (first
        | (go_at_call 187; refine (L _).mono ?_; rintro e w' ⟨rfl, os1, n1, rfl⟩)
        | (go_at_call 188; refine (M _).mono ?_; rintro e w' ⟨o0, o1, o2, o3, o4, o5, rfl, lo, hv, os, n, rfl⟩))
      refine bodyPost_ret_by (v := wv o0 o1 o2 o3 o4 o5 sa) ?_ rfl ⟨o0, o1, o2, o3, o4, o5, sa, rfl, lo, ?_, (by repeat (first | exact Grew.refl _ | apply Grew.drew | apply Grew.drewN | apply Grew.alloc | apply Grew.more))⟩
      · simp [results, Tryz.results125, go_sem]
      · rw [hv]
        cases sa <;> cases sb <;> simp [sval] at hs ⊢ <;> omega
end Go.Proofs.YtnpdecbgakgbgaaGreatDoor

namespace Go.Proofs.YtnpdecbgakgbgaaGreatDoor
open Go.RowKit

theorem over_big (s : Bool) (v : Nat) (h : 18446744073709551616 ≤ v) : nz (sval s v) = 0 ∧ (∀ t, fs (sval s v) t = 0) ∧ nErr (sval s v) = 32 := by
  have hf : fits (sval s v) = false := by rw [Bool.eq_false_iff]; intro h2; have := (fits_iff _).1 h2; cases s <;> simp [sval] at this <;> omega
  simp [nz, fs, nErr, hf]

set_option maxRecDepth 5000 in
set_option maxHeartbeats 4000000 in
theorem rback_any (a0 a1 a2 a3 a4 a5 : Nat) (s : Bool) (t : Int) (w : World) (ha : Low6 a0 a1 a2 a3 a4 a5) :
    Calls Tryz.prog 136 #[wv a0 a1 a2 a3 a4 a5 s, .int .i64 t] w fun e w' => e = .returned (dres (sval s (val6 a0 a1 a2 a3 a4 a5)) t) ∧ Grew w w' := by
  have HA : Hid (Low6 a0 a1 a2 a3 a4 a5) := ha
  clear ha
  by_cases h2 : a2 = 0
  · subst h2
    by_cases h3 : a3 = 0
    · subst h3
      by_cases h4 : a4 = 0
      · subst h4
        by_cases h5 : a5 = 0
        · subst h5
          obtain ⟨l0, l1, _⟩ := HA.out
          have e1 : val6 a0 a1 0 0 0 0 = a1 * 4294967296 + a0 := by unfold val6; omega
          obtain ⟨u, m, x1, x2, x3, lu⟩ : ∃ u m : Nat, u = a1 * 4294967296 + a0 ∧ IntKind.u64.wrap ((a1 : Int) * 4294967296) = (m : Int) ∧ IntKind.u64.wrap ((m : Int) + (a0 : Int)) = (u : Int) ∧ u < 18446744073709551616 :=
            ⟨a1 * 4294967296 + a0, a1 * 4294967296, rfl, by rw [IntKind.wrap_u64]; omega, by rw [IntKind.wrap_u64]; omega, by omega⟩
          rw [e1, ← x1]
          have HU : Hid (u < 18446744073709551616) := lu
          clear e1 x1 l0 l1 HA lu
          cases s
          · by_cases hb : 9223372036854775808 ≤ u
            · have hbi : (9223372036854775808 : Int) ≤ (u : Int) := by omega
              have hz : nz (sval false u) = 0 ∧ fs (sval false u) t = 0 ∧ nErr (sval false u) = 32 := by
                have hf : fits (sval false u) = false := by rw [Bool.eq_false_iff]; intro h; have := (fits_iff _).1 h; simp [sval] at this; omega
                simp [nz, fs, nErr, hf]
              rw [dres, hz.1, hz.2.1, hz.2.2]
              clear hz hb
              go_enter Tryz.func136, Tryz.ntmps136
              go_wp2_with fail
              refine wp_loop_rounds 5 ?_
              rw [rounds_succ]
              go_wp2_with fail
              rw [rounds_succ]
              go_wp2_with fail
              rw [rounds_succ]
              go_wp2_with fail
              rw [rounds_succ]
              go_wp2_with fail
              rw [rounds_succ]
              go_wp2_with fail
              refine bodyPost_ret_by (v := dBad 32) ?_ rfl ⟨rfl, (by repeat (first | exact Grew.refl _ | apply Grew.drew | apply Grew.drewN | apply Grew.alloc | apply Grew.more))⟩
              simp [results, Tryz.results136, go_sem]
            · have hbi : (u : Int) < (9223372036854775808 : Int) := by omega
              have hz : nz (sval false u) = u ∧ fs (sval false u) t = t ∧ nErr (sval false u) = 0 := by
                have hf : fits (sval false u) = true := (fits_iff _).2 (by simp [sval]; omega)
                simp [nz, fs, nErr, hf]; rfl
              have ew : IntKind.i64.wrap (u : Int) = (u : Int) := by rw [IntKind.wrap_i64]; omega
              rw [dres, hz.1, hz.2.1, hz.2.2]
              clear hz hb HU
              generalize (u : Int) = U at *
              go_enter Tryz.func136, Tryz.ntmps136
              go_wp2_with fail
              refine wp_loop_rounds 5 ?_
              rw [rounds_succ]
              go_wp2_with fail
              rw [rounds_succ]
              go_wp2_with fail
              rw [rounds_succ]
              go_wp2_with fail
              rw [rounds_succ]
              go_wp2_with fail
              rw [rounds_succ]
              go_wp2_with fail
              refine bodyPost_ret_by (v := .tuple #[dv U t, .int .i64 0]) ?_ (by rfl) ⟨by rfl, (by repeat (first | exact Grew.refl _ | apply Grew.drew | apply Grew.drewN | apply Grew.alloc | apply Grew.more))⟩
              simp [results, Tryz.results136, go_sem]
          · by_cases hb : u ≤ 9223372036854775808
            · have hbi : (u : Int) ≤ (9223372036854775808 : Int) := by omega
              have hz : nz (sval true u) = -(u : Int) ∧ fs (sval true u) t = t ∧ nErr (sval true u) = 0 := by
                have hf : fits (sval true u) = true := (fits_iff _).2 (by simp [sval]; omega)
                simp [nz, fs, nErr, hf]; rfl
              have ew : IntKind.i64.wrap (IntKind.u64.wrap (-(u : Int))) = -(u : Int) := by rw [IntKind.wrap_u64, IntKind.wrap_i64]; omega
              rw [dres, hz.1, hz.2.1, hz.2.2]
              clear hz hb
              go_enter Tryz.func136, Tryz.ntmps136
              go_wp2_with fail
              refine wp_loop_rounds 5 ?_
              rw [rounds_succ]
              go_wp2_with fail
              rw [rounds_succ]
              go_wp2_with fail
              rw [rounds_succ]
              go_wp2_with fail
              rw [rounds_succ]
              go_wp2_with fail
              rw [rounds_succ]
              go_wp2_with fail
              refine bodyPost_ret_by (v := .tuple #[dv (-(u : Int)) t, .int .i64 0]) ?_ rfl ⟨rfl, (by repeat (first | exact Grew.refl _ | apply Grew.drew | apply Grew.drewN | apply Grew.alloc | apply Grew.more))⟩
              simp [results, Tryz.results136, go_sem]
            · have hbi : ¬ (u : Int) ≤ (9223372036854775808 : Int) := by omega
              have hbj : (9223372036854775808 : Int) ≤ (u : Int) := by omega
              have hz : nz (sval true u) = 0 ∧ fs (sval true u) t = 0 ∧ nErr (sval true u) = 32 := by
                have hf : fits (sval true u) = false := by rw [Bool.eq_false_iff]; intro h; have := (fits_iff _).1 h; simp [sval] at this; omega
                simp [nz, fs, nErr, hf]
              rw [dres, hz.1, hz.2.1, hz.2.2]
              clear hz hb
              go_enter Tryz.func136, Tryz.ntmps136
              go_wp2_with fail
              refine wp_loop_rounds 5 ?_
              rw [rounds_succ]
              go_wp2_with fail
              rw [rounds_succ]
              go_wp2_with fail
              rw [rounds_succ]
              go_wp2_with fail
              rw [rounds_succ]
              go_wp2_with fail
              rw [rounds_succ]
              go_wp2_with fail
              refine bodyPost_ret_by (v := dBad 32) ?_ rfl ⟨rfl, (by repeat (first | exact Grew.refl _ | apply Grew.drew | apply Grew.drewN | apply Grew.alloc | apply Grew.more))⟩
              simp [results, Tryz.results136, go_sem]
        · have HV : Hid (18446744073709551616 ≤ val6 a0 a1 0 0 0 a5) := (show 18446744073709551616 ≤ val6 a0 a1 0 0 0 a5 by unfold val6; omega)
          have hi : ¬ (a5 : Int) = 0 := by omega
          obtain ⟨va, hva⟩ : ∃ v, v = val6 a0 a1 0 0 0 a5 := ⟨_, rfl⟩
          rw [← hva] at HV ⊢
          clear hva
          have hz := over_big s va HV.out
          rw [dres, hz.1, hz.2.1, hz.2.2]
          go_enter Tryz.func136, Tryz.ntmps136
          go_wp2_with fail
          refine wp_loop_rounds 5 ?_
          rw [rounds_succ]
          go_wp2_with fail
          rw [rounds_succ]
          go_wp2_with fail
          rw [rounds_succ]
          go_wp2_with fail
          rw [rounds_succ]
          go_wp2_with fail
          refine bodyPost_ret_by (v := dBad 32) ?_ rfl ⟨rfl, (by repeat (first | exact Grew.refl _ | apply Grew.drew | apply Grew.drewN | apply Grew.alloc | apply Grew.more))⟩
          simp [results, Tryz.results136, go_sem]
      · have HV : Hid (18446744073709551616 ≤ val6 a0 a1 0 0 a4 a5) := (show 18446744073709551616 ≤ val6 a0 a1 0 0 a4 a5 by unfold val6; omega)
        have hi : ¬ (a4 : Int) = 0 := by omega
        obtain ⟨va, hva⟩ : ∃ v, v = val6 a0 a1 0 0 a4 a5 := ⟨_, rfl⟩
        rw [← hva] at HV ⊢
        clear hva
        have hz := over_big s va HV.out
        rw [dres, hz.1, hz.2.1, hz.2.2]
        go_enter Tryz.func136, Tryz.ntmps136
        go_wp2_with fail
        refine wp_loop_rounds 5 ?_
        rw [rounds_succ]
        go_wp2_with fail
        rw [rounds_succ]
        go_wp2_with fail
        rw [rounds_succ]
        go_wp2_with fail
        refine bodyPost_ret_by (v := dBad 32) ?_ rfl ⟨rfl, (by repeat (first | exact Grew.refl _ | apply Grew.drew | apply Grew.drewN | apply Grew.alloc | apply Grew.more))⟩
        simp [results, Tryz.results136, go_sem]
    · have HV : Hid (18446744073709551616 ≤ val6 a0 a1 0 a3 a4 a5) := (show 18446744073709551616 ≤ val6 a0 a1 0 a3 a4 a5 by unfold val6; omega)
      have hi : ¬ (a3 : Int) = 0 := by omega
      obtain ⟨va, hva⟩ : ∃ v, v = val6 a0 a1 0 a3 a4 a5 := ⟨_, rfl⟩
      rw [← hva] at HV ⊢
      clear hva
      have hz := over_big s va HV.out
      rw [dres, hz.1, hz.2.1, hz.2.2]
      go_enter Tryz.func136, Tryz.ntmps136
      go_wp2_with fail
      refine wp_loop_rounds 5 ?_
      rw [rounds_succ]
      go_wp2_with fail
      rw [rounds_succ]
      go_wp2_with fail
      refine bodyPost_ret_by (v := dBad 32) ?_ rfl ⟨rfl, (by repeat (first | exact Grew.refl _ | apply Grew.drew | apply Grew.drewN | apply Grew.alloc | apply Grew.more))⟩
      simp [results, Tryz.results136, go_sem]
  · have HV : Hid (18446744073709551616 ≤ val6 a0 a1 a2 a3 a4 a5) := (show 18446744073709551616 ≤ val6 a0 a1 a2 a3 a4 a5 by unfold val6; omega)
    have hi : ¬ (a2 : Int) = 0 := by omega
    obtain ⟨va, hva⟩ : ∃ v, v = val6 a0 a1 a2 a3 a4 a5 := ⟨_, rfl⟩
    rw [← hva] at HV ⊢
    clear hva
    have hz := over_big s va HV.out
    rw [dres, hz.1, hz.2.1, hz.2.2]
    go_enter Tryz.func136, Tryz.ntmps136
    go_wp2_with fail
    refine wp_loop_rounds 5 ?_
    rw [rounds_succ]
    go_wp2_with fail
    refine bodyPost_ret_by (v := dBad 32) ?_ rfl ⟨rfl, (by repeat (first | exact Grew.refl _ | apply Grew.drew | apply Grew.drewN | apply Grew.alloc | apply Grew.more))⟩
    simp [results, Tryz.results136, go_sem]
end Go.Proofs.YtnpdecbgakgbgaaGreatDoor

namespace Go.Proofs.YtnpdecbgakgbgaaGreatDoor
open Go.RowKit
attribute [local go_sem] cell?_more frozen?_more setCell_more more_lt more_more more_drew more_drewN setCell_drewN alloc_drewN

theorem low_of (u q r : Nat) (h : u < 18446744073709551616) (hq : q = u / 4294967296) (hr : r = u % 4294967296) : Low6 r q 0 0 0 0 ∧ val6 r q 0 0 0 0 = u := by
  refine ⟨⟨by omega, by omega, by decide, by decide, by decide, by decide⟩, ?_⟩
  unfold val6; omega

set_option maxHeartbeats 1000000 in
theorem raddInt_any (a b : Int) (w : World) (a0 : -9223372036854775808 ≤ a) (a1 : a ≤ 9223372036854775807) (b0 : -9223372036854775808 ≤ b) (b1 : b ≤ 9223372036854775807) :
    Calls Tryz.prog 177 #[.int .i64 a, .int .i64 b] w fun e w' => e = .returned (ires (a + b)) ∧ Grew w w' := by
  have A := fun W => wof_any a _ _ _ W a0 a1 rfl rfl rfl
  have B := fun W => wof_any b _ _ _ W b0 b1 rfl rfl rfl
  have la := low_of a.natAbs _ _ (by omega) rfl rfl
  have lb := low_of b.natAbs _ _ (by omega) rfl rfl
  have S := fun W => rsum_any _ _ _ _ _ _ _ _ _ _ _ _ (decide (a < 0)) (decide (b < 0)) W la.1 lb.1 (by rw [la.2, lb.2]; omega)
  rw [la.2, lb.2, sval_of, sval_of] at S
  generalize a.natAbs % 4294967296 = ra at *
  generalize a.natAbs / 4294967296 = qa at *
  generalize b.natAbs % 4294967296 = rb at *
  generalize b.natAbs / 4294967296 = qb at *
  clear la lb a0 a1 b0 b1
  generalize a + b = z at *
  go_enter Tryz.func177, Tryz.ntmps177
  go_wp2_with fail
  refine (A _).mono ?_
  rintro e w1 ⟨rfl, os1, n1, rfl⟩
  go_wp2_with fail
  refine (B _).mono ?_
  rintro e w2 ⟨rfl, os2, n2, rfl⟩
  go_wp2_with fail
  refine (S _).mono ?_
  rintro e w3 ⟨o0, o1, o2, o3, o4, o5, s, rfl, lo, hv, os3, n3, rfl⟩
  have N := fun W => rback_any o0 o1 o2 o3 o4 o5 s 0 W lo
  rw [hv] at N
  clear S hv lo A B
  go_wp2_with fail
  refine (N _).mono ?_
  rintro e w4 ⟨rfl, os4, n4, rfl⟩
  go_wp2
  refine bodyPost_ret_by (v := ires z) ?_ (by rfl) ⟨rfl, by repeat (first | exact Grew.refl _ | apply Grew.drew | apply Grew.drewN | apply Grew.alloc | apply Grew.more)⟩
  simp [results, Tryz.results177, go_sem]

set_option maxHeartbeats 1000000 in
theorem rmulInt_any (a b : Int) (w : World) (a0 : -9223372036854775808 ≤ a) (a1 : a ≤ 9223372036854775807) (b0 : -9223372036854775808 ≤ b) (b1 : b ≤ 9223372036854775807) :
    Calls Tryz.prog 176 #[.int .i64 a, .int .i64 b] w fun e w' => e = .returned (ires (a * b)) ∧ Grew w w' := by
  have A := fun W => wof_any a _ _ _ W a0 a1 rfl rfl rfl
  have B := fun W => wof_any b _ _ _ W b0 b1 rfl rfl rfl
  have la := low_of a.natAbs _ _ (by omega) rfl rfl
  have lb := low_of b.natAbs _ _ (by omega) rfl rfl
  have S := fun W => times_two _ _ _ _ _ _ _ _ _ _ _ _ (decide (a < 0)) (decide (b < 0)) W la.1 lb.1 (show Hid (0 = 0 ∧ 0 = 0 ∧ 0 = 0 ∧ 0 = 0) from ⟨rfl, rfl, rfl, rfl⟩) (show Hid (0 = 0 ∧ 0 = 0 ∧ 0 = 0 ∧ 0 = 0) from ⟨rfl, rfl, rfl, rfl⟩)
  have ea : a.natAbs % 4294967296 + 4294967296 * (a.natAbs / 4294967296) = a.natAbs := by omega
  have eb : b.natAbs % 4294967296 + 4294967296 * (b.natAbs / 4294967296) = b.natAbs := by omega
  rw [ea, eb] at S
  have hm := sval_mul a b
  generalize a.natAbs % 4294967296 = ra at *
  generalize a.natAbs / 4294967296 = qa at *
  generalize b.natAbs % 4294967296 = rb at *
  generalize b.natAbs / 4294967296 = qb at *
  obtain ⟨z, hz⟩ : ∃ z, z = a * b := ⟨_, rfl⟩
  rw [← hz] at hm ⊢
  have HM : Hid (sval (decide (a < 0) != decide (b < 0)) (a.natAbs * b.natAbs) = z) := hm
  clear la lb a0 a1 b0 b1 ea eb hz hm
  go_enter Tryz.func176, Tryz.ntmps176
  go_wp2_with fail
  refine (A _).mono ?_
  rintro e w1 ⟨rfl, os1, n1, rfl⟩
  go_wp2_with fail
  refine (B _).mono ?_
  rintro e w2 ⟨rfl, os2, n2, rfl⟩
  go_wp2_with fail
  refine (S _).mono ?_
  rintro e w3 ⟨o0, o1, o2, o3, o4, o5, rfl, lo, hv, os3, n3, rfl⟩
  have N := fun W => rback_any o0 o1 o2 o3 o4 o5 (decide (a < 0) != decide (b < 0)) 0 W lo
  rw [hv.out, HM.out] at N
  clear S hv lo A B HM
  go_wp2_with fail
  refine (N _).mono ?_
  rintro e w4 ⟨rfl, os4, n4, rfl⟩
  go_wp2
  refine bodyPost_ret_by (v := ires z) ?_ (by rfl) ⟨rfl, by repeat (first | exact Grew.refl _ | apply Grew.drew | apply Grew.drewN | apply Grew.alloc | apply Grew.more)⟩
  simp [results, Tryz.results176, go_sem]
end Go.Proofs.YtnpdecbgakgbgaaGreatDoor

namespace Go.Proofs.YtnpdecbgakgbgaaGreatDoor
open Go.RowKit
attribute [local go_sem] cell?_more frozen?_more setCell_more more_lt more_more more_drew more_drewN setCell_drewN alloc_drewN

theorem cellMAM (l1 l2 : List Obj) (o : Obj) (n i : Nat) (w : World) (h : n < w.heap.size) : (more ((more w l1).alloc o) l2).cell? ⟨n, i, none⟩ = w.cell? ⟨n, i, none⟩ :=
  (cell?_more l2 n i _ (by have := more_lt h l1; simp; omega)).trans (cellMA l1 o n i w h)
theorem frozenMAM (l1 l2 : List Obj) (o : Obj) (n i : Nat) (w : World) (h : n < w.heap.size) : (more ((more w l1).alloc o) l2).frozen? ⟨n, i, none⟩ = w.frozen? ⟨n, i, none⟩ :=
  (frozen?_more l2 n i _ (by have := more_lt h l1; simp; omega)).trans (frozenMA l1 o n i w h)
theorem setMAM (l1 l2 : List Obj) (o : Obj) (n i : Nat) (v : Value) (w : World) (h : n < w.heap.size) : (more ((more w l1).alloc o) l2).setCell ⟨n, i, none⟩ v = more ((more (w.setCell ⟨n, i, none⟩ v) l1).alloc o) l2 := by
  rw [setCell_more l2 n i v _ (by have := more_lt h l1; simp; omega), setMA l1 o n i v w h]
attribute [local go_sem high] cellMA frozenMA setMA cellMAM frozenMAM setMAM

set_option maxRecDepth 5000 in
set_option maxHeartbeats 4000000 in
theorem rscaled_any (u s t : Int) (w : World) (u0 : -9223372036854775808 ≤ u) (u1 : u ≤ 9223372036854775807) (hs : 0 ≤ s) (hst : s ≤ t) (ht : t ≤ 6) :
    Calls Tryz.prog 124 #[dv u s, .int .i64 t] w fun e w' => ∃ o0 o1 o2 o3 o4 o5 : Nat, e = .returned (wv o0 o1 o2 o3 o4 o5 (decide (u < 0))) ∧ Low6 o0 o1 o2 o3 o4 o5 ∧ Hid (sval (decide (u < 0)) (val6 o0 o1 o2 o3 o4 o5) = at10 u s t) ∧ Hid (val6 o0 o1 o2 o3 o4 o5 < 19342813113834066795298816) ∧ Grew w w' := by
  obtain ⟨k, hk⟩ : ∃ k : Nat, t - s = (k : Int) := ⟨(t - s).toNat, by omega⟩
  have d4 : IntKind.i64.wrap (t - s) = (k : Int) := by rw [IntKind.wrap_i64]; omega
  have hp1 : 10 ^ k ≤ 10 ^ 6 := Nat.pow_le_pow_right (by decide) (by omega)
  have hp0 : 0 < 10 ^ k := Nat.pow_pos (by decide)
  have hat : at10 u s t = u * ((10 ^ k : Nat) : Int) := by unfold at10; rw [hk, Int.toNat_natCast]
  have Pk := fun W => power_any k W (by omega)
  obtain ⟨P, hP⟩ : ∃ P : Nat, P = 10 ^ k := ⟨_, rfl⟩
  rw [← hP] at Pk hat hp1 hp0
  have A := fun W => wof_any u _ _ _ W u0 u1 rfl rfl rfl
  have B := fun W => wof_any (P : Int) P _ _ W (by omega) (by omega) rfl rfl rfl
  have eP : decide ((P : Int) < 0) = false := by simp
  rw [eP] at B
  have la := low_of u.natAbs _ _ (by omega) rfl rfl
  have lb := low_of P _ _ (by omega) rfl rfl
  have S := fun W => times_two _ _ _ _ _ _ _ _ _ _ _ _ (decide (u < 0)) false W la.1 lb.1 (show Hid (0 = 0 ∧ 0 = 0 ∧ 0 = 0 ∧ 0 = 0) from ⟨rfl, rfl, rfl, rfl⟩) (show Hid (0 = 0 ∧ 0 = 0 ∧ 0 = 0 ∧ 0 = 0) from ⟨rfl, rfl, rfl, rfl⟩)
  have ea : u.natAbs % 4294967296 + 4294967296 * (u.natAbs / 4294967296) = u.natAbs := by omega
  have eb : P % 4294967296 + 4294967296 * (P / 4294967296) = P := by omega
  rw [ea, eb] at S
  have HM : Hid (sval (decide (u < 0)) (u.natAbs * P) = at10 u s t) := (by
    show sval (decide (u < 0)) (u.natAbs * P) = at10 u s t
    rw [hat]
    have h := sval_of u
    cases hd : decide (u < 0)
    · rw [hd] at h; simp only [sval] at h ⊢; rw [Int.natCast_mul]; simp at h ⊢; rw [h]
    · rw [hd] at h; simp only [sval] at h ⊢; rw [Int.natCast_mul, ← Int.neg_mul]; simp at h ⊢; rw [h])
  have HB : Hid (u.natAbs * P < 19342813113834066795298816) := (by
    have h1 : u.natAbs * P ≤ 9223372036854775808 * 1000000 := Nat.mul_le_mul (by omega) (by omega)
    show u.natAbs * P < 19342813113834066795298816
    omega)
  generalize u.natAbs % 4294967296 = ra at *
  generalize u.natAbs / 4294967296 = qa at *
  generalize P % 4294967296 = rb at *
  generalize P / 4294967296 = qb at *
  clear la lb ea eb eP hat hp0 hp1 hP hk hs hst ht u0 u1
  generalize (P : Int) = p at *
  go_enter Tryz.func124, Tryz.ntmps124
  go_wp2_with fail
  go_region_held2 (fun W => W.cell? ⟨w.heap.size, 0, none⟩ = some (.int .i64 u) ∧ W.cell? ⟨w.heap.size, 1, none⟩ = some (.int .i64 s)) (simp (maxDischargeDepth := 12) [go_sem])
    ((first
      | (go_at_call_of 138 (Value.int IntKind.i64 u); refine (A _).mono ?_; rintro e w' ⟨rfl, os1, n1, rfl⟩)
      | (go_at_call 138; refine (B _).mono ?_; rintro e w' ⟨rfl, os2, n2, rfl⟩)
      | (go_at_call 139; refine (Pk _).mono ?_; rintro e w' ⟨rfl, rfl⟩)
      | (go_at_call 185; refine (S _).mono ?_; rintro e w' ⟨o0, o1, o2, o3, o4, o5, rfl, lo, hv, os3, n3, rfl⟩)))
  all_goals go_wp2_with fail
  all_goals refine bodyPost_ret_by (v := wv o0 o1 o2 o3 o4 o5 (decide (u < 0))) ?_ rfl ⟨o0, o1, o2, o3, o4, o5, rfl, lo, (show Hid (sval (decide (u < 0)) (val6 o0 o1 o2 o3 o4 o5) = at10 u s t) from by show sval _ _ = _; rw [hv.out]; exact HM.out), (show Hid (val6 o0 o1 o2 o3 o4 o5 < 19342813113834066795298816) from by show _ < _; rw [hv.out]; exact HB.out), (by repeat (first | exact Grew.refl _ | apply Grew.drew | apply Grew.drewN | apply Grew.alloc | apply Grew.more))⟩
  all_goals simp [results, Tryz.results124, go_sem]
end Go.Proofs.YtnpdecbgakgbgaaGreatDoor
