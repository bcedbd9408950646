/-
  The document's Parse of a text that begins with a minus and goes on.
  The document's Parse, at any text: what the program's answers.
-/
import Derived.Test.YtibbenhplmmmiaaGreatDoorMrDScan
import Derived.Test.YtibbenhplmmmiaaGreatDoorDRefE
import Derived.Test.YtibbenhplmmmiaaGreatDoorDRef3
import Derived.Test.YtibbenhplmmmiaaGreatDoorDRef6
import Derived.Test.YtibbenhplmmmiaaGreatDoorDRefP0
namespace Go.Proofs.YtibbenhplmmmiaaGreatDoor
open Go.RowKit
attribute [local go_sem] cell?_more frozen?_more setCell_more more_lt more_more more_drew more_drewN setCell_drewN alloc_drewN

set_option maxRecDepth 10000 in
set_option maxHeartbeats 4000000 in
theorem rparse_minus (t : List UInt8) (w : World) (ht : t.length ≤ 140737488351232) (c0 : UInt8) (t' : List UInt8) (hh : t = 45 :: c0 :: t') :
    Calls Tryz.prog 33 #[.string ⟨t.toArray⟩] w fun e w' => e = .returned (RV t 1 (scan 1 (t.drop 1) 1 none 0 0)) ∧ Grew w w' := by
  obtain ⟨R, hR⟩ : ∃ R, R = scan 1 (t.drop 1) 1 none 0 0 := ⟨_, rfl⟩
  rw [← hR]
  have HR : Hid (scan 1 (t.drop 1) 1 none 0 0 = R) := hR.symm
  have HT : Hid (t.length ≤ 140737488351232) := ht
  have HF : Hid (1 ≤ t.length) := by show 1 ≤ t.length; rw [hh]; simp
  have HH : Hid ((t.drop 1).head? = some c0) := by show (t.drop 1).head? = _; rw [hh]; rfl
  have hs : (ByteArray.mk t.toArray).size = t.length := rfl
  have h0 : (ByteArray.mk t.toArray).toList.isEmpty = false := by
    rw [hh]; exact not_empty 45 _
  have hg0 : ∀ h, (ByteArray.mk t.toArray)[0]'h = 45 := by
    subst hh
    exact fun h => rfl
  have hg : ∀ h, (ByteArray.mk t.toArray)[1]'h = c0 := by
    subst hh
    exact fun h => rfl
  have hl0 : (0 : Int) < (t.length : Int) := by
    rw [hh]; simp; omega
  have hl1 : (1 : Int) < (t.length : Int) := by
    rw [hh]; simp; omega
  have HB : Hid (∀ i (h : i < t.length) (h' : i < (ByteArray.mk t.toArray).size), (ByteArray.mk t.toArray)[i]'h' = t[i]'h) := fun i h h' => rfl
  generalize ByteArray.mk t.toArray = B at *
  clear hR ht hh
  go_enter Tryz.func33, Tryz.ntmps33
  go_wp2_with fail
  go_loopw [6, 7, 8] (fun sp sn si wr => ∃ (i n v : Nat) (pI : Int) (pt : Option Nat) (a0 a1 a2 a3 a4 a5 : Nat), sp = .int .i64 pI ∧ sn = .int .i64 (n : Int) ∧ si = .int .i64 (i : Int) ∧ Hid (1 ≤ i ∧ i ≤ t.length ∧ n + 1 ≤ i) ∧ Hid ((pt = none ∧ pI = -1) ∨ ∃ p : Nat, pt = some p ∧ pI = (p : Int) ∧ 1 ≤ p ∧ p < i) ∧ Hid (Low6 a0 a1 a2 a3 a4 a5 ∧ val6 a0 a1 a2 a3 a4 a5 = v ∧ v < 10 ^ 40 ∧ (n ≤ 40 → v < 10 ^ n)) ∧ Hid (scan 1 (t.drop i) i pt n v = R) ∧ Grew ((w.alloc (Obj.cells #[Value.int IntKind.i64 0, Value.int IntKind.i64 0] 72)).alloc (Obj.cells #[Value.int IntKind.u64 (a0 : Int), Value.int IntKind.u64 (a1 : Int), Value.int IntKind.u64 (a2 : Int), Value.int IntKind.u64 (a3 : Int), Value.int IntKind.u64 (a4 : Int), Value.int IntKind.u64 (a5 : Int), Value.bool false] 120)) wr) (fun _ _ i _ => t.length - (intOf i).toNat)
  case atStart => exact ⟨1, 0, 0, -1, none, 0, 0, 0, 0, 0, 0, rfl, rfl, rfl, ⟨Nat.le_refl _, HF.out, by omega⟩, Or.inl ⟨rfl, rfl⟩, ⟨⟨by decide, by decide, by decide, by decide, by decide, by decide⟩, rfl, by decide, by decide⟩, HR, ⟨[], 0, rfl⟩⟩
  case round =>
    obtain ⟨i, n, v, pI, pt, a0, a1, a2, a3, a4, a5, rfl, rfl, rfl, HI, HP, HV, HS, lw, nw, rfl⟩ := hrel
    obtain ⟨hi1, hi2, hi3⟩ := HI.out
    by_cases he : i = t.length
    · obtain rfl : i = t.length := he
      have il : ¬ (t.length : Int) < (t.length : Int) := by omega
      have HRS : Hid (R = some (pt, n, v)) := by
        show R = _
        rw [← HS.out, List.drop_length]; rfl
      have hn9 : (n : Int) ≤ 140737488351232 := by have := HT.out; omega
      have hT2 : (t.length : Int) ≤ 140737488351232 := by have := HT.out; omega
      obtain ⟨hv1, hv2, _, _⟩ := HV.out
      clear HS HI
      rcases HP.out with ⟨rfl, rfl⟩ | ⟨p, rfl, rfl, hp1, hp2⟩
      · clear HP
        by_cases n0 : n = 0
        · as_aux_lemma =>
            have HQ : Hid (RV t 1 R = .tuple #[dv 0 0, .int .i64 21]) := by
              show RV t 1 R = _
              rw [HRS.out]
              exact if_pos (Or.inl n0)
            have n0i : (n : Int) = 0 := by omega
            clear HRS HV HT HH HB
            go_wp2_with fail
            try go_region
            all_goals try go_wp2_with fail
            all_goals refine bodyPost_ret_by (v := .tuple #[dv 0 0, .int .i64 21]) ?_ rfl ⟨by rw [HQ.out], ?_⟩
            all_goals first
              | (simp [results, Tryz.results33, go_sem]; done)
              | (repeat (first | assumption | exact Grew.refl _ | apply Grew.drew | apply Grew.drewN | apply Grew.alloc | apply Grew.more))
        · have n0i : ¬ (n : Int) = 0 := by omega
          have n0e : ((n : Int) == 0) = false := by rw [beq_eq_false_iff_ne]; exact n0i
          have pe : ¬ (-1 : Int) = (t.length : Int) - 1 := by omega
          have pe2 : ((-1 : Int) == (t.length : Int) - 1) = false := by simp; omega
          by_cases nb : 0 + 1 < n
          · have nbi : 0 + 1 < (n : Int) := by omega
            by_cases z0 : c0 = 48
            · as_aux_lemma =>
                have HQ : Hid (RV t 1 R = .tuple #[dv 0 0, .int .i64 21]) := by
                  show RV t 1 R = _
                  rw [HRS.out]
                  exact if_pos (Or.inr (Or.inr (Or.inr (Or.inl ⟨nb, by rw [HH.out, z0]⟩))))
                have z0i : (c0.toNat : Int) = 48 := by rw [z0]; rfl
                clear HRS HV HT HH HB
                go_wp2_with fail
                try go_region
                all_goals try go_wp2_with fail
                all_goals refine bodyPost_ret_by (v := .tuple #[dv 0 0, .int .i64 21]) ?_ rfl ⟨by rw [HQ.out], ?_⟩
                all_goals first
                  | (simp [results, Tryz.results33, go_sem]; done)
                  | (repeat (first | assumption | exact Grew.refl _ | apply Grew.drew | apply Grew.drewN | apply Grew.alloc | apply Grew.more))
            · have z0i : ¬ (c0.toNat : Int) = 48 := fun h => z0 (UInt8.toNat_inj.1 (by show c0.toNat = 48; omega))
              have z0e : ((c0.toNat : Int) == 48) = false := by rw [beq_eq_false_iff_ne]; exact z0i
              by_cases vz : v = 0
              · by_cases n4 : 40 < n
                · as_aux_lemma =>
                    have HQ : Hid (RV t 1 R = .tuple #[dv 0 0, .int .i64 32]) := by
                      show RV t 1 R = _
                      rw [HRS.out]
                      refine Eq.trans (if_neg ?_) (if_pos n4)
                      rintro (h | h | h | ⟨_, h⟩ | h)
                      · exact n0 h
                      · cases h
                      · exact absurd (show 6 < 0 from h) (by decide)
                      · rw [HH.out] at h; exact z0 (Option.some.inj h)
                      · exact absurd h.2.2 (by omega)
                    have Zr := fun W => zero_any a0 a1 a2 a3 a4 a5 false W
                    rw [hv2, decide_eq_true vz] at Zr
                    have n4i : (40 : Int) < (n : Int) := by omega
                    clear HRS HV HT HH HB
                    go_wp2_with (go_at_call 81; refine (Zr _).mono ?_; rintro e w' ⟨rfl, oz, nz, rfl⟩)
                    all_goals refine bodyPost_ret_by (v := .tuple #[dv 0 0, .int .i64 32]) ?_ rfl ⟨by rw [HQ.out], ?_⟩
                    all_goals first
                      | (simp [results, Tryz.results33, go_sem]; done)
                      | (repeat (first | assumption | exact Grew.refl _ | apply Grew.drew | apply Grew.drewN | apply Grew.alloc | apply Grew.more))
                · as_aux_lemma =>
                    have HQ : Hid (RV t 1 R = .tuple #[dv 0 0, .int .i64 21]) := by
                      show RV t 1 R = _
                      rw [HRS.out]
                      exact if_pos (Or.inr (Or.inr (Or.inr (Or.inr ⟨rfl, vz, by omega⟩))))
                    have Zr := fun W => zero_any a0 a1 a2 a3 a4 a5 false W
                    rw [hv2, decide_eq_true vz] at Zr
                    have n4i : ¬ (40 : Int) < (n : Int) := by omega
                    have n4j : (n : Int) ≤ 40 := by omega
                    clear HRS HV HT HH HB
                    go_wp2_with (go_at_call 81; refine (Zr _).mono ?_; rintro e w' ⟨rfl, oz, nz, rfl⟩)
                    all_goals refine bodyPost_ret_by (v := .tuple #[dv 0 0, .int .i64 21]) ?_ rfl ⟨by rw [HQ.out], ?_⟩
                    all_goals first
                      | (simp [results, Tryz.results33, go_sem]; done)
                      | (repeat (first | assumption | exact Grew.refl _ | apply Grew.drew | apply Grew.drewN | apply Grew.alloc | apply Grew.more))
              · by_cases n4 : 40 < n
                · as_aux_lemma =>
                    have HQ : Hid (RV t 1 R = .tuple #[dv 0 0, .int .i64 32]) := by
                      show RV t 1 R = _
                      rw [HRS.out]
                      refine Eq.trans (if_neg ?_) (if_pos n4)
                      rintro (h | h | h | ⟨_, h⟩ | h)
                      · exact n0 h
                      · cases h
                      · exact absurd (show 6 < 0 from h) (by decide)
                      · rw [HH.out] at h; exact z0 (Option.some.inj h)
                      · exact vz h.2.1
                    have Zr := fun W => zero_any a0 a1 a2 a3 a4 a5 false W
                    rw [hv2, decide_eq_false vz] at Zr
                    have n4i : (40 : Int) < (n : Int) := by omega
                    clear HRS HV HT HH HB
                    go_wp2_with (go_at_call 81; refine (Zr _).mono ?_; rintro e w' ⟨rfl, oz, nz, rfl⟩)
                    all_goals refine bodyPost_ret_by (v := .tuple #[dv 0 0, .int .i64 32]) ?_ rfl ⟨by rw [HQ.out], ?_⟩
                    all_goals first
                      | (simp [results, Tryz.results33, go_sem]; done)
                      | (repeat (first | assumption | exact Grew.refl _ | apply Grew.drew | apply Grew.drewN | apply Grew.alloc | apply Grew.more))
                · as_aux_lemma =>
                    have HQ : Hid (RV t 1 R = dres (sval true v) ((0 : Nat) : Int)) := by
                      show RV t 1 R = _
                      rw [HRS.out]
                      refine Eq.trans (if_neg ?_) (if_neg n4)
                      rintro (h | h | h | ⟨_, h⟩ | h)
                      · exact n0 h
                      · cases h
                      · exact absurd (show 6 < 0 from h) (by decide)
                      · rw [HH.out] at h; exact z0 (Option.some.inj h)
                      · exact vz h.2.1
                    have Zr := fun W => zero_any a0 a1 a2 a3 a4 a5 false W
                    rw [hv2, decide_eq_false vz] at Zr
                    have n4i : ¬ (40 : Int) < (n : Int) := by omega
                    have Bk := fun W => rback_any a0 a1 a2 a3 a4 a5 true ((0 : Nat) : Int) W hv1
                    rw [hv2] at Bk
                    have esc : ((0 : Nat) : Int) = 0 := rfl
                    rw [esc] at Bk HQ
                    obtain ⟨AU, AV, AE, hA⟩ : ∃ AU AV AE : Int, dres (sval true v) 0 = .tuple #[dv AU AV, .int .i64 AE] := ⟨_, _, _, rfl⟩
                    rw [hA] at Bk HQ
                    clear HRS HV HT HH HB esc hA
                    go_wp2_with (first | (go_at_call 81; refine (Zr _).mono ?_; rintro e w' ⟨rfl, oz, nz, rfl⟩) | (go_at_call 82; refine (Bk _).mono ?_; rintro e w' ⟨rfl, os, nn, rfl⟩))
                    all_goals refine bodyPost_ret_by (v := .tuple #[dv AU AV, .int .i64 AE]) ?_ rfl ⟨by rw [HQ.out], ?_⟩
                    all_goals first
                      | (simp [results, Tryz.results33, go_sem]; done)
                      | (repeat (first | assumption | exact Grew.refl _ | apply Grew.drew | apply Grew.drewN | apply Grew.alloc | apply Grew.more))
          · have nbi : ¬ 0 + 1 < (n : Int) := by omega
            by_cases vz : v = 0
            · by_cases n4 : 40 < n
              · as_aux_lemma =>
                  have HQ : Hid (RV t 1 R = .tuple #[dv 0 0, .int .i64 32]) := by
                    show RV t 1 R = _
                    rw [HRS.out]
                    refine Eq.trans (if_neg ?_) (if_pos n4)
                    rintro (h | h | h | ⟨h, _⟩ | h)
                    · exact n0 h
                    · cases h
                    · exact absurd (show 6 < 0 from h) (by decide)
                    · exact nb h
                    · exact absurd h.2.2 (by omega)
                  have Zr := fun W => zero_any a0 a1 a2 a3 a4 a5 false W
                  rw [hv2, decide_eq_true vz] at Zr
                  have n4i : (40 : Int) < (n : Int) := by omega
                  clear HRS HV HT HH HB
                  go_wp2_with (go_at_call 81; refine (Zr _).mono ?_; rintro e w' ⟨rfl, oz, nz, rfl⟩)
                  all_goals refine bodyPost_ret_by (v := .tuple #[dv 0 0, .int .i64 32]) ?_ rfl ⟨by rw [HQ.out], ?_⟩
                  all_goals first
                    | (simp [results, Tryz.results33, go_sem]; done)
                    | (repeat (first | assumption | exact Grew.refl _ | apply Grew.drew | apply Grew.drewN | apply Grew.alloc | apply Grew.more))
              · as_aux_lemma =>
                  have HQ : Hid (RV t 1 R = .tuple #[dv 0 0, .int .i64 21]) := by
                    show RV t 1 R = _
                    rw [HRS.out]
                    exact if_pos (Or.inr (Or.inr (Or.inr (Or.inr ⟨rfl, vz, by omega⟩))))
                  have Zr := fun W => zero_any a0 a1 a2 a3 a4 a5 false W
                  rw [hv2, decide_eq_true vz] at Zr
                  have n4i : ¬ (40 : Int) < (n : Int) := by omega
                  have n4j : (n : Int) ≤ 40 := by omega
                  clear HRS HV HT HH HB
                  go_wp2_with (go_at_call 81; refine (Zr _).mono ?_; rintro e w' ⟨rfl, oz, nz, rfl⟩)
                  all_goals refine bodyPost_ret_by (v := .tuple #[dv 0 0, .int .i64 21]) ?_ rfl ⟨by rw [HQ.out], ?_⟩
                  all_goals first
                    | (simp [results, Tryz.results33, go_sem]; done)
                    | (repeat (first | assumption | exact Grew.refl _ | apply Grew.drew | apply Grew.drewN | apply Grew.alloc | apply Grew.more))
            · by_cases n4 : 40 < n
              · as_aux_lemma =>
                  have HQ : Hid (RV t 1 R = .tuple #[dv 0 0, .int .i64 32]) := by
                    show RV t 1 R = _
                    rw [HRS.out]
                    refine Eq.trans (if_neg ?_) (if_pos n4)
                    rintro (h | h | h | ⟨h, _⟩ | h)
                    · exact n0 h
                    · cases h
                    · exact absurd (show 6 < 0 from h) (by decide)
                    · exact nb h
                    · exact vz h.2.1
                  have Zr := fun W => zero_any a0 a1 a2 a3 a4 a5 false W
                  rw [hv2, decide_eq_false vz] at Zr
                  have n4i : (40 : Int) < (n : Int) := by omega
                  clear HRS HV HT HH HB
                  go_wp2_with (go_at_call 81; refine (Zr _).mono ?_; rintro e w' ⟨rfl, oz, nz, rfl⟩)
                  all_goals refine bodyPost_ret_by (v := .tuple #[dv 0 0, .int .i64 32]) ?_ rfl ⟨by rw [HQ.out], ?_⟩
                  all_goals first
                    | (simp [results, Tryz.results33, go_sem]; done)
                    | (repeat (first | assumption | exact Grew.refl _ | apply Grew.drew | apply Grew.drewN | apply Grew.alloc | apply Grew.more))
              · as_aux_lemma =>
                  have HQ : Hid (RV t 1 R = dres (sval true v) ((0 : Nat) : Int)) := by
                    show RV t 1 R = _
                    rw [HRS.out]
                    refine Eq.trans (if_neg ?_) (if_neg n4)
                    rintro (h | h | h | ⟨h, _⟩ | h)
                    · exact n0 h
                    · cases h
                    · exact absurd (show 6 < 0 from h) (by decide)
                    · exact nb h
                    · exact vz h.2.1
                  have Zr := fun W => zero_any a0 a1 a2 a3 a4 a5 false W
                  rw [hv2, decide_eq_false vz] at Zr
                  have n4i : ¬ (40 : Int) < (n : Int) := by omega
                  have Bk := fun W => rback_any a0 a1 a2 a3 a4 a5 true ((0 : Nat) : Int) W hv1
                  rw [hv2] at Bk
                  have esc : ((0 : Nat) : Int) = 0 := rfl
                  rw [esc] at Bk HQ
                  obtain ⟨AU, AV, AE, hA⟩ : ∃ AU AV AE : Int, dres (sval true v) 0 = .tuple #[dv AU AV, .int .i64 AE] := ⟨_, _, _, rfl⟩
                  rw [hA] at Bk HQ
                  clear HRS HV HT HH HB esc hA
                  go_wp2_with (first | (go_at_call 81; refine (Zr _).mono ?_; rintro e w' ⟨rfl, oz, nz, rfl⟩) | (go_at_call 82; refine (Bk _).mono ?_; rintro e w' ⟨rfl, os, nn, rfl⟩))
                  all_goals refine bodyPost_ret_by (v := .tuple #[dv AU AV, .int .i64 AE]) ?_ rfl ⟨by rw [HQ.out], ?_⟩
                  all_goals first
                    | (simp [results, Tryz.results33, go_sem]; done)
                    | (repeat (first | assumption | exact Grew.refl _ | apply Grew.drew | apply Grew.drewN | apply Grew.alloc | apply Grew.more))
      · clear HP
        have hpl : p < t.length := by omega
        have hp0 : (0 : Int) ≤ (p : Int) := by omega
        by_cases n0 : n = 0
        · as_aux_lemma =>
            have HQ : Hid (RV t 1 R = .tuple #[dv 0 0, .int .i64 21]) := by
              show RV t 1 R = _
              rw [HRS.out]
              exact if_pos (Or.inl n0)
            have n0i : (n : Int) = 0 := by omega
            clear HRS HV HT HH HB
            go_wp2_with fail
            try go_region
            all_goals try go_wp2_with fail
            all_goals refine bodyPost_ret_by (v := .tuple #[dv 0 0, .int .i64 21]) ?_ rfl ⟨by rw [HQ.out], ?_⟩
            all_goals first
              | (simp [results, Tryz.results33, go_sem]; done)
              | (repeat (first | assumption | exact Grew.refl _ | apply Grew.drew | apply Grew.drewN | apply Grew.alloc | apply Grew.more))
        · have n0i : ¬ (n : Int) = 0 := by omega
          have n0e : ((n : Int) == 0) = false := by rw [beq_eq_false_iff_ne]; exact n0i
          by_cases pe0 : p = t.length - 1
          · as_aux_lemma =>
              have HQ : Hid (RV t 1 R = .tuple #[dv 0 0, .int .i64 21]) := by
                show RV t 1 R = _
                rw [HRS.out]
                exact if_pos (Or.inr (Or.inl (by rw [pe0])))
              have pe : (p : Int) = (t.length : Int) - 1 := by omega
              clear HRS HV HT HH HB
              go_wp2_with fail
              try go_region
              all_goals try go_wp2_with fail
              all_goals refine bodyPost_ret_by (v := .tuple #[dv 0 0, .int .i64 21]) ?_ rfl ⟨by rw [HQ.out], ?_⟩
              all_goals first
                | (simp [results, Tryz.results33, go_sem]; done)
                | (repeat (first | assumption | exact Grew.refl _ | apply Grew.drew | apply Grew.drewN | apply Grew.alloc | apply Grew.more))
          · have pe : ¬ (p : Int) = (t.length : Int) - 1 := by omega
            have pee : ((p : Int) == (t.length : Int) - 1) = false := by rw [beq_eq_false_iff_ne]; exact pe
            by_cases sc6 : 6 < t.length - p - 1
            · as_aux_lemma =>
                have HQ : Hid (RV t 1 R = .tuple #[dv 0 0, .int .i64 21]) := by
                  show RV t 1 R = _
                  rw [HRS.out]
                  exact if_pos (Or.inr (Or.inr (Or.inl sc6)))
                have sc6i : (6 : Int) < ((t.length : Int) - (p : Int) - 1) := by omega
                clear HRS HV HT HH HB
                go_wp2_with fail
                try go_region
                all_goals try go_wp2_with fail
                all_goals refine bodyPost_ret_by (v := .tuple #[dv 0 0, .int .i64 21]) ?_ rfl ⟨by rw [HQ.out], ?_⟩
                all_goals first
                  | (simp [results, Tryz.results33, go_sem]; done)
                  | (repeat (first | assumption | exact Grew.refl _ | apply Grew.drew | apply Grew.drewN | apply Grew.alloc | apply Grew.more))
            · have sc6i : ¬ (6 : Int) < ((t.length : Int) - (p : Int) - 1) := by omega
              by_cases nb : (t.length - p - 1) + 1 < n
              · have nbi : ((t.length : Int) - (p : Int) - 1) + 1 < (n : Int) := by omega
                by_cases z0 : c0 = 48
                · as_aux_lemma =>
                    have HQ : Hid (RV t 1 R = .tuple #[dv 0 0, .int .i64 21]) := by
                      show RV t 1 R = _
                      rw [HRS.out]
                      exact if_pos (Or.inr (Or.inr (Or.inr (Or.inl ⟨nb, by rw [HH.out, z0]⟩))))
                    have z0i : (c0.toNat : Int) = 48 := by rw [z0]; rfl
                    clear HRS HV HT HH HB
                    go_wp2_with fail
                    try go_region
                    all_goals try go_wp2_with fail
                    all_goals refine bodyPost_ret_by (v := .tuple #[dv 0 0, .int .i64 21]) ?_ rfl ⟨by rw [HQ.out], ?_⟩
                    all_goals first
                      | (simp [results, Tryz.results33, go_sem]; done)
                      | (repeat (first | assumption | exact Grew.refl _ | apply Grew.drew | apply Grew.drewN | apply Grew.alloc | apply Grew.more))
                · have z0i : ¬ (c0.toNat : Int) = 48 := fun h => z0 (UInt8.toNat_inj.1 (by show c0.toNat = 48; omega))
                  have z0e : ((c0.toNat : Int) == 48) = false := by rw [beq_eq_false_iff_ne]; exact z0i
                  by_cases vz : v = 0
                  · by_cases n4 : 40 < n
                    · as_aux_lemma =>
                        have HQ : Hid (RV t 1 R = .tuple #[dv 0 0, .int .i64 32]) := by
                          show RV t 1 R = _
                          rw [HRS.out]
                          refine Eq.trans (if_neg ?_) (if_pos n4)
                          rintro (h | h | h | ⟨_, h⟩ | h)
                          · exact n0 h
                          · exact pe0 (Option.some.inj h)
                          · exact sc6 h
                          · rw [HH.out] at h; exact z0 (Option.some.inj h)
                          · exact absurd h.2.2 (by omega)
                        have Zr := fun W => zero_any a0 a1 a2 a3 a4 a5 false W
                        rw [hv2, decide_eq_true vz] at Zr
                        have n4i : (40 : Int) < (n : Int) := by omega
                        clear HRS HV HT HH HB
                        go_wp2_with (go_at_call 81; refine (Zr _).mono ?_; rintro e w' ⟨rfl, oz, nz, rfl⟩)
                        all_goals refine bodyPost_ret_by (v := .tuple #[dv 0 0, .int .i64 32]) ?_ rfl ⟨by rw [HQ.out], ?_⟩
                        all_goals first
                          | (simp [results, Tryz.results33, go_sem]; done)
                          | (repeat (first | assumption | exact Grew.refl _ | apply Grew.drew | apply Grew.drewN | apply Grew.alloc | apply Grew.more))
                    · as_aux_lemma =>
                        have HQ : Hid (RV t 1 R = .tuple #[dv 0 0, .int .i64 21]) := by
                          show RV t 1 R = _
                          rw [HRS.out]
                          exact if_pos (Or.inr (Or.inr (Or.inr (Or.inr ⟨rfl, vz, by omega⟩))))
                        have Zr := fun W => zero_any a0 a1 a2 a3 a4 a5 false W
                        rw [hv2, decide_eq_true vz] at Zr
                        have n4i : ¬ (40 : Int) < (n : Int) := by omega
                        have n4j : (n : Int) ≤ 40 := by omega
                        clear HRS HV HT HH HB
                        go_wp2_with (go_at_call 81; refine (Zr _).mono ?_; rintro e w' ⟨rfl, oz, nz, rfl⟩)
                        all_goals refine bodyPost_ret_by (v := .tuple #[dv 0 0, .int .i64 21]) ?_ rfl ⟨by rw [HQ.out], ?_⟩
                        all_goals first
                          | (simp [results, Tryz.results33, go_sem]; done)
                          | (repeat (first | assumption | exact Grew.refl _ | apply Grew.drew | apply Grew.drewN | apply Grew.alloc | apply Grew.more))
                  · by_cases n4 : 40 < n
                    · as_aux_lemma =>
                        have HQ : Hid (RV t 1 R = .tuple #[dv 0 0, .int .i64 32]) := by
                          show RV t 1 R = _
                          rw [HRS.out]
                          refine Eq.trans (if_neg ?_) (if_pos n4)
                          rintro (h | h | h | ⟨_, h⟩ | h)
                          · exact n0 h
                          · exact pe0 (Option.some.inj h)
                          · exact sc6 h
                          · rw [HH.out] at h; exact z0 (Option.some.inj h)
                          · exact vz h.2.1
                        have Zr := fun W => zero_any a0 a1 a2 a3 a4 a5 false W
                        rw [hv2, decide_eq_false vz] at Zr
                        have n4i : (40 : Int) < (n : Int) := by omega
                        clear HRS HV HT HH HB
                        go_wp2_with (go_at_call 81; refine (Zr _).mono ?_; rintro e w' ⟨rfl, oz, nz, rfl⟩)
                        all_goals refine bodyPost_ret_by (v := .tuple #[dv 0 0, .int .i64 32]) ?_ rfl ⟨by rw [HQ.out], ?_⟩
                        all_goals first
                          | (simp [results, Tryz.results33, go_sem]; done)
                          | (repeat (first | assumption | exact Grew.refl _ | apply Grew.drew | apply Grew.drewN | apply Grew.alloc | apply Grew.more))
                    · as_aux_lemma =>
                        have HQ : Hid (RV t 1 R = dres (sval true v) (((t.length - p - 1) : Nat) : Int)) := by
                          show RV t 1 R = _
                          rw [HRS.out]
                          refine Eq.trans (if_neg ?_) (if_neg n4)
                          rintro (h | h | h | ⟨_, h⟩ | h)
                          · exact n0 h
                          · exact pe0 (Option.some.inj h)
                          · exact sc6 h
                          · rw [HH.out] at h; exact z0 (Option.some.inj h)
                          · exact vz h.2.1
                        have Zr := fun W => zero_any a0 a1 a2 a3 a4 a5 false W
                        rw [hv2, decide_eq_false vz] at Zr
                        have n4i : ¬ (40 : Int) < (n : Int) := by omega
                        have Bk := fun W => rback_any a0 a1 a2 a3 a4 a5 true (((t.length - p - 1) : Nat) : Int) W hv1
                        rw [hv2] at Bk
                        have esc : (((t.length - p - 1) : Nat) : Int) = ((t.length : Int) - (p : Int) - 1) := by omega
                        rw [esc] at Bk HQ
                        obtain ⟨AU, AV, AE, hA⟩ : ∃ AU AV AE : Int, dres (sval true v) ((t.length : Int) - (p : Int) - 1) = .tuple #[dv AU AV, .int .i64 AE] := ⟨_, _, _, rfl⟩
                        rw [hA] at Bk HQ
                        clear HRS HV HT HH HB esc hA
                        go_wp2_with (first | (go_at_call 81; refine (Zr _).mono ?_; rintro e w' ⟨rfl, oz, nz, rfl⟩) | (go_at_call 82; refine (Bk _).mono ?_; rintro e w' ⟨rfl, os, nn, rfl⟩))
                        all_goals refine bodyPost_ret_by (v := .tuple #[dv AU AV, .int .i64 AE]) ?_ rfl ⟨by rw [HQ.out], ?_⟩
                        all_goals first
                          | (simp [results, Tryz.results33, go_sem]; done)
                          | (repeat (first | assumption | exact Grew.refl _ | apply Grew.drew | apply Grew.drewN | apply Grew.alloc | apply Grew.more))
              · have nbi : ¬ ((t.length : Int) - (p : Int) - 1) + 1 < (n : Int) := by omega
                by_cases vz : v = 0
                · by_cases n4 : 40 < n
                  · as_aux_lemma =>
                      have HQ : Hid (RV t 1 R = .tuple #[dv 0 0, .int .i64 32]) := by
                        show RV t 1 R = _
                        rw [HRS.out]
                        refine Eq.trans (if_neg ?_) (if_pos n4)
                        rintro (h | h | h | ⟨h, _⟩ | h)
                        · exact n0 h
                        · exact pe0 (Option.some.inj h)
                        · exact sc6 h
                        · exact nb h
                        · exact absurd h.2.2 (by omega)
                      have Zr := fun W => zero_any a0 a1 a2 a3 a4 a5 false W
                      rw [hv2, decide_eq_true vz] at Zr
                      have n4i : (40 : Int) < (n : Int) := by omega
                      clear HRS HV HT HH HB
                      go_wp2_with (go_at_call 81; refine (Zr _).mono ?_; rintro e w' ⟨rfl, oz, nz, rfl⟩)
                      all_goals refine bodyPost_ret_by (v := .tuple #[dv 0 0, .int .i64 32]) ?_ rfl ⟨by rw [HQ.out], ?_⟩
                      all_goals first
                        | (simp [results, Tryz.results33, go_sem]; done)
                        | (repeat (first | assumption | exact Grew.refl _ | apply Grew.drew | apply Grew.drewN | apply Grew.alloc | apply Grew.more))
                  · as_aux_lemma =>
                      have HQ : Hid (RV t 1 R = .tuple #[dv 0 0, .int .i64 21]) := by
                        show RV t 1 R = _
                        rw [HRS.out]
                        exact if_pos (Or.inr (Or.inr (Or.inr (Or.inr ⟨rfl, vz, by omega⟩))))
                      have Zr := fun W => zero_any a0 a1 a2 a3 a4 a5 false W
                      rw [hv2, decide_eq_true vz] at Zr
                      have n4i : ¬ (40 : Int) < (n : Int) := by omega
                      have n4j : (n : Int) ≤ 40 := by omega
                      clear HRS HV HT HH HB
                      go_wp2_with (go_at_call 81; refine (Zr _).mono ?_; rintro e w' ⟨rfl, oz, nz, rfl⟩)
                      all_goals refine bodyPost_ret_by (v := .tuple #[dv 0 0, .int .i64 21]) ?_ rfl ⟨by rw [HQ.out], ?_⟩
                      all_goals first
                        | (simp [results, Tryz.results33, go_sem]; done)
                        | (repeat (first | assumption | exact Grew.refl _ | apply Grew.drew | apply Grew.drewN | apply Grew.alloc | apply Grew.more))
                · by_cases n4 : 40 < n
                  · as_aux_lemma =>
                      have HQ : Hid (RV t 1 R = .tuple #[dv 0 0, .int .i64 32]) := by
                        show RV t 1 R = _
                        rw [HRS.out]
                        refine Eq.trans (if_neg ?_) (if_pos n4)
                        rintro (h | h | h | ⟨h, _⟩ | h)
                        · exact n0 h
                        · exact pe0 (Option.some.inj h)
                        · exact sc6 h
                        · exact nb h
                        · exact vz h.2.1
                      have Zr := fun W => zero_any a0 a1 a2 a3 a4 a5 false W
                      rw [hv2, decide_eq_false vz] at Zr
                      have n4i : (40 : Int) < (n : Int) := by omega
                      clear HRS HV HT HH HB
                      go_wp2_with (go_at_call 81; refine (Zr _).mono ?_; rintro e w' ⟨rfl, oz, nz, rfl⟩)
                      all_goals refine bodyPost_ret_by (v := .tuple #[dv 0 0, .int .i64 32]) ?_ rfl ⟨by rw [HQ.out], ?_⟩
                      all_goals first
                        | (simp [results, Tryz.results33, go_sem]; done)
                        | (repeat (first | assumption | exact Grew.refl _ | apply Grew.drew | apply Grew.drewN | apply Grew.alloc | apply Grew.more))
                  · as_aux_lemma =>
                      have HQ : Hid (RV t 1 R = dres (sval true v) (((t.length - p - 1) : Nat) : Int)) := by
                        show RV t 1 R = _
                        rw [HRS.out]
                        refine Eq.trans (if_neg ?_) (if_neg n4)
                        rintro (h | h | h | ⟨h, _⟩ | h)
                        · exact n0 h
                        · exact pe0 (Option.some.inj h)
                        · exact sc6 h
                        · exact nb h
                        · exact vz h.2.1
                      have Zr := fun W => zero_any a0 a1 a2 a3 a4 a5 false W
                      rw [hv2, decide_eq_false vz] at Zr
                      have n4i : ¬ (40 : Int) < (n : Int) := by omega
                      have Bk := fun W => rback_any a0 a1 a2 a3 a4 a5 true (((t.length - p - 1) : Nat) : Int) W hv1
                      rw [hv2] at Bk
                      have esc : (((t.length - p - 1) : Nat) : Int) = ((t.length : Int) - (p : Int) - 1) := by omega
                      rw [esc] at Bk HQ
                      obtain ⟨AU, AV, AE, hA⟩ : ∃ AU AV AE : Int, dres (sval true v) ((t.length : Int) - (p : Int) - 1) = .tuple #[dv AU AV, .int .i64 AE] := ⟨_, _, _, rfl⟩
                      rw [hA] at Bk HQ
                      clear HRS HV HT HH HB esc hA
                      go_wp2_with (first | (go_at_call 81; refine (Zr _).mono ?_; rintro e w' ⟨rfl, oz, nz, rfl⟩) | (go_at_call 82; refine (Bk _).mono ?_; rintro e w' ⟨rfl, os, nn, rfl⟩))
                      all_goals refine bodyPost_ret_by (v := .tuple #[dv AU AV, .int .i64 AE]) ?_ rfl ⟨by rw [HQ.out], ?_⟩
                      all_goals first
                        | (simp [results, Tryz.results33, go_sem]; done)
                        | (repeat (first | assumption | exact Grew.refl _ | apply Grew.drew | apply Grew.drewN | apply Grew.alloc | apply Grew.more))
    · have hlt : i < t.length := by omega
      have i0 : (0 : Int) ≤ (i : Int) := by omega
      have i1 : (i : Int) < (t.length : Int) := by omega
      obtain ⟨c, hc0⟩ : ∃ c, c = t[i] := ⟨_, rfl⟩
      have hc : ∀ h, B[i]'h = c := fun h => by rw [hc0]; exact HB.out i hlt h
      have hdr : t.drop i = c :: t.drop (i + 1) := by rw [hc0]; exact List.drop_eq_getElem_cons hlt
      have hsc := HS.out
      rw [hdr, scan_cons] at hsc
      have ei : IntKind.i64.wrap ((i : Int) + 1) = ((i + 1 : Nat) : Int) := by rw [IntKind.wrap_i64]; have := HT.out; omega
      have HM : Hid (i < t.length) := hlt
      have HI2 : Hid (1 ≤ i + 1 ∧ i + 1 ≤ t.length ∧ n + 1 ≤ i + 1) := ⟨by omega, by omega, by omega⟩
      have HI3 : Hid (1 ≤ i + 1 ∧ i + 1 ≤ t.length ∧ n + 1 + 1 ≤ i + 1) := ⟨by omega, by omega, by omega⟩
      by_cases h1 : c = 46 ∧ pt = none ∧ 1 < i
      · -- the point
        rw [if_pos h1] at hsc
        have HS2 : Hid (scan 1 (t.drop (i + 1)) (i + 1) (some i) n v = R) := hsc
        obtain ⟨h1a, h1b, h1c⟩ := h1
        have cI : (c.toNat : Int) = 46 := by rw [h1a]; rfl
        have pN : pI = -1 := by
          rcases HP.out with k | ⟨p, k, _⟩
          · exact k.2
          · rw [h1b] at k; exact absurd k (by simp)
        subst pN
        have fi : (1 : Int) < (i : Int) := by omega
        have HP2 : Hid ((some i = none ∧ (i : Int) = -1) ∨ ∃ p : Nat, some i = some p ∧ (i : Int) = (p : Int) ∧ 1 ≤ p ∧ p < i + 1) := Or.inr ⟨i, rfl, rfl, by omega, by omega⟩
        clear hsc hdr hc0 h1a h1b h1c HP HI hi1 hi2 hi3 he hlt HS HI3
        go_wp2_with fail
        go_roundw
        case rel => exact ⟨i + 1, n, v, (i : Int), some i, a0, a1, a2, a3, a4, a5, rfl, rfl, rfl, HI2, HP2, HV, HS2, by repeat (first | assumption | exact Grew.refl _ | apply Grew.drew | apply Grew.drewN | apply Grew.alloc | apply Grew.more)⟩
        case measure => have := HM.out; simp [intOf]; omega
      · rw [if_neg h1] at hsc
        by_cases h2 : 48 ≤ c.toNat ∧ c.toNat ≤ 57
        · rw [if_pos h2] at hsc
          have c46 : ((c.toNat : Int) == 46) = false := by simp; omega
          have c48 : (48 : Int) ≤ (c.toNat : Int) := by omega
          have c57 : (c.toNat : Int) ≤ 57 := by omega
          have en : IntKind.i64.wrap ((n : Int) + 1) = ((n + 1 : Nat) : Int) := by rw [IntKind.wrap_i64]; have := HT.out; omega
          have HP2 : Hid ((pt = none ∧ pI = -1) ∨ ∃ p : Nat, pt = some p ∧ pI = (p : Int) ∧ 1 ≤ p ∧ p < i + 1) := by
            rcases HP.out with k | ⟨p, k1, k2, k3, k4⟩
            · exact Or.inl k
            · exact Or.inr ⟨p, k1, k2, k3, by omega⟩
          by_cases h40 : n + 1 ≤ 40
          · have n40 : ((n + 1 : Nat) : Int) ≤ 40 := by omega
            rw [if_pos h40] at hsc
            obtain ⟨d, hd⟩ : ∃ d : Nat, d = c.toNat - 48 := ⟨_, rfl⟩
            rw [← hd] at hsc
            have HS2 : Hid (scan 1 (t.drop (i + 1)) (i + 1) pt (n + 1) (v * 10 + d) = R) := hsc
            have ed : IntKind.u8.wrap ((c.toNat : Int) - 48) = (d : Int) := by rw [IntKind.wrap_u8]; omega
            have ed2 : IntKind.i64.wrap (d : Int) = (d : Int) := by rw [IntKind.wrap_i64]; omega
            obtain ⟨hv1, hv2, hv3, hv4⟩ := HV.out
            have hvn := hv4 (by omega)
            have hp10 : 10 ^ (n + 1) = 10 ^ n * 10 := Nat.pow_succ _ _
            have hle : 10 ^ (n + 1) ≤ 10 ^ 40 := Nat.pow_le_pow_right (by decide) h40
            have HN : Hid (v * 10 + d < 10 ^ 40 ∧ (n + 1 ≤ 40 → v * 10 + d < 10 ^ (n + 1))) := ⟨by omega, fun _ => by omega⟩
            have O10 := fun W => wof_any 10 10 0 10 W (by decide) (by decide) rfl rfl rfl
            have Od := fun W => wof_any (d : Int) d 0 d W (by omega) (by omega) (by simp) (by omega) (by omega)
            rw [show decide ((10 : Int) < 0) = false from rfl] at O10
            rw [show decide ((d : Int) < 0) = false by simp] at Od
            have l10 : Low6 10 0 0 0 0 0 := ⟨by decide, by decide, by decide, by decide, by decide, by decide⟩
            have ld : Low6 d 0 0 0 0 0 := ⟨by omega, by decide, by decide, by decide, by decide, by decide⟩
            have hb40 : (10 : Nat) ^ 40 * 10 < 6277101735386680763835789423207666416102355444464034512896 := by decide
            have Tm := fun W => times_one a0 a1 a2 a3 a4 a5 10 0 0 0 0 0 false false W hv1 l10 (show Hid (val6 a0 a1 a2 a3 a4 a5 * 10 < 6277101735386680763835789423207666416102355444464034512896) by show _ < _; rw [hv2]; omega) ⟨rfl, rfl, rfl, rfl, rfl⟩
            rw [hv2] at Tm
            have Pl := fun o0 o1 o2 o3 o4 o5 W lo => plus_any o0 o1 o2 o3 o4 o5 d 0 0 0 0 0 false false W lo ld
            have hvd : val6 d 0 0 0 0 0 = d := by unfold val6; omega
            rw [hvd] at Pl
            clear hsc hdr hc0 h1 h2 h40 HP HI hi1 hi2 hi3 he hlt HS HI2 HV hv1 hv2 hv3 hv4 hvn hp10 hle hb40 hd l10 ld hvd
            go_wp2_with fail
            go_region_with (first
              | (go_at_call_of 80 (Value.int IntKind.i64 10); refine (O10 _).mono ?_; rintro e w' ⟨rfl, os1, n1, rfl⟩)
              | (go_at_call_of 80 (Value.int IntKind.i64 (d : Int)); refine (Od _).mono ?_; rintro e w' ⟨rfl, os2, n2, rfl⟩)
              | (go_at_call 79; refine (Tm _).mono ?_; rintro e w' ⟨o0, o1, o2, o3, o4, o5, rfl, lo, hvo, os3, n3, rfl⟩)
              | (go_at_call 78; refine (Pl o0 o1 o2 o3 o4 o5 _ lo).mono ?_; rintro e w' ⟨q0, q1, q2, q3, q4, q5, cc, rfl, lq, hvq, os4, n4, rfl⟩))
            all_goals
              have HV2 : Hid (Low6 q0 q1 q2 q3 q4 q5 ∧ val6 q0 q1 q2 q3 q4 q5 = v * 10 + d ∧ v * 10 + d < 10 ^ 40 ∧ (n + 1 ≤ 40 → v * 10 + d < 10 ^ (n + 1))) := by
                have g1 := hvo.out
                have g2 := HN.out.1
                have g3 : (10 : Nat) ^ 40 < 6277101735386680763835789423207666416102355444464034512896 := by decide
                have g4 : cc = 0 := by
                  rcases Nat.eq_zero_or_pos cc with h | h
                  · exact h
                  · exfalso
                    have : 6277101735386680763835789423207666416102355444464034512896 * 1 ≤ 6277101735386680763835789423207666416102355444464034512896 * cc := Nat.mul_le_mul_left _ h
                    omega
                exact ⟨lq, by rw [g4] at hvq; omega, HN.out⟩
              go_wp2_with fail
              go_roundw
              case rel => exact ⟨i + 1, n + 1, v * 10 + d, pI, pt, q0, q1, q2, q3, q4, q5, rfl, rfl, rfl, HI3, HP2, HV2, HS2, by repeat (first | assumption | exact Grew.refl _ | apply Grew.drew | apply Grew.drewN | apply Grew.alloc | apply Grew.more)⟩
              case measure => have := HM.out; simp [intOf]; omega
          · have n40 : ¬ ((n + 1 : Nat) : Int) ≤ 40 := by omega
            rw [if_neg h40] at hsc
            have HS2 : Hid (scan 1 (t.drop (i + 1)) (i + 1) pt (n + 1) v = R) := hsc
            have HV2 : Hid (Low6 a0 a1 a2 a3 a4 a5 ∧ val6 a0 a1 a2 a3 a4 a5 = v ∧ v < 10 ^ 40 ∧ (n + 1 ≤ 40 → v < 10 ^ (n + 1))) := ⟨HV.out.1, HV.out.2.1, HV.out.2.2.1, fun h => absurd h h40⟩
            clear hsc hdr hc0 h1 h2 h40 HP HI hi1 hi2 hi3 he hlt HS HI2 HV
            go_wp2_with fail
            go_roundw
            case rel => exact ⟨i + 1, n + 1, v, pI, pt, a0, a1, a2, a3, a4, a5, rfl, rfl, rfl, HI3, HP2, HV2, HS2, by repeat (first | assumption | exact Grew.refl _ | apply Grew.drew | apply Grew.drewN | apply Grew.alloc | apply Grew.more)⟩
            case measure => have := HM.out; simp [intOf]; omega
        · -- neither
          rw [if_neg h2] at hsc
          have HS2 : Hid (R = none) := hsc.symm
          by_cases h46 : c = 46
          · have cI : (c.toNat : Int) = 46 := by rw [h46]; rfl
            by_cases hfi : 1 < i
            · have hp : ¬ pI < 0 := by
                rcases HP.out with k | ⟨p, k1, k2, _⟩
                · exact absurd ⟨h46, k.1, hfi⟩ h1
                · omega
              clear hsc hdr hc0 h1 h2 h46 HP HI hi1 hi2 hi3 he hlt HS HI2 HI3 HV hfi
              go_wp2_with fail
              refine bodyPost_ret_by (v := .tuple #[dv 0 0, .int .i64 21]) ?_ rfl ⟨by rw [HS2.out]; rfl, ?_⟩
              · simp [results, Tryz.results33, go_sem]
              · repeat (first | assumption | exact Grew.refl _ | apply Grew.drew | apply Grew.drewN | apply Grew.alloc | apply Grew.more)
            · have fi : ¬ (1 : Int) < (i : Int) := by omega
              by_cases hp : pI < 0
              · clear hsc hdr hc0 h1 h2 h46 HP HI hi1 hi2 hi3 he hlt HS HI2 HI3 HV hfi
                go_wp2_with fail
                refine bodyPost_ret_by (v := .tuple #[dv 0 0, .int .i64 21]) ?_ rfl ⟨by rw [HS2.out]; rfl, ?_⟩
                · simp [results, Tryz.results33, go_sem]
                · repeat (first | assumption | exact Grew.refl _ | apply Grew.drew | apply Grew.drewN | apply Grew.alloc | apply Grew.more)
              · clear hsc hdr hc0 h1 h2 h46 HP HI hi1 hi2 hi3 he hlt HS HI2 HI3 HV hfi
                go_wp2_with fail
                refine bodyPost_ret_by (v := .tuple #[dv 0 0, .int .i64 21]) ?_ rfl ⟨by rw [HS2.out]; rfl, ?_⟩
                · simp [results, Tryz.results33, go_sem]
                · repeat (first | assumption | exact Grew.refl _ | apply Grew.drew | apply Grew.drewN | apply Grew.alloc | apply Grew.more)
          · have c46 : ((c.toNat : Int) == 46) = false := by
              simp
              intro h
              have h5 : c.toNat = 46 := by omega
              exact h46 (UInt8.toNat_inj.1 h5)
            by_cases hlo : 48 ≤ c.toNat
            · have c48 : (48 : Int) ≤ (c.toNat : Int) := by omega
              have c57 : ¬ (c.toNat : Int) ≤ 57 := by omega
              clear hsc hdr hc0 h1 h2 h46 HP HI hi1 hi2 hi3 he hlt HS HI2 HI3 HV hlo
              go_wp2_with fail
              refine bodyPost_ret_by (v := .tuple #[dv 0 0, .int .i64 21]) ?_ rfl ⟨by rw [HS2.out]; rfl, ?_⟩
              · simp [results, Tryz.results33, go_sem]
              · repeat (first | assumption | exact Grew.refl _ | apply Grew.drew | apply Grew.drewN | apply Grew.alloc | apply Grew.more)
            · have c48 : ¬ (48 : Int) ≤ (c.toNat : Int) := by omega
              clear hsc hdr hc0 h1 h2 h46 HP HI hi1 hi2 hi3 he hlt HS HI2 HI3 HV hlo
              go_wp2_with fail
              refine bodyPost_ret_by (v := .tuple #[dv 0 0, .int .i64 21]) ?_ rfl ⟨by rw [HS2.out]; rfl, ?_⟩
              · simp [results, Tryz.results33, go_sem]
              · repeat (first | assumption | exact Grew.refl _ | apply Grew.drew | apply Grew.drewN | apply Grew.alloc | apply Grew.more)
end Go.Proofs.YtibbenhplmmmiaaGreatDoor

namespace Go.Proofs.YtibbenhplmmmiaaGreatDoor
open Go.RowKit
attribute [local go_sem] cell?_more frozen?_more setCell_more more_lt more_more more_drew more_drewN setCell_drewN alloc_drewN
attribute [local go_sem] undef

theorem rparse_none (w : World) : Calls Tryz.prog 33 #[.string ⟨#[]⟩] w fun e w' => e = .returned (.tuple #[dv 0 0, .int .i64 21]) ∧ Grew w w' := by
  go_enter Tryz.func33, Tryz.ntmps33
  go_wp2_with fail
  go_loopw [6, 7, 8] (fun sp sn si wr => sp = .int .i64 (-1) ∧ sn = .int .i64 0 ∧ si = .int .i64 0 ∧ ((w.alloc (Obj.cells #[Value.int IntKind.i64 0, Value.int IntKind.i64 0] 72)).alloc (Obj.cells #[Value.int IntKind.u64 0, Value.int IntKind.u64 0, Value.int IntKind.u64 0, Value.int IntKind.u64 0, Value.int IntKind.u64 0, Value.int IntKind.u64 0, Value.bool false] 120)) = wr) (fun _ _ _ _ => 0)
  case atStart => exact ⟨rfl, rfl, rfl, rfl⟩
  case round =>
    obtain ⟨rfl, rfl, rfl, rfl⟩ := hrel
    go_wp2_with fail
    try go_region
    all_goals try go_wp2_with fail
    all_goals refine bodyPost_ret_by (v := .tuple #[dv 0 0, .int .i64 21]) ?_ rfl ⟨rfl, ?_⟩
    all_goals first
      | (simp [results, Tryz.results33, go_sem]; done)
      | (repeat (first | assumption | exact Grew.refl _ | apply Grew.drew | apply Grew.drewN | apply Grew.alloc | apply Grew.more))
theorem rparse_sign (w : World) : Calls Tryz.prog 33 #[.string ⟨#[45]⟩] w fun e w' => e = .returned (.tuple #[dv 0 0, .int .i64 21]) ∧ Grew w w' := by
  go_enter Tryz.func33, Tryz.ntmps33
  go_wp2_with fail
  go_loopw [6, 7, 8] (fun sp sn si wr => sp = .int .i64 (-1) ∧ sn = .int .i64 0 ∧ si = .int .i64 1 ∧ ((w.alloc (Obj.cells #[Value.int IntKind.i64 0, Value.int IntKind.i64 0] 72)).alloc (Obj.cells #[Value.int IntKind.u64 0, Value.int IntKind.u64 0, Value.int IntKind.u64 0, Value.int IntKind.u64 0, Value.int IntKind.u64 0, Value.int IntKind.u64 0, Value.bool false] 120)) = wr) (fun _ _ _ _ => 0)
  case atStart => exact ⟨rfl, rfl, rfl, rfl⟩
  case round =>
    obtain ⟨rfl, rfl, rfl, rfl⟩ := hrel
    go_wp2_with fail
    try go_region
    all_goals try go_wp2_with fail
    all_goals refine bodyPost_ret_by (v := .tuple #[dv 0 0, .int .i64 21]) ?_ rfl ⟨rfl, ?_⟩
    all_goals first
      | (simp [results, Tryz.results33, go_sem]; done)
      | (repeat (first | assumption | exact Grew.refl _ | apply Grew.drew | apply Grew.drewN | apply Grew.alloc | apply Grew.more))

theorem rparse_all (t : List UInt8) (w : World) (ht : t.length ≤ 140737488351232) : Calls Tryz.prog 33 #[.string ⟨t.toArray⟩] w fun e w' => e = .returned (PV t) ∧ Grew w w' := by
  match t, ht with
  | [], _ =>
    have e : PV [] = .tuple #[dv 0 0, .int .i64 21] := by rw [← scan_PV [] 0 rfl]; rfl
    rw [e]
    exact rparse_none w
  | c :: t', ht =>
    by_cases hc : c = 45
    · subst hc
      match t', ht with
      | [], _ =>
        have e : PV [45] = .tuple #[dv 0 0, .int .i64 21] := by rw [← scan_PV [45] 1 rfl]; rfl
        rw [e]
        exact rparse_sign w
      | c0 :: t'', ht =>
        rw [← scan_PV (45 :: c0 :: t'') 1 rfl]
        exact rparse_minus _ w ht c0 t'' rfl
    · rw [← scan_PV (c :: t') 0 (by simp [hc])]
      exact rparse_plus _ w ht c t' rfl hc
end Go.Proofs.YtibbenhplmmmiaaGreatDoor
