/-
  DecimalNear holds: what is rounded is as near as can be: no more than half a unit away, and even, where it is just half: for every decimal and every scale. Condition: none but the row's own (the table of powers as the program lays it).
-/
import Derived.Test.YtfbkakchaabgeabDoorDFrm
import Derived.Test.YtfbkakchaabgeabDoorDNeg
import Derived.Test.YtfbkakchaabgeabDoorDResc
namespace Go.Proofs.YtfbkakchaabgeabDoor
open Go.ChangeShapes Go.WideShapes Go.ChangeAt Go.WideMaps Go.WideElems Go.RowKit
attribute [local go_sem] cell?_more frozen?_more setCell_more more_lt more_more more_drew more_drewN setCell_drewN alloc_drewN

theorem cell3 (l1 l2 : List Obj) (o1 o2 : Obj) (n i : Nat) (w : World) (h : n < w.heap.size) : ((more ((more w l1).alloc o1) l2).alloc o2).cell? ⟨n, i, none⟩ = w.cell? ⟨n, i, none⟩ := by
  have h1 := more_lt h l1
  have h2 : n < ((more w l1).alloc o1).heap.size := by simp; omega
  exact (World.cell?_alloc_past o2 n i (more_lt h2 l2)).trans ((cell?_more l2 n i _ h2).trans ((World.cell?_alloc_past o1 n i h1).trans (cell?_more l1 n i w h)))
theorem cell4 (l1 l2 l3 : List Obj) (o1 o2 : Obj) (n i : Nat) (w : World) (h : n < w.heap.size) : (more ((more ((more w l1).alloc o1) l2).alloc o2) l3).cell? ⟨n, i, none⟩ = w.cell? ⟨n, i, none⟩ := by
  have h1 := more_lt h l1
  have h2 : n < ((more w l1).alloc o1).heap.size := by simp; omega
  have h3 := more_lt h2 l2
  have h4 : n < ((more ((more w l1).alloc o1) l2).alloc o2).heap.size := by simp; omega
  exact (cell?_more l3 n i _ h4).trans (cell3 l1 l2 o1 o2 n i w h)
theorem cell5 (l1 l2 : List Obj) (o1 o2 : Obj) (n i : Nat) (w : World) (h : n < w.heap.size) : (more (((more w l1).alloc o1).alloc o2) l2).cell? ⟨n, i, none⟩ = w.cell? ⟨n, i, none⟩ := by
  have h1 := more_lt h l1
  have h2 : n < ((more w l1).alloc o1).heap.size := by simp; omega
  have h3 : n < (((more w l1).alloc o1).alloc o2).heap.size := by simp; omega
  exact (cell?_more l2 n i _ h3).trans ((World.cell?_alloc_past o2 n i h2).trans ((World.cell?_alloc_past o1 n i h1).trans (cell?_more l1 n i w h)))
attribute [local go_sem] cell3 cell4 cell5

set_option maxHeartbeats 1000000 in
theorem near_walk (ua sa sc : Int) (w : World) (hP : Pw w) (a0 : -9223372036854775808 ≤ ua) (a1 : ua ≤ 9223372036854775807) :
    Calls Tryd.prog 4 #[dv ua sa, .int .i64 sc] w fun e w' => e = .returned (.bool true) ∧ Grew w w' := by
  have R1 : ∀ (W : World), Grew w W → _ := fun W (h : Grew w W) => rescale_any ua sa sc W (hP.later h) a0 a1
  have Oa := fun W => own_any ua sa W
  have K : ∀ (W : World), Grew w W → _ := fun W (h : Grew w W) => knows_any W (hP.later h)
  by_cases ea : rE ua sa sc = 0
  · obtain ⟨ra, rs, z0, z1, ez, es⟩ := rescale_ok ua sa sc ea
    rw [ea, ez, es] at R1
    by_cases hle : sa ≤ sc
    · generalize dq ua sa 1 0 sc = z at *
      clear ez es ea ra rs hP a0 a1 z0 z1
      go_enter Tryd.func4, Tryd.ntmps4
      go_wp2_with (first
        | (go_at_call 9; refine (Oa _).mono ?_; rintro e w' ⟨rfl, os, n, rfl⟩)
        | (go_at_call_of 10 (dv ua sa); refine (R1 _ (by repeat (first | exact Grew.refl _ | apply Grew.drew | apply Grew.drewN | apply Grew.alloc | apply Grew.more))).mono ?_; rintro e w1 ⟨rfl, os1, n1, rfl⟩)
        | (go_at_call 11; refine (num_any _ _).mono ?_; rintro e w' ⟨rfl, rfl⟩)
        | (go_at_call 7; refine (K _ (by repeat (first | exact Grew.refl _ | apply Grew.drew | apply Grew.drewN | apply Grew.alloc | apply Grew.more))).mono ?_; rintro e w2 ⟨rfl, os2, n2, rfl⟩))
      go_ret
      exact ⟨rfl, (by repeat (first | exact Grew.refl _ | apply Grew.drew | apply Grew.drewN | apply Grew.alloc | apply Grew.more))⟩
    · rw [rightS_iff] at ra rs
      obtain ⟨k, hk⟩ : ∃ k : Nat, sa - sc = (k : Int) := ⟨(sa - sc).toNat, by omega⟩
      have E2 : IntKind.i64.wrap (sa - sc) = (k : Int) := by rw [IntKind.wrap_i64]; omega
      have Pk := fun W => power_any k W (by omega)
      have hz : dq ua sa 1 0 sc = rq ua (10 ^ k : Nat) := by rw [dq_down _ _ _ hle, hk, Int.toNat_natCast]
      have hnear := rq_near ua (10 ^ k) (Nat.pow_pos (by decide))
      rw [← hz] at hnear
      have R2 : ∀ (W : World), Grew w W → _ := fun W (h : Grew w W) => rescale_any (dq ua sa 1 0 sc) sc sa W (hP.later h) z0 z1
      have hy : dq (dq ua sa 1 0 sc) sc 1 0 sa = dq ua sa 1 0 sc * (10 ^ k : Nat) := by rw [dq_up _ _ _ (by omega), hk, Int.toNat_natCast]
      have heven : ∃ hN : Nat, 10 ^ k = 2 * hN := by
        obtain ⟨j, rfl⟩ : ∃ j, k = j + 1 := ⟨k - 1, by omega⟩
        exact ⟨10 ^ j * 5, by rw [Nat.pow_succ]; omega⟩
      have hpb := pow10_bd k (by omega)
      by_cases ef : rE (dq ua sa 1 0 sc) sc sa = 0
      · obtain ⟨_, _, y0, y1, ey, ey'⟩ := rescale_ok _ _ _ ef
        rw [ef, ey, ey', hy] at R2
        rw [hy] at y0 y1
        have S3 : ∀ (W : World), Grew w W → _ := fun W (h : Grew w W) => sub_good ua sa (dq ua sa 1 0 sc * (10 ^ k : Nat)) sa sa W (hP.later h) ((rightS_iff _).2 ra) ((rightS_iff _).2 ra) (.inl ⟨rfl, Int.le_refl _⟩) a0 a1 y0 y1
        rw [at10_same, at10_same] at S3
        generalize dq ua sa 1 0 sc = z at *
        obtain ⟨hN, hN2⟩ := heven
        generalize 10 ^ k = Pn at *
        generalize z * (Pn : Int) = y at *
        obtain ⟨D, hD⟩ : ∃ D : Int, D = ua - y := ⟨_, rfl⟩
        rw [← hD] at S3
        have fD : fits D = true := (fits_iff D).2 ⟨by omega, by omega⟩
        have e1 : nz D = D := by simp [nz, fD]
        have e2 : fs D sa = sa := by simp [fs, fD]
        have e3 : nErr D = 0 := by simp [nErr, fD]
        rw [show dres D sa = .tuple #[dv D sa, .int .i64 0] by rw [dres, e1, e2, e3]] at S3
        have q1 : (Pn : Int) / 2 = (hN : Int) := by omega
        have q2 : (Pn : Int).tdiv 2 = (hN : Int) := by rw [Int.tdiv_eq_ediv_of_nonneg (by omega)]; exact q1
        have q3 : IntKind.i64.wrap (hN : Int) = (hN : Int) := by rw [IntKind.wrap_i64]; omega
        have q4 : IntKind.i64.wrap (-(hN : Int)) = -(hN : Int) := by rw [IntKind.wrap_i64]; omega
        have c1 : ¬ (hN : Int) < D := by omega
        have c2 : ¬ D < -(hN : Int) := by omega
        have hne : ¬ sa ≤ sc := hle
        have m0 : (D = (hN : Int) ∨ D = -(hN : Int)) → z % 2 = 0 := fun h => hnear.2.2 (by omega)
        by_cases hc : D = (hN : Int) ∨ D = -(hN : Int)
        · have mz := m0 hc
          have mt : z.tmod 2 = 0 := Int.tmod_eq_zero_of_dvd (Int.dvd_of_emod_eq_zero mz)
          clear m0 hnear hz hy hk hpb ra rs hP a0 a1 z0 z1 y0 y1 ey ey' ez es ea ef hD fD e1 e2 e3 hN2
          go_enter Tryd.func4, Tryd.ntmps4
          go_wp2_with (first
            | (go_at_call 9; refine (Oa _).mono ?_; rintro e w' ⟨rfl, os, n, rfl⟩)
            | (go_at_call_of 10 (dv ua sa); refine (R1 _ (by repeat (first | exact Grew.refl _ | apply Grew.drew | apply Grew.drewN | apply Grew.alloc | apply Grew.more))).mono ?_; rintro e w1 ⟨rfl, os1, n1, rfl⟩)
            | (go_at_call 11; refine (num_any _ _).mono ?_; rintro e w' ⟨rfl, rfl⟩)
            | (go_at_call 12; refine (Pk _).mono ?_; rintro e w' ⟨rfl, rfl⟩)
            | (go_at_call 10; refine (R2 _ (by repeat (first | exact Grew.refl _ | apply Grew.drew | apply Grew.drewN | apply Grew.alloc | apply Grew.more))).mono ?_; rintro e w3 ⟨rfl, os3, n3, rfl⟩)
            | (go_at_call 13; refine (S3 _ (by repeat (first | exact Grew.refl _ | apply Grew.drew | apply Grew.drewN | apply Grew.alloc | apply Grew.more))).mono ?_; rintro e w4 ⟨rfl, os4, n4, rfl⟩)
            | (go_at_call 7; refine (K _ (by repeat (first | exact Grew.refl _ | apply Grew.drew | apply Grew.drewN | apply Grew.alloc | apply Grew.more))).mono ?_; rintro e w2 ⟨rfl, os2, n2, rfl⟩))
          go_region_held (fun W => W.cell? ⟨w.heap.size, 0, none⟩ = some (.int .i64 ua) ∧ W.cell? ⟨w.heap.size, 1, none⟩ = some (.int .i64 sa) ∧ W.cell? ⟨(more ((more (w.alloc (Obj.cells #[Value.int IntKind.i64 ua, Value.int IntKind.i64 sa] 23)) (os ++ os1)).alloc (Obj.cells #[Value.int IntKind.i64 z, Value.int IntKind.i64 sc] 27)) os3).heap.size, 0, none⟩ = some (.int .i64 y) ∧ W.cell? ⟨(more ((more (w.alloc (Obj.cells #[Value.int IntKind.i64 ua, Value.int IntKind.i64 sa] 23)) (os ++ os1)).alloc (Obj.cells #[Value.int IntKind.i64 z, Value.int IntKind.i64 sc] 27)) os3).heap.size, 1, none⟩ = some (.int .i64 sa)) (simp (maxDischargeDepth := 12) [go_sem])
            ((first
            | (go_at_call 9; refine (Oa _).mono ?_; rintro e w' ⟨rfl, os6, n6, rfl⟩)
            | (go_at_call 13; refine (S3 _ (by repeat (first | exact Grew.refl _ | apply Grew.drew | apply Grew.drewN | apply Grew.alloc | apply Grew.more))).mono ?_; rintro e w4 ⟨rfl, os4, n4, rfl⟩)))
          all_goals go_wp2_with (first
            | (go_at_call 11; refine (num_any _ _).mono ?_; rintro e w' ⟨rfl, rfl⟩)
            | (go_at_call 7; refine (K _ (by repeat (first | exact Grew.refl _ | apply Grew.drew | apply Grew.drewN | apply Grew.alloc | apply Grew.more))).mono ?_; rintro e w5 ⟨rfl, os5, n5, rfl⟩))
          all_goals go_ret
          all_goals exact ⟨rfl, by repeat (first | exact Grew.refl _ | apply Grew.drew | apply Grew.drewN | apply Grew.alloc | apply Grew.more)⟩
        · have n1 : ¬ D = (hN : Int) := fun h => hc (.inl h)
          have n2 : ¬ D = -(hN : Int) := fun h => hc (.inr h)
          clear hc m0 hnear hz hy hk hpb ra rs hP a0 a1 z0 z1 y0 y1 ey ey' ez es ea ef hD fD e1 e2 e3 hN2
          go_enter Tryd.func4, Tryd.ntmps4
          go_wp2_with (first
            | (go_at_call 9; refine (Oa _).mono ?_; rintro e w' ⟨rfl, os, n, rfl⟩)
            | (go_at_call_of 10 (dv ua sa); refine (R1 _ (by repeat (first | exact Grew.refl _ | apply Grew.drew | apply Grew.drewN | apply Grew.alloc | apply Grew.more))).mono ?_; rintro e w1 ⟨rfl, os1, n1, rfl⟩)
            | (go_at_call 11; refine (num_any _ _).mono ?_; rintro e w' ⟨rfl, rfl⟩)
            | (go_at_call 12; refine (Pk _).mono ?_; rintro e w' ⟨rfl, rfl⟩)
            | (go_at_call 10; refine (R2 _ (by repeat (first | exact Grew.refl _ | apply Grew.drew | apply Grew.drewN | apply Grew.alloc | apply Grew.more))).mono ?_; rintro e w3 ⟨rfl, os3, n3, rfl⟩)
            | (go_at_call 13; refine (S3 _ (by repeat (first | exact Grew.refl _ | apply Grew.drew | apply Grew.drewN | apply Grew.alloc | apply Grew.more))).mono ?_; rintro e w4 ⟨rfl, os4, n4, rfl⟩)
            | (go_at_call 7; refine (K _ (by repeat (first | exact Grew.refl _ | apply Grew.drew | apply Grew.drewN | apply Grew.alloc | apply Grew.more))).mono ?_; rintro e w2 ⟨rfl, os2, n2, rfl⟩))
          go_region_held (fun W => W.cell? ⟨w.heap.size, 0, none⟩ = some (.int .i64 ua) ∧ W.cell? ⟨w.heap.size, 1, none⟩ = some (.int .i64 sa) ∧ W.cell? ⟨(more ((more (w.alloc (Obj.cells #[Value.int IntKind.i64 ua, Value.int IntKind.i64 sa] 23)) (os ++ os1)).alloc (Obj.cells #[Value.int IntKind.i64 z, Value.int IntKind.i64 sc] 27)) os3).heap.size, 0, none⟩ = some (.int .i64 y) ∧ W.cell? ⟨(more ((more (w.alloc (Obj.cells #[Value.int IntKind.i64 ua, Value.int IntKind.i64 sa] 23)) (os ++ os1)).alloc (Obj.cells #[Value.int IntKind.i64 z, Value.int IntKind.i64 sc] 27)) os3).heap.size, 1, none⟩ = some (.int .i64 sa)) (simp (maxDischargeDepth := 12) [go_sem])
            ((first
            | (go_at_call 9; refine (Oa _).mono ?_; rintro e w' ⟨rfl, os6, n6, rfl⟩)
            | (go_at_call 13; refine (S3 _ (by repeat (first | exact Grew.refl _ | apply Grew.drew | apply Grew.drewN | apply Grew.alloc | apply Grew.more))).mono ?_; rintro e w4 ⟨rfl, os4, n4, rfl⟩)))
          all_goals go_wp2_with (first
            | (go_at_call 11; refine (num_any _ _).mono ?_; rintro e w' ⟨rfl, rfl⟩)
            | (go_at_call 7; refine (K _ (by repeat (first | exact Grew.refl _ | apply Grew.drew | apply Grew.drewN | apply Grew.alloc | apply Grew.more))).mono ?_; rintro e w5 ⟨rfl, os5, n5, rfl⟩))
          all_goals go_ret
          all_goals exact ⟨rfl, by repeat (first | exact Grew.refl _ | apply Grew.drew | apply Grew.drewN | apply Grew.alloc | apply Grew.more)⟩
      · generalize dq ua sa 1 0 sc = z at *
        generalize rU z sc sa = y at *
        generalize rS z sc sa = y' at *
        generalize rE z sc sa = x at *
        clear hnear hz hy hk heven hpb ra rs hP a0 a1 z0 z1 ez es ea
        go_enter Tryd.func4, Tryd.ntmps4
        go_wp2_with (first
          | (go_at_call 9; refine (Oa _).mono ?_; rintro e w' ⟨rfl, os, n, rfl⟩)
          | (go_at_call_of 10 (dv ua sa); refine (R1 _ (by repeat (first | exact Grew.refl _ | apply Grew.drew | apply Grew.drewN | apply Grew.alloc | apply Grew.more))).mono ?_; rintro e w1 ⟨rfl, os1, n1, rfl⟩)
          | (go_at_call 11; refine (num_any _ _).mono ?_; rintro e w' ⟨rfl, rfl⟩)
          | (go_at_call 12; refine (Pk _).mono ?_; rintro e w' ⟨rfl, rfl⟩)
          | (go_at_call 10; refine (R2 _ (by repeat (first | exact Grew.refl _ | apply Grew.drew | apply Grew.drewN | apply Grew.alloc | apply Grew.more))).mono ?_; rintro e w3 ⟨rfl, os3, n3, rfl⟩)
          | (go_at_call 7; refine (K _ (by repeat (first | exact Grew.refl _ | apply Grew.drew | apply Grew.drewN | apply Grew.alloc | apply Grew.more))).mono ?_; rintro e w2 ⟨rfl, os2, n2, rfl⟩))
        go_ret
        exact ⟨rfl, (by repeat (first | exact Grew.refl _ | apply Grew.drew | apply Grew.drewN | apply Grew.alloc | apply Grew.more))⟩
  · generalize rU ua sa sc = z at *
    generalize rS ua sa sc = y at *
    generalize rE ua sa sc = x at *
    clear hP a0 a1
    go_enter Tryd.func4, Tryd.ntmps4
    go_wp2_with (first
      | (go_at_call 9; refine (Oa _).mono ?_; rintro e w' ⟨rfl, os, n, rfl⟩)
      | (go_at_call_of 10 (dv ua sa); refine (R1 _ (by repeat (first | exact Grew.refl _ | apply Grew.drew | apply Grew.drewN | apply Grew.alloc | apply Grew.more))).mono ?_; rintro e w1 ⟨rfl, os1, n1, rfl⟩)
      | (go_at_call 11; refine (num_any _ _).mono ?_; rintro e w' ⟨rfl, rfl⟩)
      | (go_at_call 7; refine (K _ (by repeat (first | exact Grew.refl _ | apply Grew.drew | apply Grew.drewN | apply Grew.alloc | apply Grew.more))).mono ?_; rintro e w2 ⟨rfl, os2, n2, rfl⟩))
    go_ret
    exact ⟨rfl, (by repeat (first | exact Grew.refl _ | apply Grew.drew | apply Grew.drewN | apply Grew.alloc | apply Grew.more))⟩

theorem near_below (ua sa sc : Int) (w : World) (hP : Pw w) (a0 : -9223372036854775808 ≤ ua) (a1 : ua ≤ 9223372036854775807) :
    Calls Tryd.prog 4 #[dv ua sa, .int .i64 sc] w fun e w' => e = .returned (.bool true) ∧ Below w.heap.size w w' :=
  (near_walk ua sa sc w hP a0 a1).mono fun _ _ h => ⟨h.1, h.2.below⟩
end Go.Proofs.YtfbkakchaabgeabDoor
