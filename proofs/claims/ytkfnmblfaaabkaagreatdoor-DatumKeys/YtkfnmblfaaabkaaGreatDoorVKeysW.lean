/-
  The walk of DatumKeys: keys stand byte by byte as their rows do.
-/
import Derived.Test.YtkfnmblfaaabkaaGreatDoorVKeyB
import Derived.Test.YtkfnmblfaaabkaaGreatDoorVRows
import Derived.Test.YtkfnmblfaaabkaaGreatDoorVKnows
namespace Go.Proofs.YtkfnmblfaaabkaaGreatDoor
open Go.RowKit Go.Shelf

theorem eqBool (x y : Bool) (w : World) : (binOp BinOp.eql 4 (Value.bool x) (Value.bool y)).run Tryz.prog w = .ok (Value.bool (x == y)) w := by
  cases x <;> cases y <;> kernel_rfl
attribute [local go_sem high] eqBool

theorem ck_all {l : List Va} (h : ckE l = 0) : l.length ≤ 64 ∧ ∀ v ∈ l, vr v = true := by
  unfold ckE at h
  split at h
  · omega
  · split at h
    · rename_i h1 h2
      exact ⟨by omega, fun v hv => List.all_eq_true.1 h2 v hv⟩
    · omega

set_option maxRecDepth 20000 in
set_option maxHeartbeats 4000000 in
theorem keys_walk (ao bo : Option Addr) (c d : Nat) (x y : List Va) (w : World) (hT : Tabs w) (hP : Pw w) (hx : Vs w ao x) (hy : Vs w bo y) (zx : ao = none → x = []) (zy : bo = none → y = [])
    (sx : x.length * 40 ≤ 140737488351232) (sy : y.length * 40 ≤ 140737488351232) (ix : ∀ v ∈ x, vin v) (iy : ∀ v ∈ y, vin v) :
    Calls Tryz.prog 7 #[.slice ao x.length c, .slice bo y.length d] w fun e w' => e = .returned (.bool true) ∧ Below w.heap.size w w' := by
  have B0 : Below w.heap.size w w := Below.refl _ _
  by_cases ex : ckE x = 0
  · by_cases ey : ckE y = 0
    · obtain ⟨lx, rx⟩ := ck_all ex
      obtain ⟨ly, ry⟩ := ck_all ey
      have rx' : ∀ v ∈ x, vr v = true ∧ vin v := fun v hv => ⟨rx v hv, ix v hv⟩
      have ry' : ∀ v ∈ y, vr v = true ∧ vin v := fun v hv => ⟨ry v hv, iy v hv⟩
      have hkey : lexc (rkey x) (rkey y) = rcmp x y := rkey_cmp Lib.validD x y (fun v hv => ⟨(vr_iff v).1 (rx v hv), (ix v hv).1⟩) (fun v hv => ⟨(vr_iff v).1 (ry v hv), (iy v hv).1⟩)
      have hzero : rcmp x y = 0 ↔ x = y := rcmp_zero Lib.validD (fun v hv => (vr_iff v).1 (rx v hv)) (fun v hv => (vr_iff v).1 (ry v hv))
      have l1 : Op.bytesLess (ByteArray.mk (rkey x).toArray).toList (ByteArray.mk (rkey y).toArray).toList = decide (rcmp x y < 0) := by
        rw [Lib.toList_data, Lib.toList_data, ← hkey]
        exact lexc_less _ _
      have l2 : ((ByteArray.mk (rkey x).toArray).toList == (ByteArray.mk (rkey y).toArray).toList) = decide (rcmp x y = 0) := by
        rw [Lib.toList_data, Lib.toList_data, ← hkey]
        exact lexc_eq _ _
      have KX := fun (ao' : Option Addr) (c' : Nat) (W : World) (hv : Vs W ao' x) (hb : Below w.heap.size w W) => key_good ao' c' x W (hT.later hb) hv ex ix
      have KY := fun (ao' : Option Addr) (c' : Nat) (W : World) (hv : Vs W ao' y) (hb : Below w.heap.size w W) => key_good ao' c' y W (hT.later hb) hv ey iy
      have RR := fun (ao' bo' : Option Addr) (c' d' : Nat) (W : World) (hv : Vs W ao' x) (hv' : Vs W bo' y) (hb : Below w.heap.size w W) => rows_any ao' bo' c' d' x y W (hT.later hb) (hP.below hb) hv hv' lx ly rx' ry'
      have SS := fun (W : World) (hb : Below w.heap.size w W) => vsame_any ao bo c d x y W (hx.later hb) (hy.later hb) (by omega) (by omega)
      have hd : decide (x = y) = decide (rcmp x y = 0) := by rw [decide_eq_decide]; exact hzero.symm
      rw [hd] at SS
      generalize ByteArray.mk (rkey x).toArray = X at *
      generalize ByteArray.mk (rkey y).toArray = Y at *
      generalize rcmp x y = R at *
      have cases3 : R < 0 ∨ R = 0 ∨ 0 < R := by omega
      clear hd hzero hkey rx' ry' ex ey rx ry
      go_enter Tryz.func7, Tryz.ntmps7
      go_wp2_with fail
      refine (vown_any ao c x _ (hx) zx sx).mono ?_
      rintro e w1 ⟨o1, c1, rfl, v1, b1⟩
      have B1 := below_trans B0 b1
      go_wp2_with fail
      refine (KX o1 c1 _ v1 B1).mono ?_
      rintro e w2 ⟨rfl, b2⟩
      have B2 := below_trans B1 b2
      go_wp2_with fail
      refine (vown_any bo d y _ (hy.later B2) zy sy).mono ?_
      rintro e w3 ⟨o3, c3, rfl, v3, b3⟩
      have B3 := below_trans B2 b3
      go_wp2_with fail
      refine (KY o3 c3 _ v3 B3).mono ?_
      rintro e w4 ⟨rfl, b4⟩
      have B4 := below_trans B3 b4
      clear v1 v3
      go_wp2_with (first | (go_at_call 28; refine (vnum_any _ _).mono ?_; rintro e w' ⟨rfl, rfl⟩) | fail)
      refine (vown_any ao c x _ (hx.later B4) zx sx).mono ?_
      rintro e w5 ⟨o5, c5, rfl, v5, b5⟩
      have B5 := below_trans B4 b5
      go_wp2_with fail
      refine (vown_any bo d y _ (hy.later B5) zy sy).mono ?_
      rintro e w6 ⟨o6, c6, rfl, v6, b6⟩
      have B6 := below_trans B5 b6
      go_wp2_with fail
      refine (RR o5 o6 c5 c6 _ (v5.later b6) v6 B6).mono ?_
      rintro e w7 ⟨rfl, b7⟩
      have B7 := below_trans B6 b7
      clear v5 v6
      rcases cases3 with p | p | p
      · have l1' := l1.trans (decide_eq_true p)
        have l2' := l2.trans (decide_eq_false (by omega))
        have d0 : (R == 0) = false := by rw [beq_eq_false_iff_ne]; omega
        have SS' := fun W hb => SS W hb
        rw [decide_eq_false (show ¬ R = 0 by omega)] at SS'
        clear l1 l2 SS
        go_wp2_with fail
        refine (SS' _ B7).mono ?_
        rintro e w8 ⟨rfl, b8⟩
        have B8 := below_trans B7 b8
        go_wp2_with fail
        refine (knows_any _ (hT.later B8)).mono ?_
        rintro e wk ⟨rfl, bk⟩
        go_wp2
        go_ret
        first | exact ⟨rfl, below_trans B8 bk⟩ | exact ⟨ret_bool (by simp; omega), below_trans B8 bk⟩
      · have l1' := l1.trans (decide_eq_false (by omega))
        have l2' := l2.trans (decide_eq_true p)
        have d0 : (R == 0) = true := by simpa using p
        have p' : ¬ R < 0 := by omega
        have SS' := fun W hb => SS W hb
        rw [decide_eq_true p] at SS'
        clear l1 l2 SS p
        go_wp2_with fail
        refine (SS' _ B7).mono ?_
        rintro e w8 ⟨rfl, b8⟩
        have B8 := below_trans B7 b8
        go_wp2_with fail
        refine (knows_any _ (hT.later B8)).mono ?_
        rintro e wk ⟨rfl, bk⟩
        go_wp2
        go_ret
        first | exact ⟨rfl, below_trans B8 bk⟩ | exact ⟨ret_bool (by simp; omega), below_trans B8 bk⟩
      · have l1' := l1.trans (decide_eq_false (by omega))
        have l2' := l2.trans (decide_eq_false (by omega))
        have d0 : (R == 0) = false := by rw [beq_eq_false_iff_ne]; omega
        have p' : ¬ R < 0 := by omega
        have SS' := fun W hb => SS W hb
        rw [decide_eq_false (show ¬ R = 0 by omega)] at SS'
        clear l1 l2 SS p
        go_wp2_with fail
        refine (SS' _ B7).mono ?_
        rintro e w8 ⟨rfl, b8⟩
        have B8 := below_trans B7 b8
        go_wp2_with fail
        refine (knows_any _ (hT.later B8)).mono ?_
        rintro e wk ⟨rfl, bk⟩
        go_wp2
        go_ret
        first | exact ⟨rfl, below_trans B8 bk⟩ | exact ⟨ret_bool (by simp; omega), below_trans B8 bk⟩
    · have KX := fun (ao' : Option Addr) (c' : Nat) (W : World) (hv : Vs W ao' x) (hb : Below w.heap.size w W) => key_good ao' c' x W (hT.later hb) hv ex ix
      have KY := fun (ao' : Option Addr) (c' : Nat) (W : World) (hv : Vs W ao' y) (hb : Below w.heap.size w W) => key_bad ao' c' y W (hT.later hb) hv (by omega) ey
      have ne : (ckE y == 0) = false := by simpa using ey
      generalize ckE y = E at *
      go_enter Tryz.func7, Tryz.ntmps7
      go_wp2_with fail
      refine (vown_any ao c x _ (hx) zx sx).mono ?_
      rintro e w1 ⟨o1, c1, rfl, v1, b1⟩
      have B1 := below_trans B0 b1
      go_wp2_with fail
      refine (KX o1 c1 _ v1 B1).mono ?_
      rintro e w2 ⟨rfl, b2⟩
      have B2 := below_trans B1 b2
      go_wp2_with fail
      refine (vown_any bo d y _ (hy.later B2) zy sy).mono ?_
      rintro e w3 ⟨o3, c3, rfl, v3, b3⟩
      have B3 := below_trans B2 b3
      go_wp2_with fail
      refine (KY o3 c3 _ v3 B3).mono ?_
      rintro e w4 ⟨rfl, b4⟩
      have B4 := below_trans B3 b4
      clear v1 v3
      go_wp2_with (first | (go_at_call 28; refine (vnum_any _ _).mono ?_; rintro e w' ⟨rfl, rfl⟩) | (go_at_call 20; refine (knows_any _ (hT.later B4)).mono ?_; rintro e wk ⟨rfl, bk⟩))
      go_ret
      exact ⟨rfl, below_trans B4 bk⟩
  · have KX := fun (ao' : Option Addr) (c' : Nat) (W : World) (hv : Vs W ao' x) (hb : Below w.heap.size w W) => key_bad ao' c' x W (hT.later hb) hv (by omega) ex
    have KY : ∀ (ao' : Option Addr) (c' : Nat) (W : World), Vs W ao' y → Below w.heap.size w W → Calls Tryz.prog 26 #[.slice ao' y.length c'] W fun e w' => (∃ s f, e = .returned (.tuple #[.string s, .int .i64 f])) ∧ Below W.heap.size W w' := by
      intro ao' c' W hv hb
      by_cases ey : ckE y = 0
      · exact (key_good ao' c' y W (hT.later hb) hv ey iy).mono fun e w' h => ⟨⟨_, _, h.1⟩, h.2⟩
      · exact (key_bad ao' c' y W (hT.later hb) hv (by omega) ey).mono fun e w' h => ⟨⟨_, _, h.1⟩, h.2⟩
    have ne : (ckE x == 0) = false := by simpa using ex
    generalize ckE x = E at *
    go_enter Tryz.func7, Tryz.ntmps7
    go_wp2_with fail
    refine (vown_any ao c x _ (hx) zx sx).mono ?_
    rintro e w1 ⟨o1, c1, rfl, v1, b1⟩
    have B1 := below_trans B0 b1
    go_wp2_with fail
    refine (KX o1 c1 _ v1 B1).mono ?_
    rintro e w2 ⟨rfl, b2⟩
    have B2 := below_trans B1 b2
    go_wp2_with fail
    refine (vown_any bo d y _ (hy.later B2) zy sy).mono ?_
    rintro e w3 ⟨o3, c3, rfl, v3, b3⟩
    have B3 := below_trans B2 b3
    go_wp2_with fail
    refine (KY o3 c3 _ v3 B3).mono ?_
    rintro e w4 ⟨⟨s4, f4, rfl⟩, b4⟩
    have B4 := below_trans B3 b4
    clear v1 v3
    go_wp2_with (first | (go_at_call 28; refine (vnum_any _ _).mono ?_; rintro e w' ⟨rfl, rfl⟩) | (go_at_call 20; refine (knows_any _ (hT.later B4)).mono ?_; rintro e wk ⟨rfl, bk⟩))
    go_ret
    exact ⟨rfl, below_trans B4 bk⟩
end Go.Proofs.YtkfnmblfaaabkaaGreatDoor
