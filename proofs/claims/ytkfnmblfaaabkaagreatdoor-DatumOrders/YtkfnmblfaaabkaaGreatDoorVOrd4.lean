/-
  The walk of DatumOrders: which values may be, which are the same, and how any two rows stand.
-/
import Derived.Test.YtkfnmblfaaabkaaGreatDoorVOrd3
import Derived.Test.YtkfnmblfaaabkaaGreatDoorVKnows
namespace Go.Proofs.YtkfnmblfaaabkaaGreatDoor
open Go.RowKit Go.Shelf
attribute [local go_sem] cell?_more frozen?_more setCell_more more_lt more_more more_drew more_drewN setCell_drewN alloc_drewN

theorem eqBool (x y : Bool) (w : World) : (binOp BinOp.eql 4 (Value.bool x) (Value.bool y)).run Tryz.prog w = .ok (Value.bool (x == y)) w := by
  cases x <;> cases y <;> kernel_rfl
theorem neBool (x y : Bool) (w : World) : (binOp BinOp.neq 4 (Value.bool x) (Value.bool y)).run Tryz.prog w = .ok (Value.bool (x != y)) w := by
  cases x <;> cases y <;> kernel_rfl
attribute [local go_sem high] eqBool neBool

set_option maxRecDepth 20000 in
set_option maxHeartbeats 8000000 in
theorem orders_walk (ao bo : Option Addr) (c d : Nat) (x y : List Va) (w : World) (hT : Tabs w) (hP : Pw w) (hx : Vs w ao x) (hy : Vs w bo y) (zx : ao = none → x = []) (zy : bo = none → y = [])
    (sx : x.length * 40 ≤ 140737488351232) (sy : y.length * 40 ≤ 140737488351232) (ix : ∀ v ∈ x, vin v) (iy : ∀ v ∈ y, vin v) :
    Calls Tryz.prog 3 #[.slice ao x.length c, .slice bo y.length d] w fun e w' => e = .returned (.bool true) ∧ Below w.heap.size w w' := by
  have OX := fun (W : World) (hb : Below w.heap.size w W) => vown_any ao c x W (hx.later hb) zx sx
  have OY := fun (W : World) (hb : Below w.heap.size w W) => vown_any bo d y W (hy.later hb) zy sy
  have RW := fun (ao' : Option Addr) (c' : Nat) (W : World) (hv : Vs W ao' x) (hb : Below w.heap.size w W) => row_any ao' c' x W (hT.later hb) hv (by omega)
  have RR := fun (W : World) (hb : Below w.heap.size w W) => rrow_any ao c x W (hx.later hb) (by omega)
  have PR := fun (ao' bo' : Option Addr) (c' d' : Nat) (W : World) (hv : Vs W ao' x) (hv' : Vs W bo' y) (hb : Below w.heap.size w W) => prows_any ao' bo' c' d' x y W (hT.later hb) (hP.below hb) hv hv' (by omega) (by omega) ix iy
  have PS := fun (W : World) (hb : Below w.heap.size w W) => rprows_any ao bo c d x y W (hx.later hb) (hy.later hb) (by omega) (by omega) ix iy
  generalize (ckE x == 0) = E at *
  generalize prow x y = R at *
  obtain ⟨n, hn⟩ : ∃ n, x.length = n := ⟨_, rfl⟩
  obtain ⟨m, hm⟩ : ∃ m, y.length = m := ⟨_, rfl⟩
  have HN : Hid (x.length = n) := hn
  have HM : Hid (y.length = m) := hm
  simp only [hn, hm] at OX OY RW RR PR PS sx sy ⊢
  clear hn hm
  go_enter Tryz.func3, Tryz.ntmps3
  go_wp2
  go_loopw [5] (fun r wr => ∃ i : Nat, r = .int .i64 (i : Int) ∧ i ≤ n ∧ Below w.heap.size w wr) (fun r _ => n - (intOf r).toNat)
  case atStart => exact ⟨0, rfl, Nat.zero_le _, Below.refl _ _⟩
  case round =>
    obtain ⟨i, rfl, hi, hB⟩ := hrel
    have sB := hB.size
    by_cases hlt : i < n
    · have hlt' : (i : Int) < (n : Int) := by omega
      have i0 : (0 : Int) ≤ (i : Int) := by omega
      have kx : i < x.length := by have := HN.out; omega
      obtain ⟨b1, o1, rfl, hc1⟩ := hx (by omega)
      obtain ⟨c0, c1, c2, c3⟩ := (hc1 i kx).later hB
      have g1 := ((hc1 i kx).later hB).lt
      have A1 : ∀ W, Below wr.heap.size wr W → Calls Tryz.prog 9 #[vv x[i]] W fun e w' => e = .returned (.bool (vr x[i])) ∧ Below W.heap.size W w' := fun W h => vright_any _ _ _ _ W ((hT.later hB).later h)
      have A2 : ∀ W, Calls Tryz.prog 10 #[vv x[i]] W fun e w' => e = .returned (.bool (vr x[i])) ∧ Below W.heap.size W w' := fun W => rright_any _ _ _ _ W
      have vix := ix _ (List.getElem_mem kx)
      obtain ⟨G, hG⟩ : ∃ G, G = vr x[i] := ⟨_, rfl⟩
      rw [← hG] at A1 A2
      obtain ⟨⟨ak, an, am, ab⟩, ha⟩ : ∃ v : Va, v = x[i] := ⟨_, rfl⟩
      rw [← ha] at c0 c1 c2 c3 A1 A2 vix
      simp only at c0 c1 c2 c3
      clear hG ha
      go_upto_region 4 with fail
      go_region_held2 (fun W => W.cell? ⟨b1, o1 + i * 4, none⟩ = some (.int .i64 ak) ∧ W.cell? ⟨b1, o1 + i * 4 + 1, none⟩ = some (.int .i64 an) ∧ W.cell? ⟨b1, o1 + i * 4 + 2, none⟩ = some (.int .i64 am) ∧ W.cell? ⟨b1, o1 + i * 4 + 3, none⟩ = some (.string ⟨ab.toArray⟩)) (first | go_keep | (refine ⟨?_, ?_, ?_, ?_⟩ <;> assumption)) (first
        | (go_at_call 9; refine (A1 _ (by first | exact bp | exact Below.drew bp | exact (Below.refl _ wr).drew | exact Below.refl _ wr)).mono ?_; rintro e w2 ⟨rfl, bq⟩; have bp : Below wr.heap.size wr w2 := below_trans (by first | exact bp | exact Below.drew bp | exact (Below.refl _ wr).drew | exact Below.refl _ wr) bq; obtain ⟨x0, x1, x2, x3⟩ := At4.later (v := ⟨ak, an, am, ab⟩) ⟨c0, c1, c2, c3⟩ bp)
        | (go_at_call 10; refine (A2 _).mono ?_; rintro e w2 ⟨rfl, bq⟩; have bp : Below wr.heap.size wr w2 := below_trans (by first | exact bp | exact Below.drew bp | exact (Below.refl _ wr).drew | exact Below.refl _ wr) bq; obtain ⟨x0, x1, x2, x3⟩ := At4.later (v := ⟨ak, an, am, ab⟩) ⟨c0, c1, c2, c3⟩ bp))
      have hB2 := below_trans hB bp
      go_wp2
      go_loopw [6] (fun r wr' => ∃ k : Nat, r = .int .i64 (k : Int) ∧ k ≤ 9 ∧ Below w.heap.size w wr') (fun r _ => 9 - (intOf r).toNat)
      case atStart => exact ⟨0, rfl, by decide, hB2⟩
      case round =>
        obtain ⟨k, rfl, hk, hD⟩ := hrel
        clear x0 x1 x2 x3 c0 c1 c2 c3 bp bq
        by_cases hkl : k < m ∧ k < 9
        · obtain ⟨hkm, hk9⟩ := hkl
          have h1' : (k : Int) < (m : Int) := by omega
          have h2' : (k : Int) < 9 := by omega
          have k0 : (0 : Int) ≤ (k : Int) := by omega
          have ky : k < y.length := by have := HM.out; omega
          obtain ⟨b2, o2, rfl, hc2⟩ := hy (by omega)
          obtain ⟨c0, c1, c2, c3⟩ := (hc1 i kx).later hD
          obtain ⟨d0, d1, d2, d3⟩ := (hc2 k ky).later hD
          have g1' := ((hc1 i kx).later hD).lt
          have g2' := ((hc2 k ky).later hD).lt
          have viy := iy _ (List.getElem_mem ky)
          have C1 : ∀ W, Below wr.heap.size wr W → Calls Tryz.prog 11 #[vv x[i], vv y[k]] W fun e w' => e = .returned (.int .i64 (pcmp x[i] y[k])) ∧ Below W.heap.size W w' := fun W h => compare_any _ _ W ((hT.later hD).later h) ((hP.below hD).below h) (ix _ (List.getElem_mem kx)) viy
          have C2 : ∀ W, Calls Tryz.prog 12 #[vv x[i], vv y[k]] W fun e w' => e = .returned (.int .i64 (pcmp x[i] y[k])) ∧ Below W.heap.size W w' := fun W => rcompare_any _ _ _ _ _ _ _ _ W (ix _ (List.getElem_mem kx)) viy
          have C3 : ∀ W, Calls Tryz.prog 13 #[vv x[i], vv y[k]] W fun e w' => e = .returned (.bool (sameV x[i] y[k])) ∧ Grew W w' := fun W => dsame_any _ _ W
          have C4 : ∀ W, Calls Tryz.prog 14 #[vv x[i], vv y[k]] W fun e w' => e = .returned (.bool (sameV x[i] y[k])) ∧ Grew W w' := fun W => rsame_any _ _ _ _ _ _ _ _ W
          generalize pcmp x[i] y[k] = PC at *
          generalize sameV x[i] y[k] = SC at *
          obtain ⟨⟨ak, an, am, ab⟩, ha⟩ : ∃ v : Va, v = x[i] := ⟨_, rfl⟩
          obtain ⟨⟨bk, bn, bm, bb⟩, hb⟩ : ∃ v : Va, v = y[k] := ⟨_, rfl⟩
          rw [← ha] at c0 c1 c2 c3 C1 C2 C3 C4
          rw [← hb] at d0 d1 d2 d3 C1 C2 C3 C4
          simp only at c0 c1 c2 c3 d0 d1 d2 d3
          clear ha hb
          go_upto_region 9 with fail
          go_region_held2 (fun W => W.cell? ⟨b1, o1 + i * 4, none⟩ = some (.int .i64 ak) ∧ W.cell? ⟨b1, o1 + i * 4 + 1, none⟩ = some (.int .i64 an) ∧ W.cell? ⟨b1, o1 + i * 4 + 2, none⟩ = some (.int .i64 am) ∧ W.cell? ⟨b1, o1 + i * 4 + 3, none⟩ = some (.string ⟨ab.toArray⟩) ∧ W.cell? ⟨b2, o2 + k * 4, none⟩ = some (.int .i64 bk) ∧ W.cell? ⟨b2, o2 + k * 4 + 1, none⟩ = some (.int .i64 bn) ∧ W.cell? ⟨b2, o2 + k * 4 + 2, none⟩ = some (.int .i64 bm) ∧ W.cell? ⟨b2, o2 + k * 4 + 3, none⟩ = some (.string ⟨bb.toArray⟩)) (first | go_keep | (refine ⟨?_, ?_, ?_, ?_, ?_, ?_, ?_, ?_⟩ <;> assumption)) (first
            | (go_at_call 11; refine (C1 _ (by first | exact bp | exact Below.drew bp | exact (Below.refl _ wr).drew | exact Below.refl _ wr)).mono ?_; rintro e w2 ⟨rfl, bq⟩; have bp : Below wr.heap.size wr w2 := below_trans (by first | exact bp | exact Below.drew bp | exact (Below.refl _ wr).drew | exact Below.refl _ wr) bq; obtain ⟨x0, x1, x2, x3⟩ := At4.later (v := ⟨ak, an, am, ab⟩) ⟨c0, c1, c2, c3⟩ bp; obtain ⟨y0, y1, y2, y3⟩ := At4.later (v := ⟨bk, bn, bm, bb⟩) ⟨d0, d1, d2, d3⟩ bp)
            | (go_at_call 12; refine (C2 _).mono ?_; rintro e w2 ⟨rfl, bq⟩; have bp : Below wr.heap.size wr w2 := below_trans (by first | exact bp | exact Below.drew bp | exact (Below.refl _ wr).drew | exact Below.refl _ wr) bq; obtain ⟨x0, x1, x2, x3⟩ := At4.later (v := ⟨ak, an, am, ab⟩) ⟨c0, c1, c2, c3⟩ bp; obtain ⟨y0, y1, y2, y3⟩ := At4.later (v := ⟨bk, bn, bm, bb⟩) ⟨d0, d1, d2, d3⟩ bp)
            | (go_at_call 13; refine (C3 _).mono ?_; rintro e w2 ⟨rfl, bq⟩; have bp : Below wr.heap.size wr w2 := below_trans (by first | exact bp | exact Below.drew bp | exact (Below.refl _ wr).drew | exact Below.refl _ wr) bq.below; obtain ⟨x0, x1, x2, x3⟩ := At4.later (v := ⟨ak, an, am, ab⟩) ⟨c0, c1, c2, c3⟩ bp; obtain ⟨y0, y1, y2, y3⟩ := At4.later (v := ⟨bk, bn, bm, bb⟩) ⟨d0, d1, d2, d3⟩ bp)
            | (go_at_call 14; refine (C4 _).mono ?_; rintro e w2 ⟨rfl, bq⟩; have bp : Below wr.heap.size wr w2 := below_trans (by first | exact bp | exact Below.drew bp | exact (Below.refl _ wr).drew | exact Below.refl _ wr) bq.below; obtain ⟨x0, x1, x2, x3⟩ := At4.later (v := ⟨ak, an, am, ab⟩) ⟨c0, c1, c2, c3⟩ bp; obtain ⟨y0, y1, y2, y3⟩ := At4.later (v := ⟨bk, bn, bm, bb⟩) ⟨d0, d1, d2, d3⟩ bp))
          go_wp2
          go_roundw
          case rel => exact ⟨k + 1, by go_num, by omega, below_trans hD bp⟩
          case measure => simp [intOf]; omega
        · have hkm : ¬ (k : Int) < (m : Int) ∨ ((k : Int) < (m : Int) ∧ ¬ (k : Int) < 9) := by omega
          rcases hkm with q1 | ⟨q1, q2⟩
          · go_wp2
            go_roundw
            case rel => exact ⟨i + 1, by go_num, by omega, hD⟩
            case measure => simp [intOf]; omega
          · go_wp2
            go_roundw
            case rel => exact ⟨i + 1, by go_num, by omega, hD⟩
            case measure => simp [intOf]; omega
    · have hlt' : ¬ (i : Int) < (n : Int) := by omega
      clear hx hy hP
      go_wp2_with fail
      refine (OX _ hB).mono ?_
      rintro e w1 ⟨o1, c1, rfl, v1, b1⟩
      have B1 := below_trans hB b1
      go_wp2_with fail
      refine (RW o1 c1 _ v1 B1).mono ?_
      rintro e w2 ⟨rfl, b2⟩
      have B2 := below_trans B1 b2
      go_wp2_with fail
      refine (RR _ B2).mono ?_
      rintro e w3 ⟨rfl, b3⟩
      have B3 := below_trans B2 b3
      go_wp2_with fail
      refine (OX _ B3).mono ?_
      rintro e w4 ⟨o4, c4, rfl, v4, b4⟩
      have B4 := below_trans B3 b4
      go_wp2_with fail
      refine (OY _ B4).mono ?_
      rintro e w5 ⟨o5, c5, rfl, v5, b5⟩
      have B5 := below_trans B4 b5
      go_wp2_with fail
      refine (PR o4 o5 c4 c5 _ (v4.later b5) v5 B5).mono ?_
      rintro e w6 ⟨rfl, b6⟩
      have B6 := below_trans B5 b6
      go_wp2_with fail
      refine (PS _ B6).mono ?_
      rintro e w7 ⟨rfl, b7⟩
      have B7 := below_trans B6 b7
      clear v1 v4 v5 OX OY RW RR PR PS
      go_wp2_with fail
      refine (knows_any _ (hT.later B7)).mono ?_
      rintro e w8 ⟨rfl, b8⟩
      go_wp2
      go_ret
      exact ⟨rfl, below_trans B7 b8⟩
end Go.Proofs.YtkfnmblfaaabkaaGreatDoor
