/-
  datum.takeValue and datum.Get of whatever bytes.
-/
import Derived.Test.YtafmchgncahafaaGreatDoorBkG
import Derived.Test.YtafmchgncahafaaGreatDoorKReadsP
namespace Go.Proofs.YtafmchgncahafaaGreatDoor.By
open Go.RowKit Go.Proofs.YtafmchgncahafaaGreatDoor.Co Go.Proofs.YtafmchgncahafaaGreatDoor.Bk
attribute [local go_sem] cell?_more frozen?_more setCell_more more_lt more_more more_drew more_drewN setCell_drewN alloc_drewN

/-- What is read as a value: it, how many bytes are passed then, the first error. -/
def tvR (bs : List UInt8) (k e : Nat) : Va × Nat × Nat :=
  if (rNum bs k e).1 = 1 ∨ (rNum bs k e).1 = 4 then
    (⟨(rNum bs k e).1, (rNum bs (rNum bs k e).2.1 (rNum bs k e).2.2).1, 0, []⟩, (rNum bs (rNum bs k e).2.1 (rNum bs k e).2.2).2)
  else if (rNum bs k e).1 = 2 ∨ (rNum bs k e).1 = 5 then
    (⟨(rNum bs k e).1, (rNum bs (rNum bs k e).2.1 (rNum bs k e).2.2).1, (rNum bs (rNum bs (rNum bs k e).2.1 (rNum bs k e).2.2).2.1 (rNum bs (rNum bs k e).2.1 (rNum bs k e).2.2).2.2).1, []⟩, (rNum bs (rNum bs (rNum bs k e).2.1 (rNum bs k e).2.2).2.1 (rNum bs (rNum bs k e).2.1 (rNum bs k e).2.2).2.2).2)
  else if (rNum bs k e).1 = 3 then (⟨3, 0, 0, (rTxt bs (rNum bs k e).2.1 (rNum bs k e).2.2).1⟩, (rTxt bs (rNum bs k e).2.1 (rNum bs k e).2.2).2)
  else (⟨(rNum bs k e).1, 0, 0, []⟩, (rNum bs k e).2)
theorem tvr_any (p : Nat) (bs : List UInt8) (k e : Nat) (w : World) (h : Rdr w p bs k e) :
    Calls Tryz.prog 23 #[.pointer (some ⟨p, 0, none⟩)] w fun x w' => x = .returned (vv (tvR bs k e).1) ∧ Rdr w' p bs (tvR bs k e).2.1 (tvR bs k e).2.2 ∧ w.grownBy w' (some p) := by
  unfold tvR
  rcases h1 : rNum bs k e with ⟨kk, k1, e1⟩
  dsimp only
  rcases h2 : rNum bs k1 e1 with ⟨n, k2, e2⟩
  dsimp only
  rcases h3 : rNum bs k2 e2 with ⟨m, k3, e3⟩
  dsimp only
  rcases h4 : rTxt bs k1 e1 with ⟨b, k4, e4⟩
  dsimp only
  by_cases c1 : kk = 1
  · subst c1; rw [if_pos (.inl rfl)]; exact tv1 p bs k k1 k2 e e1 e2 n w h h1 h2
  by_cases c4 : kk = 4
  · subst c4; rw [if_pos (.inr rfl)]; exact tv4 p bs k k1 k2 e e1 e2 n w h h1 h2
  rw [if_neg (by omega)]
  by_cases c2 : kk = 2
  · subst c2; rw [if_pos (.inl rfl)]; exact tv2 p bs k k1 k2 k3 e e1 e2 e3 n m w h h1 h2 h3
  by_cases c5 : kk = 5
  · subst c5; rw [if_pos (.inr rfl)]; exact tv5 p bs k k1 k2 k3 e e1 e2 e3 n m w h h1 h2 h3
  rw [if_neg (by omega)]
  by_cases c3 : kk = 3
  · subst c3; rw [if_pos rfl]; exact tv3 p bs k k1 k4 e e1 e4 b w h h1 h4
  rw [if_neg c3]
  exact tv0 p bs k k1 e e1 kk (by simpa using c1) (by simpa using c4) (by simpa using c2) (by simpa using c5) (by simpa using c3) w h h1
/-- Values that are read one behind the other. -/
def rdV (bs : List UInt8) : Nat → Nat → Nat → List Va × Nat × Nat
  | 0, k, e => ([], k, e)
  | n + 1, k, e => ((tvR bs k e).1 :: (rdV bs n (tvR bs k e).2.1 (tvR bs k e).2.2).1, (rdV bs n (tvR bs k e).2.1 (tvR bs k e).2.2).2)
theorem rdV_len (bs : List UInt8) : ∀ n k e, (rdV bs n k e).1.length = n := by
  intro n
  induction n with
  | zero => intro k e; rfl
  | succ n ih => intro k e; simp [rdV, ih]
/-- What Get answers. -/
def gget (bs : List UInt8) : Option (List Va) :=
  if (rNum bs 0 0).1 < 0 ∨ 64 < (rNum bs 0 0).1 then none
  else if rDone bs (rdV bs (rNum bs 0 0).1.toNat (rNum bs 0 0).2.1 (rNum bs 0 0).2.2).2.1 (rdV bs (rNum bs 0 0).1.toNat (rNum bs 0 0).2.1 (rNum bs 0 0).2.2).2.2 = 0 ∧ ckE (rdV bs (rNum bs 0 0).1.toNat (rNum bs 0 0).2.1 (rNum bs 0 0).2.2).1 = 0
    then some (rdV bs (rNum bs 0 0).1.toNat (rNum bs 0 0).2.1 (rNum bs 0 0).2.2).1 else none
/-- How Get ends. -/
def getP (R : Option (List Va)) (e : Ending) (w' : World) : Prop := match R with
  | none => e = .returned (.tuple #[.slice none 0 0, .int .i64 21])
  | some l => ∃ g, e = .returned (.tuple #[.slice (some ⟨g, 0, none⟩) l.length l.length, .int .i64 0]) ∧ Vs w' (some ⟨g, 0, none⟩) l

set_option maxRecDepth 20000 in
set_option maxHeartbeats 4000000 in
theorem get_neg (ao : Option Addr) (cap : Nat) (bs : List UInt8) (n : Int) (k1 e1 : Nat) (e0 : rNum bs 0 0 = (n, k1, e1)) (hn : n < 0) (w : World) (hR : Rd w ao bs.length cap bs) (hlen : bs.length ≤ 140737488351232) :
    Calls Tryz.prog 8 #[.slice ao bs.length cap] w fun e w' => getP (none) e w' ∧ Below w.heap.size w w' := by
  go_enter Tryz.func8, Tryz.ntmps8
  go_wp2_with fail
  refine (newReader_wide ao _ cap bs w hR hlen).mono ?_
  rintro e w1 ⟨p, rfl, hp, R1, b1⟩
  go_wp2_with fail
  have N1 := rNumber_any p bs 0 0 w1 R1
  rw [e0] at N1
  refine N1.mono ?_
  rintro e w2 ⟨rfl, R2, g2⟩
  have B2 : Below w.heap.size w w2 := b1.trans (gb_below g2 hp b1.size)
  dsimp only
  go_wp2
  refine bodyPost_ret_by (v := .tuple #[.slice none 0 0, .int .i64 21]) ?_ rfl ⟨rfl, B2⟩
  simp [results, Tryz.results8, go_sem]

set_option maxRecDepth 20000 in
set_option maxHeartbeats 4000000 in
theorem get_big (ao : Option Addr) (cap : Nat) (bs : List UInt8) (n : Int) (k1 e1 : Nat) (e0 : rNum bs 0 0 = (n, k1, e1)) (hn : 64 < n) (w : World) (hR : Rd w ao bs.length cap bs) (hlen : bs.length ≤ 140737488351232) :
    Calls Tryz.prog 8 #[.slice ao bs.length cap] w fun e w' => getP (none) e w' ∧ Below w.heap.size w w' := by
  go_enter Tryz.func8, Tryz.ntmps8
  go_wp2_with fail
  refine (newReader_wide ao _ cap bs w hR hlen).mono ?_
  rintro e w1 ⟨p, rfl, hp, R1, b1⟩
  go_wp2_with fail
  have N1 := rNumber_any p bs 0 0 w1 R1
  rw [e0] at N1
  refine N1.mono ?_
  rintro e w2 ⟨rfl, R2, g2⟩
  have B2 : Below w.heap.size w w2 := b1.trans (gb_below g2 hp b1.size)
  dsimp only
  have hn0 : ¬ n < 0 := by omega
  go_wp2
  refine bodyPost_ret_by (v := .tuple #[.slice none 0 0, .int .i64 21]) ?_ rfl ⟨rfl, B2⟩
  simp [results, Tryz.results8, go_sem]

set_option maxRecDepth 20000 in
set_option maxHeartbeats 4000000 in
theorem get_done (ao : Option Addr) (cap : Nat) (bs : List UInt8) (l : List Va) (k1 e1 K E : Nat) (e0 : rNum bs 0 0 = ((l.length : Int), k1, e1)) (h64 : l.length ≤ 64) (hr : rdV bs l.length k1 e1 = (l, K, E)) (hD : rDone bs K E ≠ 0) (w : World) (hR : Rd w ao bs.length cap bs) (hlen : bs.length ≤ 140737488351232) :
    Calls Tryz.prog 8 #[.slice ao bs.length cap] w fun e w' => getP (none) e w' ∧ Below w.heap.size w w' := by
  have hmk := make_run l.length h64
  have D1 : Hid (l.drop 0 = (rdV bs (l.length - 0) k1 e1).1 ∧ (K, E) = (rdV bs (l.length - 0) k1 e1).2) := by
    show _ ∧ _
    rw [Nat.sub_zero, hr]
    exact ⟨rfl, rfl⟩
  have i1 : ¬ ((l.length : Int)) < 0 := by omega
  have i2 : ¬ (64 : Int) < (l.length : Int) := by omega
  clear hr
  go_enter Tryz.func8, Tryz.ntmps8
  go_wp2_with fail
  refine (newReader_wide ao _ cap bs w hR hlen).mono ?_
  rintro e w1 ⟨p, rfl, hp, R1, b1⟩
  go_wp2_with fail
  have N1 := rNumber_any p bs 0 0 w1 R1
  rw [e0] at N1
  refine N1.mono ?_
  rintro e w2 ⟨rfl, R2, g2⟩
  have B2 : Below w.heap.size w w2 := b1.trans (gb_below g2 hp b1.size)
  have hpl := rdr_lt R2
  clear N1 R1 e0 hR
  dsimp only at R2 ⊢
  have uM : Below w2.heap.size w2 (w2.alloc (.cells (mz l.length) 47)) := (Below.refl _ _).alloc (Nat.le_refl _) _
  have R3 := rdr_later R2 uM
  have B3 : Below w.heap.size w (w2.alloc (.cells (mz l.length) 47)) := B2.alloc B2.size _
  have A3 : ∀ j, j < l.length → At4 (w2.alloc (.cells (mz l.length) 47)) w2.heap.size (j * 4) (pick l 0 j) := fun j hj => by
    have := mz_at w2 l.length j hj
    unfold pick
    rw [if_neg (by omega)]
    exact this
  have F3 : ∃ cs, Cbox (w2.alloc (.cells (mz l.length) 47)) w2.heap.size cs 47 := ⟨_, Cbox.new w2 _ _⟩
  have ngp : w2.heap.size ≠ p := by omega
  have hgw : w.heap.size ≤ w2.heap.size := B2.size
  go_upto_region 6 with fail
  generalize w2.alloc (.cells (mz l.length) 47) = w3 at *
  generalize w2.heap.size = gl at *
  clear uM R2 B2 hmk hpl g2 b1
  go_wp2_with fail
  go_loopw [22] (fun r22 wr => ∃ (i k e : Nat), r22 = .int .i64 (i : Int) ∧ i ≤ l.length ∧ Hid (Rdr wr p bs k e) ∧ Hid (l.drop i = (rdV bs (l.length - i) k e).1 ∧ (K, E) = (rdV bs (l.length - i) k e).2) ∧ Hid (Below w.heap.size w wr) ∧ Hid (∃ cs, Cbox wr gl cs 47) ∧ Hid (∀ j, j < l.length → At4 wr gl (j * 4) (pick l i j))) (fun r22 _ => l.length - (Bk.intOf r22).toNat)
  case atStart => exact ⟨0, k1, e1, rfl, Nat.zero_le _, R3, D1, B3, F3, A3⟩
  case round =>
    obtain ⟨i, k, e, rfl, hi, HR, HD, HB, HF, HA⟩ := hrel
    by_cases hlt : i < l.length
    · have hlt' : (i : Int) < (l.length : Int) := by omega
      have j0 : (0 : Int) ≤ (i : Int) := by omega
      have e5 : IntKind.i64.wrap ((i : Int) + 1) = (i : Int) + 1 := by rw [IntKind.wrap_i64]; omega
      obtain ⟨v, hv⟩ : ∃ v, v = l[i] := ⟨_, rfl⟩
      have hst : v = (tvR bs k e).1 ∧ l.drop (i + 1) = (rdV bs (l.length - (i + 1)) (tvR bs k e).2.1 (tvR bs k e).2.2).1 ∧ (K, E) = (rdV bs (l.length - (i + 1)) (tvR bs k e).2.1 (tvR bs k e).2.2).2 := by
        have h := HD.out
        rw [List.drop_eq_getElem_cons hlt, show l.length - i = (l.length - (i + 1)) + 1 by omega] at h
        simp only [rdV] at h
        have h1 := List.cons.inj h.1
        exact ⟨by rw [hv]; exact h1.1, h1.2, h.2⟩
      have TV := tvr_any p bs k e wr HR.out
      rw [← hst.1] at TV
      have HST : Hid (l.drop (i + 1) = (rdV bs (l.length - (i + 1)) (tvR bs k e).2.1 (tvR bs k e).2.2).1 ∧ (K, E) = (rdV bs (l.length - (i + 1)) (tvR bs k e).2.1 (tvR bs k e).2.2).2) := hst.2
      clear hst
      generalize (tvR bs k e).2.1 = k' at *
      generalize (tvR bs k e).2.2 = e' at *
      have HPICK : Hid (∀ j, j < l.length → pick l (i + 1) j = if j = i then v else pick l i j) := fun j hj => by
        unfold pick
        by_cases hji : j = i
        · subst hji
          rw [if_pos (by omega), if_pos rfl, hv, List.getD_eq_getElem?_getD, List.getElem?_eq_getElem hj]; rfl
        · rw [if_neg hji]
          by_cases h1 : j < i
          · rw [if_pos (by omega), if_pos h1]
          · rw [if_neg (by omega), if_neg h1]
      clear hv HD
      go_wp2_with fail
      refine TV.mono ?_
      rintro x w4 ⟨rfl, R4, g4⟩
      have A4 : ∀ j, j < l.length → At4 w4 gl (j * 4) (pick l i j) := fun j hj => at4_grown (HA.out j hj) g4 (by simpa using ngp)
      obtain ⟨cs, F4⟩ : ∃ cs, Cbox w4 gl cs 47 := by obtain ⟨cs, h⟩ := HF.out; exact ⟨cs, cbox_grown h g4 (by simpa using ngp)⟩
      have B4 : Below w.heap.size w w4 := HB.out.trans (gb_below g4 hp HB.out.size)
      obtain ⟨a0, a1, a2, a3⟩ := A4 i hlt
      have f0 := F4.free (i * 4)
      have f1 := F4.free (i * 4 + 1)
      have f2 := F4.free (i * 4 + 2)
      have f3 := F4.free (i * 4 + 3)
      have gl4 := F4.lt
      have HA4 : Hid (∀ j, j < l.length → At4 w4 gl (j * 4) (pick l i j)) := A4
      have HF4 : Hid (Cbox w4 gl cs 47) := F4
      have HR4 : Hid (Rdr w4 p bs k' e') := R4
      have HB4 : Hid (Below w.heap.size w w4) := B4
      clear A4 F4 R4 B4 HA HF HR HB TV
      have RB4 : RB w4 p bs k' e' gl gl := by
        have hz := (HA4.out 0 (by omega)).1
        rw [Nat.zero_mul] at hz
        exact ⟨HR4.out, ⟨ngp, _, hz⟩, ⟨ngp, _, hz⟩⟩
      go_wp2_with fail
      refine ⟨⟨i + 1, k', e', by rw [cast1], by omega, ?_, HST.out, ?_, ?_, ?_⟩, by simp [Bk.intOf]; omega⟩
      · exact (((((RB4.set1 (j := i * 4) (v := .int .i64 v.k) (fun _ => ⟨_, rfl⟩)).set1 (j := i * 4 + 1) (v := .int .i64 v.n) (fun h => by omega)).set1 (j := i * 4 + 2) (v := .int .i64 v.m) (fun h => by omega)).set1 (j := i * 4 + 3) (v := .string ⟨v.b.toArray⟩) (fun h => by omega))).1
      · exact (((HB4.out.setCell (p := ⟨gl, i * 4, none⟩) hgw _).setCell (p := ⟨gl, i * 4 + 1, none⟩) hgw _).setCell (p := ⟨gl, i * 4 + 2, none⟩) hgw _).setCell (p := ⟨gl, i * 4 + 3, none⟩) hgw _
      · exact ⟨_, heap_setCell_same _ gl _ _ _ _ (heap_setCell_same _ gl _ _ _ _ (heap_setCell_same _ gl _ _ _ _ (heap_setCell_same w4 gl _ _ _ _ HF4.out)))⟩
      · intro j hj
        rw [HPICK.out j hj]
        by_cases hji : j = i
        · subst hji
          rw [if_pos rfl]
          exact at4_set (HA4.out j hlt)
        · rw [if_neg hji]
          exact at4_off _ _ _ _ (HA4.out j hj) (by omega)
    · have hlt' : ¬ (i : Int) < (l.length : Int) := by omega
      have hil : i = l.length := by omega
      have hfin : k = K ∧ e = E := by
        have h := HD.out.2
        rw [hil, Nat.sub_self] at h
        simp only [rdV, Prod.mk.injEq] at h
        exact ⟨h.1.symm, h.2.symm⟩
      obtain ⟨rfl, rfl⟩ := hfin
      have DN := done_any p bs k e wr HR.out
      have HV : Hid (Vs wr (some ⟨gl, 0, none⟩) l) := fun _ => ⟨gl, 0, rfl, fun j hj => by
        have := HA.out j hj
        unfold pick at this
        rw [if_pos (by omega), List.getD_eq_getElem?_getD, List.getElem?_eq_getElem hj] at this
        rw [Nat.zero_add]
        exact this⟩
      clear HD HR HF HA
      generalize rDone bs k e = D at *
      go_wp2_with fail
      refine DN.mono ?_
      rintro x w5 ⟨rfl, nq, rfl⟩
      have uD : Below wr.heap.size wr (wr.drewN nq) := ⟨rfl, rfl, rfl, Nat.le_refl _, fun _ _ => rfl⟩
      have B5 : Below w.heap.size w (wr.drewN nq) := below_trans HB.out uD
      have hD' : ((D : Int) != 0) = true := by simpa using hD
      go_wp2
      refine bodyPost_ret_by (v := .tuple #[.slice none 0 0, .int .i64 21]) ?_ rfl ⟨rfl, B5⟩
      simp [results, Tryz.results8, go_sem]

set_option maxRecDepth 20000 in
set_option maxHeartbeats 4000000 in
theorem get_row (ao : Option Addr) (cap : Nat) (bs : List UInt8) (l : List Va) (k1 e1 K E : Nat) (e0 : rNum bs 0 0 = ((l.length : Int), k1, e1)) (h64 : l.length ≤ 64) (hr : rdV bs l.length k1 e1 = (l, K, E)) (hD : rDone bs K E = 0) (hC : ckE l ≠ 0) (w : World) (hT : Tabs w) (hR : Rd w ao bs.length cap bs) (hlen : bs.length ≤ 140737488351232) :
    Calls Tryz.prog 8 #[.slice ao bs.length cap] w fun e w' => getP (none) e w' ∧ Below w.heap.size w w' := by
  have hmk := make_run l.length h64
  have D1 : Hid (l.drop 0 = (rdV bs (l.length - 0) k1 e1).1 ∧ (K, E) = (rdV bs (l.length - 0) k1 e1).2) := by
    show _ ∧ _
    rw [Nat.sub_zero, hr]
    exact ⟨rfl, rfl⟩
  have HROW : Hid (∀ g W, Tabs W → Vs W (some ⟨g, 0, none⟩) l → Calls Tryz.prog 25 #[.slice (some ⟨g, 0, none⟩) l.length l.length] W fun e w' => e = .returned (.bool false) ∧ Below W.heap.size W w') := fun g W hTW hV => by
    have := row_any (some ⟨g, 0, none⟩) l.length l W hTW hV (by omega)
    have hc : (ckE l == 0) = false := by simpa using hC
    rwa [hc] at this
  have i1 : ¬ ((l.length : Int)) < 0 := by omega
  have i2 : ¬ (64 : Int) < (l.length : Int) := by omega
  clear hr
  go_enter Tryz.func8, Tryz.ntmps8
  go_wp2_with fail
  refine (newReader_wide ao _ cap bs w hR hlen).mono ?_
  rintro e w1 ⟨p, rfl, hp, R1, b1⟩
  go_wp2_with fail
  have N1 := rNumber_any p bs 0 0 w1 R1
  rw [e0] at N1
  refine N1.mono ?_
  rintro e w2 ⟨rfl, R2, g2⟩
  have B2 : Below w.heap.size w w2 := b1.trans (gb_below g2 hp b1.size)
  have hpl := rdr_lt R2
  clear N1 R1 e0 hR
  dsimp only at R2 ⊢
  have uM : Below w2.heap.size w2 (w2.alloc (.cells (mz l.length) 47)) := (Below.refl _ _).alloc (Nat.le_refl _) _
  have R3 := rdr_later R2 uM
  have B3 : Below w.heap.size w (w2.alloc (.cells (mz l.length) 47)) := B2.alloc B2.size _
  have A3 : ∀ j, j < l.length → At4 (w2.alloc (.cells (mz l.length) 47)) w2.heap.size (j * 4) (pick l 0 j) := fun j hj => by
    have := mz_at w2 l.length j hj
    unfold pick
    rw [if_neg (by omega)]
    exact this
  have F3 : ∃ cs, Cbox (w2.alloc (.cells (mz l.length) 47)) w2.heap.size cs 47 := ⟨_, Cbox.new w2 _ _⟩
  have ngp : w2.heap.size ≠ p := by omega
  have hgw : w.heap.size ≤ w2.heap.size := B2.size
  go_upto_region 6 with fail
  generalize w2.alloc (.cells (mz l.length) 47) = w3 at *
  generalize w2.heap.size = gl at *
  clear uM R2 B2 hmk hpl g2 b1
  go_wp2_with fail
  go_loopw [22] (fun r22 wr => ∃ (i k e : Nat), r22 = .int .i64 (i : Int) ∧ i ≤ l.length ∧ Hid (Rdr wr p bs k e) ∧ Hid (l.drop i = (rdV bs (l.length - i) k e).1 ∧ (K, E) = (rdV bs (l.length - i) k e).2) ∧ Hid (Below w.heap.size w wr) ∧ Hid (∃ cs, Cbox wr gl cs 47) ∧ Hid (∀ j, j < l.length → At4 wr gl (j * 4) (pick l i j))) (fun r22 _ => l.length - (Bk.intOf r22).toNat)
  case atStart => exact ⟨0, k1, e1, rfl, Nat.zero_le _, R3, D1, B3, F3, A3⟩
  case round =>
    obtain ⟨i, k, e, rfl, hi, HR, HD, HB, HF, HA⟩ := hrel
    by_cases hlt : i < l.length
    · have hlt' : (i : Int) < (l.length : Int) := by omega
      have j0 : (0 : Int) ≤ (i : Int) := by omega
      have e5 : IntKind.i64.wrap ((i : Int) + 1) = (i : Int) + 1 := by rw [IntKind.wrap_i64]; omega
      obtain ⟨v, hv⟩ : ∃ v, v = l[i] := ⟨_, rfl⟩
      have hst : v = (tvR bs k e).1 ∧ l.drop (i + 1) = (rdV bs (l.length - (i + 1)) (tvR bs k e).2.1 (tvR bs k e).2.2).1 ∧ (K, E) = (rdV bs (l.length - (i + 1)) (tvR bs k e).2.1 (tvR bs k e).2.2).2 := by
        have h := HD.out
        rw [List.drop_eq_getElem_cons hlt, show l.length - i = (l.length - (i + 1)) + 1 by omega] at h
        simp only [rdV] at h
        have h1 := List.cons.inj h.1
        exact ⟨by rw [hv]; exact h1.1, h1.2, h.2⟩
      have TV := tvr_any p bs k e wr HR.out
      rw [← hst.1] at TV
      have HST : Hid (l.drop (i + 1) = (rdV bs (l.length - (i + 1)) (tvR bs k e).2.1 (tvR bs k e).2.2).1 ∧ (K, E) = (rdV bs (l.length - (i + 1)) (tvR bs k e).2.1 (tvR bs k e).2.2).2) := hst.2
      clear hst
      generalize (tvR bs k e).2.1 = k' at *
      generalize (tvR bs k e).2.2 = e' at *
      have HPICK : Hid (∀ j, j < l.length → pick l (i + 1) j = if j = i then v else pick l i j) := fun j hj => by
        unfold pick
        by_cases hji : j = i
        · subst hji
          rw [if_pos (by omega), if_pos rfl, hv, List.getD_eq_getElem?_getD, List.getElem?_eq_getElem hj]; rfl
        · rw [if_neg hji]
          by_cases h1 : j < i
          · rw [if_pos (by omega), if_pos h1]
          · rw [if_neg (by omega), if_neg h1]
      clear hv HD
      go_wp2_with fail
      refine TV.mono ?_
      rintro x w4 ⟨rfl, R4, g4⟩
      have A4 : ∀ j, j < l.length → At4 w4 gl (j * 4) (pick l i j) := fun j hj => at4_grown (HA.out j hj) g4 (by simpa using ngp)
      obtain ⟨cs, F4⟩ : ∃ cs, Cbox w4 gl cs 47 := by obtain ⟨cs, h⟩ := HF.out; exact ⟨cs, cbox_grown h g4 (by simpa using ngp)⟩
      have B4 : Below w.heap.size w w4 := HB.out.trans (gb_below g4 hp HB.out.size)
      obtain ⟨a0, a1, a2, a3⟩ := A4 i hlt
      have f0 := F4.free (i * 4)
      have f1 := F4.free (i * 4 + 1)
      have f2 := F4.free (i * 4 + 2)
      have f3 := F4.free (i * 4 + 3)
      have gl4 := F4.lt
      have HA4 : Hid (∀ j, j < l.length → At4 w4 gl (j * 4) (pick l i j)) := A4
      have HF4 : Hid (Cbox w4 gl cs 47) := F4
      have HR4 : Hid (Rdr w4 p bs k' e') := R4
      have HB4 : Hid (Below w.heap.size w w4) := B4
      clear A4 F4 R4 B4 HA HF HR HB TV
      have RB4 : RB w4 p bs k' e' gl gl := by
        have hz := (HA4.out 0 (by omega)).1
        rw [Nat.zero_mul] at hz
        exact ⟨HR4.out, ⟨ngp, _, hz⟩, ⟨ngp, _, hz⟩⟩
      go_wp2_with fail
      refine ⟨⟨i + 1, k', e', by rw [cast1], by omega, ?_, HST.out, ?_, ?_, ?_⟩, by simp [Bk.intOf]; omega⟩
      · exact (((((RB4.set1 (j := i * 4) (v := .int .i64 v.k) (fun _ => ⟨_, rfl⟩)).set1 (j := i * 4 + 1) (v := .int .i64 v.n) (fun h => by omega)).set1 (j := i * 4 + 2) (v := .int .i64 v.m) (fun h => by omega)).set1 (j := i * 4 + 3) (v := .string ⟨v.b.toArray⟩) (fun h => by omega))).1
      · exact (((HB4.out.setCell (p := ⟨gl, i * 4, none⟩) hgw _).setCell (p := ⟨gl, i * 4 + 1, none⟩) hgw _).setCell (p := ⟨gl, i * 4 + 2, none⟩) hgw _).setCell (p := ⟨gl, i * 4 + 3, none⟩) hgw _
      · exact ⟨_, heap_setCell_same _ gl _ _ _ _ (heap_setCell_same _ gl _ _ _ _ (heap_setCell_same _ gl _ _ _ _ (heap_setCell_same w4 gl _ _ _ _ HF4.out)))⟩
      · intro j hj
        rw [HPICK.out j hj]
        by_cases hji : j = i
        · subst hji
          rw [if_pos rfl]
          exact at4_set (HA4.out j hlt)
        · rw [if_neg hji]
          exact at4_off _ _ _ _ (HA4.out j hj) (by omega)
    · have hlt' : ¬ (i : Int) < (l.length : Int) := by omega
      have hil : i = l.length := by omega
      have hfin : k = K ∧ e = E := by
        have h := HD.out.2
        rw [hil, Nat.sub_self] at h
        simp only [rdV, Prod.mk.injEq] at h
        exact ⟨h.1.symm, h.2.symm⟩
      obtain ⟨rfl, rfl⟩ := hfin
      have DN := done_any p bs k e wr HR.out
      have HV : Hid (Vs wr (some ⟨gl, 0, none⟩) l) := fun _ => ⟨gl, 0, rfl, fun j hj => by
        have := HA.out j hj
        unfold pick at this
        rw [if_pos (by omega), List.getD_eq_getElem?_getD, List.getElem?_eq_getElem hj] at this
        rw [Nat.zero_add]
        exact this⟩
      clear HD HR HF HA
      rw [hD] at DN
      go_wp2_with fail
      refine DN.mono ?_
      rintro x w5 ⟨rfl, nq, rfl⟩
      have uD : Below wr.heap.size wr (wr.drewN nq) := ⟨rfl, rfl, rfl, Nat.le_refl _, fun _ _ => rfl⟩
      have B5 : Below w.heap.size w (wr.drewN nq) := below_trans HB.out uD
      have RW := HROW.out gl (wr.drewN nq) (hT.later B5) (HV.out.later uD)
      go_wp2_with fail
      refine RW.mono ?_
      rintro x w6 ⟨rfl, b6⟩
      have B6 := below_trans B5 b6
      have V6 := (HV.out.later uD).later b6
      go_wp2
      refine bodyPost_ret_by (v := .tuple #[.slice none 0 0, .int .i64 21]) ?_ rfl ⟨rfl, B6⟩
      simp [results, Tryz.results8, go_sem]

set_option maxRecDepth 20000 in
set_option maxHeartbeats 4000000 in
theorem get_ok (ao : Option Addr) (cap : Nat) (bs : List UInt8) (l : List Va) (k1 e1 K E : Nat) (e0 : rNum bs 0 0 = ((l.length : Int), k1, e1)) (h64 : l.length ≤ 64) (hr : rdV bs l.length k1 e1 = (l, K, E)) (hD : rDone bs K E = 0) (hC : ckE l = 0) (w : World) (hT : Tabs w) (hR : Rd w ao bs.length cap bs) (hlen : bs.length ≤ 140737488351232) :
    Calls Tryz.prog 8 #[.slice ao bs.length cap] w fun e w' => getP (some l) e w' ∧ Below w.heap.size w w' := by
  have hmk := make_run l.length h64
  have D1 : Hid (l.drop 0 = (rdV bs (l.length - 0) k1 e1).1 ∧ (K, E) = (rdV bs (l.length - 0) k1 e1).2) := by
    show _ ∧ _
    rw [Nat.sub_zero, hr]
    exact ⟨rfl, rfl⟩
  have HROW : Hid (∀ g W, Tabs W → Vs W (some ⟨g, 0, none⟩) l → Calls Tryz.prog 25 #[.slice (some ⟨g, 0, none⟩) l.length l.length] W fun e w' => e = .returned (.bool true) ∧ Below W.heap.size W w') := fun g W hTW hV => by
    have := row_any (some ⟨g, 0, none⟩) l.length l W hTW hV (by omega)
    have hc : (ckE l == 0) = true := by simpa using hC
    rwa [hc] at this
  have i1 : ¬ ((l.length : Int)) < 0 := by omega
  have i2 : ¬ (64 : Int) < (l.length : Int) := by omega
  clear hr
  go_enter Tryz.func8, Tryz.ntmps8
  go_wp2_with fail
  refine (newReader_wide ao _ cap bs w hR hlen).mono ?_
  rintro e w1 ⟨p, rfl, hp, R1, b1⟩
  go_wp2_with fail
  have N1 := rNumber_any p bs 0 0 w1 R1
  rw [e0] at N1
  refine N1.mono ?_
  rintro e w2 ⟨rfl, R2, g2⟩
  have B2 : Below w.heap.size w w2 := b1.trans (gb_below g2 hp b1.size)
  have hpl := rdr_lt R2
  clear N1 R1 e0 hR
  dsimp only at R2 ⊢
  have uM : Below w2.heap.size w2 (w2.alloc (.cells (mz l.length) 47)) := (Below.refl _ _).alloc (Nat.le_refl _) _
  have R3 := rdr_later R2 uM
  have B3 : Below w.heap.size w (w2.alloc (.cells (mz l.length) 47)) := B2.alloc B2.size _
  have A3 : ∀ j, j < l.length → At4 (w2.alloc (.cells (mz l.length) 47)) w2.heap.size (j * 4) (pick l 0 j) := fun j hj => by
    have := mz_at w2 l.length j hj
    unfold pick
    rw [if_neg (by omega)]
    exact this
  have F3 : ∃ cs, Cbox (w2.alloc (.cells (mz l.length) 47)) w2.heap.size cs 47 := ⟨_, Cbox.new w2 _ _⟩
  have ngp : w2.heap.size ≠ p := by omega
  have hgw : w.heap.size ≤ w2.heap.size := B2.size
  go_upto_region 6 with fail
  generalize w2.alloc (.cells (mz l.length) 47) = w3 at *
  generalize w2.heap.size = gl at *
  clear uM R2 B2 hmk hpl g2 b1
  go_wp2_with fail
  go_loopw [22] (fun r22 wr => ∃ (i k e : Nat), r22 = .int .i64 (i : Int) ∧ i ≤ l.length ∧ Hid (Rdr wr p bs k e) ∧ Hid (l.drop i = (rdV bs (l.length - i) k e).1 ∧ (K, E) = (rdV bs (l.length - i) k e).2) ∧ Hid (Below w.heap.size w wr) ∧ Hid (∃ cs, Cbox wr gl cs 47) ∧ Hid (∀ j, j < l.length → At4 wr gl (j * 4) (pick l i j))) (fun r22 _ => l.length - (Bk.intOf r22).toNat)
  case atStart => exact ⟨0, k1, e1, rfl, Nat.zero_le _, R3, D1, B3, F3, A3⟩
  case round =>
    obtain ⟨i, k, e, rfl, hi, HR, HD, HB, HF, HA⟩ := hrel
    by_cases hlt : i < l.length
    · have hlt' : (i : Int) < (l.length : Int) := by omega
      have j0 : (0 : Int) ≤ (i : Int) := by omega
      have e5 : IntKind.i64.wrap ((i : Int) + 1) = (i : Int) + 1 := by rw [IntKind.wrap_i64]; omega
      obtain ⟨v, hv⟩ : ∃ v, v = l[i] := ⟨_, rfl⟩
      have hst : v = (tvR bs k e).1 ∧ l.drop (i + 1) = (rdV bs (l.length - (i + 1)) (tvR bs k e).2.1 (tvR bs k e).2.2).1 ∧ (K, E) = (rdV bs (l.length - (i + 1)) (tvR bs k e).2.1 (tvR bs k e).2.2).2 := by
        have h := HD.out
        rw [List.drop_eq_getElem_cons hlt, show l.length - i = (l.length - (i + 1)) + 1 by omega] at h
        simp only [rdV] at h
        have h1 := List.cons.inj h.1
        exact ⟨by rw [hv]; exact h1.1, h1.2, h.2⟩
      have TV := tvr_any p bs k e wr HR.out
      rw [← hst.1] at TV
      have HST : Hid (l.drop (i + 1) = (rdV bs (l.length - (i + 1)) (tvR bs k e).2.1 (tvR bs k e).2.2).1 ∧ (K, E) = (rdV bs (l.length - (i + 1)) (tvR bs k e).2.1 (tvR bs k e).2.2).2) := hst.2
      clear hst
      generalize (tvR bs k e).2.1 = k' at *
      generalize (tvR bs k e).2.2 = e' at *
      have HPICK : Hid (∀ j, j < l.length → pick l (i + 1) j = if j = i then v else pick l i j) := fun j hj => by
        unfold pick
        by_cases hji : j = i
        · subst hji
          rw [if_pos (by omega), if_pos rfl, hv, List.getD_eq_getElem?_getD, List.getElem?_eq_getElem hj]; rfl
        · rw [if_neg hji]
          by_cases h1 : j < i
          · rw [if_pos (by omega), if_pos h1]
          · rw [if_neg (by omega), if_neg h1]
      clear hv HD
      go_wp2_with fail
      refine TV.mono ?_
      rintro x w4 ⟨rfl, R4, g4⟩
      have A4 : ∀ j, j < l.length → At4 w4 gl (j * 4) (pick l i j) := fun j hj => at4_grown (HA.out j hj) g4 (by simpa using ngp)
      obtain ⟨cs, F4⟩ : ∃ cs, Cbox w4 gl cs 47 := by obtain ⟨cs, h⟩ := HF.out; exact ⟨cs, cbox_grown h g4 (by simpa using ngp)⟩
      have B4 : Below w.heap.size w w4 := HB.out.trans (gb_below g4 hp HB.out.size)
      obtain ⟨a0, a1, a2, a3⟩ := A4 i hlt
      have f0 := F4.free (i * 4)
      have f1 := F4.free (i * 4 + 1)
      have f2 := F4.free (i * 4 + 2)
      have f3 := F4.free (i * 4 + 3)
      have gl4 := F4.lt
      have HA4 : Hid (∀ j, j < l.length → At4 w4 gl (j * 4) (pick l i j)) := A4
      have HF4 : Hid (Cbox w4 gl cs 47) := F4
      have HR4 : Hid (Rdr w4 p bs k' e') := R4
      have HB4 : Hid (Below w.heap.size w w4) := B4
      clear A4 F4 R4 B4 HA HF HR HB TV
      have RB4 : RB w4 p bs k' e' gl gl := by
        have hz := (HA4.out 0 (by omega)).1
        rw [Nat.zero_mul] at hz
        exact ⟨HR4.out, ⟨ngp, _, hz⟩, ⟨ngp, _, hz⟩⟩
      go_wp2_with fail
      refine ⟨⟨i + 1, k', e', by rw [cast1], by omega, ?_, HST.out, ?_, ?_, ?_⟩, by simp [Bk.intOf]; omega⟩
      · exact (((((RB4.set1 (j := i * 4) (v := .int .i64 v.k) (fun _ => ⟨_, rfl⟩)).set1 (j := i * 4 + 1) (v := .int .i64 v.n) (fun h => by omega)).set1 (j := i * 4 + 2) (v := .int .i64 v.m) (fun h => by omega)).set1 (j := i * 4 + 3) (v := .string ⟨v.b.toArray⟩) (fun h => by omega))).1
      · exact (((HB4.out.setCell (p := ⟨gl, i * 4, none⟩) hgw _).setCell (p := ⟨gl, i * 4 + 1, none⟩) hgw _).setCell (p := ⟨gl, i * 4 + 2, none⟩) hgw _).setCell (p := ⟨gl, i * 4 + 3, none⟩) hgw _
      · exact ⟨_, heap_setCell_same _ gl _ _ _ _ (heap_setCell_same _ gl _ _ _ _ (heap_setCell_same _ gl _ _ _ _ (heap_setCell_same w4 gl _ _ _ _ HF4.out)))⟩
      · intro j hj
        rw [HPICK.out j hj]
        by_cases hji : j = i
        · subst hji
          rw [if_pos rfl]
          exact at4_set (HA4.out j hlt)
        · rw [if_neg hji]
          exact at4_off _ _ _ _ (HA4.out j hj) (by omega)
    · have hlt' : ¬ (i : Int) < (l.length : Int) := by omega
      have hil : i = l.length := by omega
      have hfin : k = K ∧ e = E := by
        have h := HD.out.2
        rw [hil, Nat.sub_self] at h
        simp only [rdV, Prod.mk.injEq] at h
        exact ⟨h.1.symm, h.2.symm⟩
      obtain ⟨rfl, rfl⟩ := hfin
      have DN := done_any p bs k e wr HR.out
      have HV : Hid (Vs wr (some ⟨gl, 0, none⟩) l) := fun _ => ⟨gl, 0, rfl, fun j hj => by
        have := HA.out j hj
        unfold pick at this
        rw [if_pos (by omega), List.getD_eq_getElem?_getD, List.getElem?_eq_getElem hj] at this
        rw [Nat.zero_add]
        exact this⟩
      clear HD HR HF HA
      rw [hD] at DN
      go_wp2_with fail
      refine DN.mono ?_
      rintro x w5 ⟨rfl, nq, rfl⟩
      have uD : Below wr.heap.size wr (wr.drewN nq) := ⟨rfl, rfl, rfl, Nat.le_refl _, fun _ _ => rfl⟩
      have B5 : Below w.heap.size w (wr.drewN nq) := below_trans HB.out uD
      have RW := HROW.out gl (wr.drewN nq) (hT.later B5) (HV.out.later uD)
      go_wp2_with fail
      refine RW.mono ?_
      rintro x w6 ⟨rfl, b6⟩
      have B6 := below_trans B5 b6
      have V6 := (HV.out.later uD).later b6
      go_wp2
      refine bodyPost_ret_by (v := .tuple #[.slice (some ⟨gl, 0, none⟩) l.length l.length, .int .i64 0]) ?_ rfl ⟨⟨gl, rfl, V6⟩, B6⟩
      simp [results, Tryz.results8, go_sem]

/-- datum.Get of whatever bytes. -/
theorem get_all (ao : Option Addr) (cap : Nat) (bs : List UInt8) (w : World) (hT : Tabs w) (hR : Rd w ao bs.length cap bs) (hlen : bs.length ≤ 140737488351232) :
    Calls Tryz.prog 8 #[.slice ao bs.length cap] w fun e w' => getP (gget bs) e w' ∧ Below w.heap.size w w' := by
  unfold gget
  rcases h0 : rNum bs 0 0 with ⟨n, k1, e1⟩
  dsimp only
  by_cases hn : n < 0
  · rw [if_pos (.inl hn)]; exact get_neg ao cap bs n k1 e1 h0 hn w hR hlen
  by_cases hb : 64 < n
  · rw [if_pos (.inr hb)]; exact get_big ao cap bs n k1 e1 h0 hb w hR hlen
  rw [if_neg (by omega)]
  obtain ⟨N, rfl⟩ : ∃ N : Nat, n = (N : Int) := ⟨n.toNat, by omega⟩
  rw [Int.toNat_natCast]
  have hl := rdV_len bs N k1 e1
  rcases hr : rdV bs N k1 e1 with ⟨l, K, E⟩
  rw [hr] at hl
  dsimp only at hl ⊢
  subst hl
  by_cases hD : rDone bs K E = 0
  · by_cases hC : ckE l = 0
    · rw [if_pos ⟨hD, hC⟩]; exact get_ok ao cap bs l k1 e1 K E h0 (by omega) hr hD hC w hT hR hlen
    · rw [if_neg (fun c => hC c.2)]; exact get_row ao cap bs l k1 e1 K E h0 (by omega) hr hD hC w hT hR hlen
  · rw [if_neg (fun c => hD c.1)]; exact get_done ao cap bs l k1 e1 K E h0 (by omega) hr hD w hR hlen
end Go.Proofs.YtafmchgncahafaaGreatDoor.By
