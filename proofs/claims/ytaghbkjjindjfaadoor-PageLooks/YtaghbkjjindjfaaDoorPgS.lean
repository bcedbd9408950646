/-
  The contract of page.slots: an iterator over what a page's bytes tell of its slots.
-/
import Derived.RangeFuncNested
import Derived.RangeFuncCalls
import Derived.RangeFuncLeaves
import Derived.RangeFuncBox
import Derived.Shelf.Abstract
import Derived.WalkKit
import Derived.OwnWalkIn
import Derived.TacticsInMore
import Derived.LoopNIn
import Derived.LoopIn
import Derived.Maps.AppendAt
import Derived.Test.YtaghbkjjindjfaaDoorPgW2
namespace Go.Proofs.YtaghbkjjindjfaaDoor
open Go.RowKit Go.Shelf

attribute [local go_sem] Oper.semAt_some

/-! ### what is told, as plain data -/
def cnAt (b off : Nat) (bs : List UInt8) (i : Nat) : Cn :=
  if fld bs (2 + 4 * i) = 0 then Cn.z else ⟨true, some ⟨b, if fld bs (4 + 4 * i) = 0 then off else off + fld bs (2 + 4 * i), none⟩, fld bs (4 + 4 * i), fld bs (4 + 4 * i)⟩
def upto (b off : Nat) (bs : List UInt8) (k : Nat) : List (Nat × Cn) := (List.range k).map fun i => (i, cnAt b off bs i)
theorem upto_succ (b off : Nat) (bs : List UInt8) (k : Nat) : upto b off bs (k + 1) = upto b off bs k ++ [(k, cnAt b off bs k)] := by simp [upto, List.range_succ]
theorem upto_length (b off : Nat) (bs : List UInt8) (k : Nat) : (upto b off bs k).length = k := by simp [upto]
theorem rdGo_at (bs : List UInt8) : ∀ (f i : Nat), (∀ j (h : j < (rdGo bs f i).length), slotAt bs (i + j) = some (rdGo bs f i)[j]) ∧ ((rdGo bs f i).length < f → slotAt bs (i + (rdGo bs f i).length) = none) := by
  intro f
  induction f with
  | zero => intro i; exact ⟨fun j h => by simp [rdGo] at h, fun h => by simp [rdGo] at h⟩
  | succ f ih =>
    intro i
    cases e : slotAt bs i with
    | none =>
      have e2 : rdGo bs (f + 1) i = [] := by simp [rdGo, e]
      rw [e2]
      exact ⟨fun j h => by simp at h, fun _ => by simpa using e⟩
    | some s =>
      have e2 : rdGo bs (f + 1) i = s :: rdGo bs f (i + 1) := by simp [rdGo, e]
      have h2 := ih (i + 1)
      rw [e2]
      refine ⟨fun j h => ?_, fun h => ?_⟩
      · cases j with
        | zero => simpa using e
        | succ j =>
          have := h2.1 j (by simp at h; omega)
          simpa [Nat.add_assoc, Nat.add_comm 1] using this
      · have := h2.2 (by simp at h; omega)
        simpa [Nat.add_assoc, Nat.add_comm 1] using this
theorem rdS_at (bs : List UInt8) (j : Nat) (h : j < (rdS bs).length) : slotAt bs j = some (rdS bs)[j] := by
  have := (rdGo_at bs (cnt bs) 0).1 j h
  rw [Nat.zero_add] at this
  exact this
theorem rdS_end (bs : List UInt8) (h : (rdS bs).length < cnt bs) : slotAt bs (rdS bs).length = none := by
  have := (rdGo_at bs (cnt bs) 0).2 h
  rw [Nat.zero_add] at this
  exact this
theorem rdS_le (bs : List UInt8) : (rdS bs).length ≤ cnt bs := rdGo_len bs _ _
theorem cnt_le (bs : List UInt8) : cnt bs ≤ 125 := by unfold cnt; omega
theorem slotAt_none (bs : List UInt8) (i : Nat) : slotAt bs i = none ↔ 504 < fld bs (2 + 4 * i) + fld bs (4 + 4 * i) := by
  unfold slotAt; split <;> simp [*]
theorem bt_get (bs : List UInt8) (k : Nat) (h : k < bs.length) : bt bs k = bs[k].toNat := by simp [bt, h]
theorem grown_of_below {w w' : World} (h : Below w.heap.size w w') : w.grownBy w' none := ⟨h.os, h.tape, h.output, h.size, fun k hk _ => h.block k hk⟩

theorem Rd.low {w w' : World} {b off n cap n₀ : Nat} {bs : List UInt8} (h : Rd w (some ⟨b, off, none⟩) n cap bs) (hb : Below n₀ w w') (hl : b < n₀) : Rd w' (some ⟨b, off, none⟩) n cap bs := by
  refine h.kept fun b' off' e _ => ?_
  cases e
  exact hb.block b hl

/-- What a round keeps: what lay below n₀, and the block Bp. -/
def Kb (n₀ Bp : Nat) (W W' : World) : Prop := Below n₀ W W' ∧ W'.heap[Bp]? = W.heap[Bp]?
theorem Kb.refl (n₀ Bp : Nat) (W : World) : Kb n₀ Bp W W := ⟨Below.refl _ _, rfl⟩
theorem Kb.trans {n₀ Bp : Nat} {A B C : World} (h : Kb n₀ Bp A B) (k : Kb n₀ Bp B C) : Kb n₀ Bp A C := ⟨h.1.trans k.1, k.2.trans h.2⟩
theorem Kb.of {n₀ Bp D : Nat} {W W' : World} (h : Below D W W') (h1 : n₀ ≤ D) (h2 : Bp < D) : Kb n₀ Bp W W' := ⟨h.mono h1, h.block Bp h2⟩
theorem Kb.cell {n₀ Bp : Nat} {W W' : World} (h : Kb n₀ Bp W W') : W'.cell? ⟨Bp, 0, none⟩ = W.cell? ⟨Bp, 0, none⟩ := World.cell?_of_block (w := W) (a := ⟨Bp, 0, none⟩) h.2
theorem Kb.put {n₀ Bp : Nat} {w : World} (hn : n₀ ≤ w.heap.size) (hB : Bp < w.heap.size) (W : World) (l : Nat) (o o' : Obj) (hl : w.heap.size ≤ l) (h : W.heap[l]? = some o) (h1 : o.isCells = false) (h2 : o.isWalk = false) : Kb n₀ Bp W (W.putObj l o') :=
  ⟨belowK_b hn W l o o' hl h h1 h2, World.putObj_heap_other (by omega)⟩

/-- takeNumber of a cut of two bytes. -/
theorem fld_rd {w : World} {b off cap : Nat} {bs : List UInt8} (h : Rd w (some ⟨b, off, none⟩) 512 cap bs) (k : Nat) (hk : k + 2 ≤ 512) :
    Calls Tryd.prog 38 #[.slice (some ⟨b, off + k, none⟩) 2 2] w fun e w' => e = .returned (.int .i64 (fld bs k : Int)) ∧ Below w.heap.size w w' := by
  obtain ⟨b', off', e', hc⟩ := h.2.2.2.2 (by omega)
  cases e'
  have hl := h.1
  have c0 := hc k (by omega)
  have c1 := hc (k + 1) (by omega)
  have e : fld bs k = 256 * bs[k].toNat + bs[k + 1].toNat := by unfold fld; rw [bt_get bs k (by omega), bt_get bs (k + 1) (by omega)]
  rw [e]
  exact takeNumber_any b (off + k) _ _ w c0 c1

set_option maxRecDepth 100000 in
set_option maxHeartbeats 4000000 in
theorem slots1_in (n : Nat) (hn : 1 ≤ n) (l Bp n₀ b off cap : Nat) (bs : List UInt8) (hb : b < n₀) (J Jx : List (Nat × Cn) → World → Prop) (W : World) (hJ : AbidesFrom W.heap.size J) (hBp : Bp < W.heap.size) (hn0 : n₀ ≤ W.heap.size)
    (P : Nat × Cn → Prop) (hPi : ∀ i, i < (rdS bs).length → P (i, cnAt b off bs i))
    (hY : ∀ pre (x : Nat × Cn) W, J pre W → pre.length < 125 → P x → YieldAt Fence.wide (n - 1) Tryd.prog l #[.int .i64 (x.1 : Int), .agg #[.bool x.2.t, .slice x.2.ao x.2.n x.2.cap]] W fun e W' =>
      (e = .returned (.bool true) ∧ J (pre ++ [x]) W' ∧ Kb n₀ Bp W W') ∨ (e = .returned (.bool false) ∧ Jx (pre ++ [x]) W'))
    (hp : W.cell? ⟨Bp, 0, none⟩ = some (.slice (some ⟨b, off, none⟩) 512 cap)) (hR : Rd W (some ⟨b, off, none⟩) 512 cap bs) (h0 : J [] W) :
    CallsIn Fence.wide n Tryd.prog 37 #[.func (.yield l) #[] #[], .pointer (some ⟨Bp, 0, none⟩)] W fun e W' => (∃ v, e = .returned v) ∧
      ((∃ ys, ys = upto b off bs (rdS bs).length ∧ J ys W') ∨ (∃ pre, (∃ k, k ≤ (rdS bs).length ∧ pre = upto b off bs k) ∧ Jx pre W')) := by
  refine callsIn_of_wp Tryd.func37 rfl trivial ?_ rfl
  simp only [Tryd.ntmps37, List.size_toArray, List.length_cons, List.length_nil, Nat.reduceAdd, Nat.reduceSub, Array.replicate_succ, Array.replicate_zero, List.push_toArray, List.append_toArray, List.nil_append, List.cons_append]
  have hcap := hR.2.1
  have hcm := hR.2.2.1
  have C0 : Calls Tryd.prog 39 #[.slice (some ⟨b, off, none⟩) 512 cap, .int .i64 0, .int .i64 2] W fun e w' => e = .returned (.slice (some ⟨b, off, none⟩) 2 2) ∧ W = w' := by
    have := cut_any b off 512 cap 0 2 W hcap hcm (by omega)
    simpa using this
  have T0 := fld_rd hR 0 (by omega)
  rw [Nat.add_zero] at T0
  have hc125 := cnt_le bs
  have hmin : cnt bs = min (fld bs 0) 125 := rfl
  obtain ⟨N, hN⟩ : ∃ N, cnt bs = N := ⟨_, rfl⟩
  rw [hN] at hc125 hmin
  have HN : Hid (cnt bs = N) := hN
  clear hN
  gi_wp2_with fail
  refine ⟨trivial, (callsIn_wide.2 C0).mono ?_⟩
  rintro e w' ⟨rfl, rfl⟩
  gi_wp2_with fail
  refine ⟨trivial, (callsIn_wide.2 T0).mono ?_⟩
  rintro e w1 ⟨rfl, b1⟩
  have J1 := hJ [] W w1 none h0 (grown_of_below b1) (fun r e => by cases e)
  clear T0 C0
  by_cases hle : fld bs 0 ≤ 125
  · have hle' : ((fld bs 0 : Nat) : Int) ≤ 125 := by omega
    have e0 : fld bs 0 = N := by omega
    rw [e0] at hle' ⊢
    clear hmin hle e0
    gi_wp2_with fail
    gi_loopw [14] (fun i wr => ∃ k : Nat, k ≤ N ∧ i = .int .i64 k ∧ Hid (k ≤ (rdS bs).length) ∧ J (upto b off bs k) wr ∧ Kb n₀ Bp W wr ∧ W.heap.size ≤ wr.heap.size)
      (fun i _ => N - (intOf i).toNat)
    case atStart => exact ⟨0, Nat.zero_le _, rfl, Nat.zero_le _, J1, Kb.of b1 hn0 hBp, b1.size⟩
    case round =>
      clear J1 b1 h0
      obtain ⟨k, hk, rfl, hkl, hJs, hnx, hsz⟩ := hrel
      have hp' : wr.cell? ⟨Bp, 0, none⟩ = some (.slice (some ⟨b, off, none⟩) 512 cap) := hnx.cell.trans hp
      have hR' : Rd wr (some ⟨b, off, none⟩) 512 cap bs := hR.low hnx.1 hb
      by_cases hlt : k < N
      · have C1 : ∀ w, Calls Tryd.prog 39 #[.slice (some ⟨b, off, none⟩) 512 cap, .int .i64 (2 + (k : Int) * 4), .int .i64 4] w fun e w' => e = .returned (.slice (some ⟨b, off + (2 + 4 * k), none⟩) 4 4) ∧ w = w' := fun w => by
          have := cut_any b off 512 cap (2 + 4 * k) 4 w hcap hcm (by omega)
          rw [if_neg (by omega), show ((2 + 4 * k : Nat) : Int) = 2 + (k : Int) * 4 from by omega] at this
          exact this
        have C2 : ∀ w, Calls Tryd.prog 39 #[.slice (some ⟨b, off + (2 + 4 * k), none⟩) 4 4, .int .i64 0, .int .i64 2] w fun e w' => e = .returned (.slice (some ⟨b, off + (2 + 4 * k), none⟩) 2 2) ∧ w = w' := fun w => by
          have := cut_any b (off + (2 + 4 * k)) 4 4 0 2 w (by omega) (by decide) (by omega)
          rw [if_neg (by omega), Nat.add_zero] at this
          exact this
        have C3 : ∀ w, Calls Tryd.prog 39 #[.slice (some ⟨b, off + (2 + 4 * k), none⟩) 4 4, .int .i64 2, .int .i64 2] w fun e w' => e = .returned (.slice (some ⟨b, off + (4 + 4 * k), none⟩) 2 2) ∧ w = w' := fun w => by
          have := cut_any b (off + (2 + 4 * k)) 4 4 2 2 w (by omega) (by decide) (by omega)
          rw [if_neg (by omega), show off + (2 + 4 * k) + 2 = off + (4 + 4 * k) from by omega] at this
          exact this
        have T1 := fld_rd hR' (2 + 4 * k) (by omega)
        have hla := fld_lt bs (2 + 4 * k)
        have hln := fld_lt bs (4 + 4 * k)
        have hca : Hid (cnAt b off bs k = if fld bs (2 + 4 * k) = 0 then Cn.z else ⟨true, some ⟨b, if fld bs (4 + 4 * k) = 0 then off else off + fld bs (2 + 4 * k), none⟩, fld bs (4 + 4 * k), fld bs (4 + 4 * k)⟩) := rfl
        have hsl : Hid (504 < fld bs (2 + 4 * k) + fld bs (4 + 4 * k) ↔ (rdS bs).length = k) := by
          rw [← slotAt_none]
          constructor
          · intro h
            rcases Nat.lt_or_ge k (rdS bs).length with h' | h'
            · rw [rdS_at bs k h'] at h; cases h
            · have := hkl.out; omega
          · intro h
            have := rdS_end bs (by rw [h, HN.out]; exact hlt)
            rwa [h] at this
        gi_wp2_with fail
        refine ⟨trivial, (callsIn_wide.2 (C1 _)).mono ?_⟩
        rintro e w' ⟨rfl, rfl⟩
        gi_wp2_with fail
        refine ⟨trivial, (callsIn_wide.2 (C2 _)).mono ?_⟩
        rintro e w' ⟨rfl, rfl⟩
        gi_wp2_with fail
        refine ⟨trivial, (callsIn_wide.2 T1).mono ?_⟩
        rintro e w2 ⟨rfl, b2⟩
        clear T1
        have J2 := hJ _ wr w2 none hJs (grown_of_below b2) (fun r e => by cases e)
        have hn2 := hnx.trans (Kb.of b2 (by omega) (by omega))
        have hz2 := Nat.le_trans hsz b2.size
        have T2 := fld_rd (hR'.later b2) (4 + 4 * k) (by omega)
        clear hJs hnx hsz hR' hp' b2
        gi_wp2_with fail
        refine ⟨trivial, (callsIn_wide.2 (C3 _)).mono ?_⟩
        rintro e w' ⟨rfl, rfl⟩
        gi_wp2_with fail
        refine ⟨trivial, (callsIn_wide.2 T2).mono ?_⟩
        rintro e w3 ⟨rfl, b3⟩
        clear T2 C1 C2 C3
        have J3 := hJ _ w2 w3 none J2 (grown_of_below b3) (fun r e => by cases e)
        have hn3 := hn2.trans (Kb.of b3 (by omega) (by omega))
        have hz3 := Nat.le_trans hz2 b3.size
        have hp3 : w3.cell? ⟨Bp, 0, none⟩ = some (.slice (some ⟨b, off, none⟩) 512 cap) := hn3.cell.trans hp
        clear J2 hn2 hz2 b3
        generalize fld bs (2 + 4 * k) = a at *
        generalize fld bs (4 + 4 * k) = m at *
        by_cases hov : 504 < a + m
        · have hov' : (504 : Int) < (a : Int) + (m : Int) := by omega
          have hke := hsl.out.1 hov
          gi_wp2
          refine bodyPost_ret (results_none rfl _ _ _) rfl ?_
          exact ⟨⟨_, rfl⟩, .inl ⟨_, by rw [hke], J3⟩⟩
        · have hov' : (a : Int) + (m : Int) ≤ 504 := by omega
          have hklt : k < (rdS bs).length := by
            rcases Nat.lt_or_ge k (rdS bs).length with h' | h'
            · exact h'
            · exact absurd (hsl.out.2 (by have := hkl.out; omega)) hov
          have HKL : Hid (k + 1 ≤ (rdS bs).length) := hklt
          clear hklt hsl hkl
          by_cases ha : a = 0
          · subst ha
            have hca' : cnAt b off bs k = Cn.z := by have := hca.out; simpa using this
            have HCA : Hid (cnAt b off bs k = Cn.z) := hca'
            have A4 : Below w3.heap.size w3 (w3.alloc (.cells #[.bool false, .slice none 0 0] 49)) := (Below.refl _ _).alloc (Nat.le_refl _) _
            have J4 := hJ _ w3 _ none J3 (grown_of_below A4) (fun r e => by cases e)
            obtain ⟨fn, tmps, assign, body, hy, hRd⟩ := hY _ (k, Cn.z) _ J4 (by rw [upto_length]; omega) (by have := hPi k HKL.out; rw [HCA.out] at this; exact this)
            dsimp only [Cn.z] at hy
            clear hca'
            gi_wp2
            refine hRd.mono ?_
            rintro e W5 (⟨rfl, hJ5, hk5⟩ | ⟨rfl, hJx5⟩)
            · gi_wp2
              go_roundw
              case rel => exact ⟨k + 1, by omega, by go_num, HKL.out, by rw [upto_succ, HCA.out]; exact hJ5, (hn3.trans (Kb.of A4 (by omega) (by omega))).trans hk5, by have := hk5.1.size; have h2 := A4.size; omega⟩
              case measure => simp [intOf]; omega
            · gi_wp2
              refine bodyPost_ret (results_none rfl _ _ _) rfl ?_
              exact ⟨⟨_, rfl⟩, .inr ⟨_, ⟨k + 1, HKL.out, by rw [upto_succ, HCA.out]⟩, hJx5⟩⟩
          · have ha' : (0 : Int) < (a : Int) := by omega
            have hca' : cnAt b off bs k = ⟨true, some ⟨b, if m = 0 then off else off + a, none⟩, m, m⟩ := by have := hca.out; rw [if_neg ha] at this; exact this
            have HCA : Hid (cnAt b off bs k = ⟨true, some ⟨b, if m = 0 then off else off + a, none⟩, m, m⟩) := hca'
            clear hca' hca
            have C4 := fun w => cut_any b off 512 cap a m w hcap hcm (by omega)
            have A4 : Below w3.heap.size w3 (w3.alloc (.cells #[.bool false, .slice none 0 0] 49)) := (Below.refl _ _).alloc (Nat.le_refl _) _
            have hp4 : (w3.alloc (.cells #[.bool false, .slice none 0 0] 49)).cell? ⟨Bp, 0, none⟩ = some (.slice (some ⟨b, off, none⟩) 512 cap) := (A4.cell (p := ⟨Bp, 0, none⟩) (by show Bp < _; omega)).trans hp3
            generalize (if m = 0 then off else off + a) = oo at *
            gi_wp2_with fail
            refine ⟨trivial, (callsIn_wide.2 (C4 _)).mono ?_⟩
            rintro e w' ⟨rfl, rfl⟩
            clear C4
            gi_wp2_with fail
            refine ⟨trivial, (callsIn_wide.2 (holding_any _ _ _ _)).mono ?_⟩
            rintro e w4 ⟨rfl, b4⟩
            have hal : w3.heap.size < (w3.alloc (.cells #[.bool false, .slice none 0 0] 49)).heap.size := by simp
            have x0 : w4.cell? ⟨w3.heap.size, 0, none⟩ = some (.bool false) := (b4.cell (p := ⟨w3.heap.size, 0, none⟩) hal).trans (by simp)
            have x1 : w4.cell? ⟨w3.heap.size, 1, none⟩ = some (.slice none 0 0) := (b4.cell (p := ⟨w3.heap.size, 1, none⟩) hal).trans (by simp)
            have y0 : w4.frozen? ⟨w3.heap.size, 0, none⟩ = false := (b4.frozen (p := ⟨w3.heap.size, 0, none⟩) hal).trans (by simp)
            have y1 : w4.frozen? ⟨w3.heap.size, 1, none⟩ = false := (b4.frozen (p := ⟨w3.heap.size, 1, none⟩) hal).trans (by simp)
            have B5 : Below w3.heap.size w3 ((w4.setCell ⟨w3.heap.size, 0, none⟩ (.bool true)).setCell ⟨w3.heap.size, 1, none⟩ (.slice (some ⟨b, oo, none⟩) m m)) := ((A4.trans (b4.mono (by omega))).setCell (p := ⟨w3.heap.size, 0, none⟩) (Nat.le_refl _) _).setCell (p := ⟨w3.heap.size, 1, none⟩) (Nat.le_refl _) _
            have J4 := hJ _ w3 _ none J3 (grown_of_below B5) (fun r e => by cases e)
            obtain ⟨fn, tmps, assign, body, hy, hRd⟩ := hY _ (k, ⟨true, some ⟨b, oo, none⟩, m, m⟩) _ J4 (by rw [upto_length]; omega) (by have := hPi k HKL.out; rw [HCA.out] at this; exact this)
            dsimp only at hy
            clear b4 A4 hal hp4
            gi_wp2
            refine hRd.mono ?_
            rintro e W5 (⟨rfl, hJ5, hk5⟩ | ⟨rfl, hJx5⟩)
            · gi_wp2
              go_roundw
              case rel => exact ⟨k + 1, by omega, by go_num, HKL.out, by rw [upto_succ, HCA.out]; exact hJ5, (hn3.trans (Kb.of B5 (by omega) (by omega))).trans hk5, by have := hk5.1.size; have h2 := B5.size; omega⟩
              case measure => simp [intOf]; omega
            · gi_wp2
              refine bodyPost_ret (results_none rfl _ _ _) rfl ?_
              exact ⟨⟨_, rfl⟩, .inr ⟨_, ⟨k + 1, HKL.out, by rw [upto_succ, HCA.out]⟩, hJx5⟩⟩
      · obtain rfl : k = N := by omega
        have hke : (rdS bs).length = k := by have h1 := hkl.out; have h2 := rdS_le bs; rw [HN.out] at h2; omega
        gi_wp2
        go_end0
        exact ⟨⟨_, rfl⟩, .inl ⟨_, by rw [hke], hJs⟩⟩
  · have hle' : 125 < ((fld bs 0 : Nat) : Int) := by omega
    have e0 : (125 : Int) = (N : Int) := by omega
    have hf0 : (N : Int) < ((fld bs 0 : Nat) : Int) := by omega
    clear hmin hle
    generalize fld bs 0 = f0 at *
    gi_wp2_with fail
    try rw [e0]
    gi_loopw [14] (fun i wr => ∃ k : Nat, k ≤ N ∧ i = .int .i64 k ∧ Hid (k ≤ (rdS bs).length) ∧ J (upto b off bs k) wr ∧ Kb n₀ Bp W wr ∧ W.heap.size ≤ wr.heap.size)
      (fun i _ => N - (intOf i).toNat)
    case atStart => exact ⟨0, Nat.zero_le _, rfl, Nat.zero_le _, J1, Kb.of b1 hn0 hBp, b1.size⟩
    case round =>
      clear J1 b1 h0
      obtain ⟨k, hk, rfl, hkl, hJs, hnx, hsz⟩ := hrel
      have hp' : wr.cell? ⟨Bp, 0, none⟩ = some (.slice (some ⟨b, off, none⟩) 512 cap) := hnx.cell.trans hp
      have hR' : Rd wr (some ⟨b, off, none⟩) 512 cap bs := hR.low hnx.1 hb
      by_cases hlt : k < N
      · have C1 : ∀ w, Calls Tryd.prog 39 #[.slice (some ⟨b, off, none⟩) 512 cap, .int .i64 (2 + (k : Int) * 4), .int .i64 4] w fun e w' => e = .returned (.slice (some ⟨b, off + (2 + 4 * k), none⟩) 4 4) ∧ w = w' := fun w => by
          have := cut_any b off 512 cap (2 + 4 * k) 4 w hcap hcm (by omega)
          rw [if_neg (by omega), show ((2 + 4 * k : Nat) : Int) = 2 + (k : Int) * 4 from by omega] at this
          exact this
        have C2 : ∀ w, Calls Tryd.prog 39 #[.slice (some ⟨b, off + (2 + 4 * k), none⟩) 4 4, .int .i64 0, .int .i64 2] w fun e w' => e = .returned (.slice (some ⟨b, off + (2 + 4 * k), none⟩) 2 2) ∧ w = w' := fun w => by
          have := cut_any b (off + (2 + 4 * k)) 4 4 0 2 w (by omega) (by decide) (by omega)
          rw [if_neg (by omega), Nat.add_zero] at this
          exact this
        have C3 : ∀ w, Calls Tryd.prog 39 #[.slice (some ⟨b, off + (2 + 4 * k), none⟩) 4 4, .int .i64 2, .int .i64 2] w fun e w' => e = .returned (.slice (some ⟨b, off + (4 + 4 * k), none⟩) 2 2) ∧ w = w' := fun w => by
          have := cut_any b (off + (2 + 4 * k)) 4 4 2 2 w (by omega) (by decide) (by omega)
          rw [if_neg (by omega), show off + (2 + 4 * k) + 2 = off + (4 + 4 * k) from by omega] at this
          exact this
        have T1 := fld_rd hR' (2 + 4 * k) (by omega)
        have hla := fld_lt bs (2 + 4 * k)
        have hln := fld_lt bs (4 + 4 * k)
        have hca : Hid (cnAt b off bs k = if fld bs (2 + 4 * k) = 0 then Cn.z else ⟨true, some ⟨b, if fld bs (4 + 4 * k) = 0 then off else off + fld bs (2 + 4 * k), none⟩, fld bs (4 + 4 * k), fld bs (4 + 4 * k)⟩) := rfl
        have hsl : Hid (504 < fld bs (2 + 4 * k) + fld bs (4 + 4 * k) ↔ (rdS bs).length = k) := by
          rw [← slotAt_none]
          constructor
          · intro h
            rcases Nat.lt_or_ge k (rdS bs).length with h' | h'
            · rw [rdS_at bs k h'] at h; cases h
            · have := hkl.out; omega
          · intro h
            have := rdS_end bs (by rw [h, HN.out]; exact hlt)
            rwa [h] at this
        gi_wp2_with fail
        refine ⟨trivial, (callsIn_wide.2 (C1 _)).mono ?_⟩
        rintro e w' ⟨rfl, rfl⟩
        gi_wp2_with fail
        refine ⟨trivial, (callsIn_wide.2 (C2 _)).mono ?_⟩
        rintro e w' ⟨rfl, rfl⟩
        gi_wp2_with fail
        refine ⟨trivial, (callsIn_wide.2 T1).mono ?_⟩
        rintro e w2 ⟨rfl, b2⟩
        clear T1
        have J2 := hJ _ wr w2 none hJs (grown_of_below b2) (fun r e => by cases e)
        have hn2 := hnx.trans (Kb.of b2 (by omega) (by omega))
        have hz2 := Nat.le_trans hsz b2.size
        have T2 := fld_rd (hR'.later b2) (4 + 4 * k) (by omega)
        clear hJs hnx hsz hR' hp' b2
        gi_wp2_with fail
        refine ⟨trivial, (callsIn_wide.2 (C3 _)).mono ?_⟩
        rintro e w' ⟨rfl, rfl⟩
        gi_wp2_with fail
        refine ⟨trivial, (callsIn_wide.2 T2).mono ?_⟩
        rintro e w3 ⟨rfl, b3⟩
        clear T2 C1 C2 C3
        have J3 := hJ _ w2 w3 none J2 (grown_of_below b3) (fun r e => by cases e)
        have hn3 := hn2.trans (Kb.of b3 (by omega) (by omega))
        have hz3 := Nat.le_trans hz2 b3.size
        have hp3 : w3.cell? ⟨Bp, 0, none⟩ = some (.slice (some ⟨b, off, none⟩) 512 cap) := hn3.cell.trans hp
        clear J2 hn2 hz2 b3
        generalize fld bs (2 + 4 * k) = a at *
        generalize fld bs (4 + 4 * k) = m at *
        by_cases hov : 504 < a + m
        · have hov' : (504 : Int) < (a : Int) + (m : Int) := by omega
          have hke := hsl.out.1 hov
          gi_wp2
          refine bodyPost_ret (results_none rfl _ _ _) rfl ?_
          exact ⟨⟨_, rfl⟩, .inl ⟨_, by rw [hke], J3⟩⟩
        · have hov' : (a : Int) + (m : Int) ≤ 504 := by omega
          have hklt : k < (rdS bs).length := by
            rcases Nat.lt_or_ge k (rdS bs).length with h' | h'
            · exact h'
            · exact absurd (hsl.out.2 (by have := hkl.out; omega)) hov
          have HKL : Hid (k + 1 ≤ (rdS bs).length) := hklt
          clear hklt hsl hkl
          by_cases ha : a = 0
          · subst ha
            have hca' : cnAt b off bs k = Cn.z := by have := hca.out; simpa using this
            have HCA : Hid (cnAt b off bs k = Cn.z) := hca'
            have A4 : Below w3.heap.size w3 (w3.alloc (.cells #[.bool false, .slice none 0 0] 49)) := (Below.refl _ _).alloc (Nat.le_refl _) _
            have J4 := hJ _ w3 _ none J3 (grown_of_below A4) (fun r e => by cases e)
            obtain ⟨fn, tmps, assign, body, hy, hRd⟩ := hY _ (k, Cn.z) _ J4 (by rw [upto_length]; omega) (by have := hPi k HKL.out; rw [HCA.out] at this; exact this)
            dsimp only [Cn.z] at hy
            clear hca'
            gi_wp2
            refine hRd.mono ?_
            rintro e W5 (⟨rfl, hJ5, hk5⟩ | ⟨rfl, hJx5⟩)
            · gi_wp2
              go_roundw
              case rel => exact ⟨k + 1, by omega, by go_num, HKL.out, by rw [upto_succ, HCA.out]; exact hJ5, (hn3.trans (Kb.of A4 (by omega) (by omega))).trans hk5, by have := hk5.1.size; have h2 := A4.size; omega⟩
              case measure => simp [intOf]; omega
            · gi_wp2
              refine bodyPost_ret (results_none rfl _ _ _) rfl ?_
              exact ⟨⟨_, rfl⟩, .inr ⟨_, ⟨k + 1, HKL.out, by rw [upto_succ, HCA.out]⟩, hJx5⟩⟩
          · have ha' : (0 : Int) < (a : Int) := by omega
            have hca' : cnAt b off bs k = ⟨true, some ⟨b, if m = 0 then off else off + a, none⟩, m, m⟩ := by have := hca.out; rw [if_neg ha] at this; exact this
            have HCA : Hid (cnAt b off bs k = ⟨true, some ⟨b, if m = 0 then off else off + a, none⟩, m, m⟩) := hca'
            clear hca' hca
            have C4 := fun w => cut_any b off 512 cap a m w hcap hcm (by omega)
            have A4 : Below w3.heap.size w3 (w3.alloc (.cells #[.bool false, .slice none 0 0] 49)) := (Below.refl _ _).alloc (Nat.le_refl _) _
            have hp4 : (w3.alloc (.cells #[.bool false, .slice none 0 0] 49)).cell? ⟨Bp, 0, none⟩ = some (.slice (some ⟨b, off, none⟩) 512 cap) := (A4.cell (p := ⟨Bp, 0, none⟩) (by show Bp < _; omega)).trans hp3
            generalize (if m = 0 then off else off + a) = oo at *
            gi_wp2_with fail
            refine ⟨trivial, (callsIn_wide.2 (C4 _)).mono ?_⟩
            rintro e w' ⟨rfl, rfl⟩
            clear C4
            gi_wp2_with fail
            refine ⟨trivial, (callsIn_wide.2 (holding_any _ _ _ _)).mono ?_⟩
            rintro e w4 ⟨rfl, b4⟩
            have hal : w3.heap.size < (w3.alloc (.cells #[.bool false, .slice none 0 0] 49)).heap.size := by simp
            have x0 : w4.cell? ⟨w3.heap.size, 0, none⟩ = some (.bool false) := (b4.cell (p := ⟨w3.heap.size, 0, none⟩) hal).trans (by simp)
            have x1 : w4.cell? ⟨w3.heap.size, 1, none⟩ = some (.slice none 0 0) := (b4.cell (p := ⟨w3.heap.size, 1, none⟩) hal).trans (by simp)
            have y0 : w4.frozen? ⟨w3.heap.size, 0, none⟩ = false := (b4.frozen (p := ⟨w3.heap.size, 0, none⟩) hal).trans (by simp)
            have y1 : w4.frozen? ⟨w3.heap.size, 1, none⟩ = false := (b4.frozen (p := ⟨w3.heap.size, 1, none⟩) hal).trans (by simp)
            have B5 : Below w3.heap.size w3 ((w4.setCell ⟨w3.heap.size, 0, none⟩ (.bool true)).setCell ⟨w3.heap.size, 1, none⟩ (.slice (some ⟨b, oo, none⟩) m m)) := ((A4.trans (b4.mono (by omega))).setCell (p := ⟨w3.heap.size, 0, none⟩) (Nat.le_refl _) _).setCell (p := ⟨w3.heap.size, 1, none⟩) (Nat.le_refl _) _
            have J4 := hJ _ w3 _ none J3 (grown_of_below B5) (fun r e => by cases e)
            obtain ⟨fn, tmps, assign, body, hy, hRd⟩ := hY _ (k, ⟨true, some ⟨b, oo, none⟩, m, m⟩) _ J4 (by rw [upto_length]; omega) (by have := hPi k HKL.out; rw [HCA.out] at this; exact this)
            dsimp only at hy
            clear b4 A4 hal hp4
            gi_wp2
            refine hRd.mono ?_
            rintro e W5 (⟨rfl, hJ5, hk5⟩ | ⟨rfl, hJx5⟩)
            · gi_wp2
              go_roundw
              case rel => exact ⟨k + 1, by omega, by go_num, HKL.out, by rw [upto_succ, HCA.out]; exact hJ5, (hn3.trans (Kb.of B5 (by omega) (by omega))).trans hk5, by have := hk5.1.size; have h2 := B5.size; omega⟩
              case measure => simp [intOf]; omega
            · gi_wp2
              refine bodyPost_ret (results_none rfl _ _ _) rfl ?_
              exact ⟨⟨_, rfl⟩, .inr ⟨_, ⟨k + 1, HKL.out, by rw [upto_succ, HCA.out]⟩, hJx5⟩⟩
      · obtain rfl : k = N := by omega
        have hke : (rdS bs).length = k := by have h1 := hkl.out; have h2 := rdS_le bs; rw [HN.out] at h2; omega
        gi_wp2
        go_end0
        exact ⟨⟨_, rfl⟩, .inl ⟨_, by rw [hke], hJs⟩⟩

/-- An iterator's item as yield gets it. -/
def itv (x : Nat × Cn) : Array Value := #[.int .i64 (x.1 : Int), .agg #[.bool x.2.t, .slice x.2.ao x.2.n x.2.cap]]
theorem slots_stops (n : Nat) (hn : 1 ≤ n) (Bp n₀ b off cap : Nat) (bs : List UInt8) (w : World) (hb : b < n₀) (hBp : Bp < w.heap.size) (hn0 : n₀ ≤ w.heap.size)
    (hp : w.cell? ⟨Bp, 0, none⟩ = some (.slice (some ⟨b, off, none⟩) 512 cap)) (hR : Rd w (some ⟨b, off, none⟩) 512 cap bs) :
    SeqStopsK Fence.wide n Tryd.prog 37 #[.pointer (some ⟨Bp, 0, none⟩)] itv (Kb n₀ Bp) (fun ys => ys = upto b off bs (rdS bs).length) (fun pre => ∃ k, k ≤ (rdS bs).length ∧ pre = upto b off bs k) 125 w := fun l J Jx W hW hJ _ hY h0 =>
  slots1_in n hn l Bp n₀ b off cap bs hb J Jx W hJ (Nat.lt_of_lt_of_le hBp hW.size) (Nat.le_trans hn0 hW.size) (fun _ => True) (fun _ _ => trivial) (fun pre x W1 h1 h2 _ => hY pre x W1 h1 h2) ((hW.cell (p := ⟨Bp, 0, none⟩) hBp).trans hp) (hR.low hW (by omega)) h0

/-- The same, where a round may lean on what is told of an item. -/
theorem slots_stopsP (n : Nat) (hn : 1 ≤ n) (Bp n₀ b off cap : Nat) (bs : List UInt8) (w : World) (hb : b < n₀) (hBp : Bp < w.heap.size) (hn0 : n₀ ≤ w.heap.size) (P : Nat × Cn → Prop) (hPi : ∀ i, i < (rdS bs).length → P (i, cnAt b off bs i))
    (hp : w.cell? ⟨Bp, 0, none⟩ = some (.slice (some ⟨b, off, none⟩) 512 cap)) (hR : Rd w (some ⟨b, off, none⟩) 512 cap bs) :
    SeqStopsK Fence.wide n Tryd.prog 37 #[.pointer (some ⟨Bp, 0, none⟩)] (fun x : { x // P x } => itv x.1) (Kb n₀ Bp) (fun ys => ys.map Subtype.val = upto b off bs (rdS bs).length) (fun pre => ∃ k, k ≤ (rdS bs).length ∧ pre.map Subtype.val = upto b off bs k) 125 w := fun l J Jx W hW hJ _ hY h0 => by
  refine (slots1_in n hn l Bp n₀ b off cap bs hb (fun pre W => ∃ q : List { x // P x }, q.map Subtype.val = pre ∧ J q W) (fun pre W => ∃ q : List { x // P x }, q.map Subtype.val = pre ∧ Jx q W) W
    (fun s A B row hs hg hr => by obtain ⟨q, h1, h2⟩ := hs; exact ⟨q, h1, hJ q A B row h2 hg hr⟩) (Nat.lt_of_lt_of_le hBp hW.size) (Nat.le_trans hn0 hW.size) P hPi ?_ ((hW.cell (p := ⟨Bp, 0, none⟩) hBp).trans hp) (hR.low hW (by omega)) ⟨[], rfl, h0⟩).mono ?_
  · rintro pre x W1 ⟨q, rfl, h2⟩ hlen hx
    obtain ⟨fn, tmps, assign, body, hy, hRd⟩ := hY q ⟨x, hx⟩ W1 h2 (by simpa using hlen)
    refine ⟨fn, tmps, assign, body, hy, hRd.mono ?_⟩
    rintro e W' (⟨rfl, h3, h4⟩ | ⟨rfl, h3⟩)
    · exact .inl ⟨rfl, ⟨_, by simp, h3⟩, h4⟩
    · exact .inr ⟨rfl, ⟨_, by simp, h3⟩⟩
  · rintro e W' ⟨hv, ⟨ys, rfl, q, h1, h2⟩ | ⟨pre, ⟨k, hk, rfl⟩, q, h1, h2⟩⟩
    · exact ⟨hv, .inl ⟨q, h1, h2⟩⟩
    · exact ⟨hv, .inr ⟨q, ⟨k, hk, h1⟩, h2⟩⟩

set_option maxHeartbeats 1000000 in
theorem slots_any (ao : Option Addr) (n cap : Nat) (w : World) :
    Calls Tryd.prog 25 #[.slice ao n cap] w fun e w' => e = .returned (.func (.func 37) #[] #[.pointer (some ⟨w.heap.size, 0, none⟩)]) ∧ w' = w.alloc (.cells #[.slice ao n cap] 22) := by
  go_enter Tryd.func25, Tryd.ntmps25
  go_wp2
  go_ret
  exact ⟨rfl, rfl⟩
end Go.Proofs.YtaghbkjjindjfaaDoor
