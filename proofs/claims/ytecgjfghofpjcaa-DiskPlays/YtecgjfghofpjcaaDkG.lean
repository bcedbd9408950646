/-
  The contract of the pages' crash.
-/
import Derived.Test.YtecgjfghofpjcaaDkT
namespace Go.Proofs.Ytecgjfghofpjcaa
open Go.RowKit Go.Maps

/-- What the first k of the written pages are, behind a crash. -/
def crashTo (ks fs : List Int) (fresh old : Pf) : Nat → Pf
  | 0 => old
  | k + 1 => match ks[k]? with
    | none => crashTo ks fs fresh old k
    | some x => if (fs[k]?.getD 0) % 3 = 1 then put (crashTo ks fs fresh old k) x ((fresh x).getD z512) else if (fs[k]?.getD 0) % 3 = 2 then put (crashTo ks fs fresh old k) x f512 else crashTo ks fs fresh old k

theorem getD_len {f : Pf} (h : PfOk f) (x : Int) : ((f x).getD z512).length = 512 := by
  cases hx : f x with
  | none => exact z512_len
  | some r => exact h x r hx

/-- The fates can be read. -/
def Fs (w : World) (fa : Option Addr) (fn : Nat) (fs : List Int) : Prop := fs.length = fn ∧ (0 < fn → ∃ b off, fa = some ⟨b, off, none⟩ ∧ ∀ j (h : j < fs.length), w.cell? ⟨b, off + j, none⟩ = some (.int .i64 fs[j]))

theorem cell_mo {w : World} {b o n : Nat} {v : Value} {f : Pf} {m : Nat} (h : w.cell? ⟨b, o, none⟩ = some v) (hm : MO w m n f) : b ≠ m := by
  rintro rfl
  obtain ⟨_, D, ⟨es, clock, h1, _⟩, _⟩ := hm
  simp [World.cell?, h1] at h

theorem Fs.kept {w w' : World} {fa : Option Addr} {fn : Nat} {fs : List Int} (h : Fs w fa fn fs) {S : Nat → Prop} (hC : Chg S w w') (hS : ∀ b, (∃ o v, w.cell? ⟨b, o, none⟩ = some v) → ¬ S b) : Fs w' fa fn fs := by
  refine ⟨h.1, fun hp => ?_⟩
  obtain ⟨b, off, e, hc⟩ := h.2 hp
  exact ⟨b, off, e, fun j hj => hC.cell (hS b ⟨_, _, hc j hj⟩) (hc j hj)⟩

set_option maxRecDepth 20000 in
set_option maxHeartbeats 4000000 in
theorem pcrash_any (P mo mf no nf : Nat) (count : Int) (old fresh : Pf) (fa : Option Addr) (fn fc : Nat) (fs : List Int) (w : World) (h : Pg w P mo mf no nf count old fresh) (hroom : no + nf ≤ 17592186044416) (hfs : ∀ W, Chg (fun k => k = mo) w W → ∀ i : Nat, Calls Try.prog 57 #[.slice fa fn fc, .int .i64 (i : Int)] W fun e w' => e = .returned (.int .i64 ((fs[i]?.getD 0) % 3)) ∧ w' = W) :
    Calls Try.prog 41 #[.pointer (some ⟨P, 0, none⟩), .slice fa fn fc] w fun e w' => (∃ v, e = .returned v) ∧ ∃ ks, KeysOf fresh ks ∧ ks.length ≤ nf ∧ (∃ mf', Pg w' P mo mf' (no + nf) 0 count (crashTo ks fs fresh old ks.length) none' ∧ w.heap.size ≤ mf') ∧ Chg (fun k => k = P ∨ k = mo) w w' := by
  have hPl := bl_lt h.b
  have c2 : w.cell? ⟨P, 2, none⟩ = some (.map (some mf)) := bl_cell h.b 2 _ rfl
  have CK := keysK (some mf) w
  have CS := sortedK w h.f (by omega)
  have hmm := @run_makeMap Try.prog
  have HP : Hid (Pg w P mo mf no nf count old fresh) := h
  have HFS : Hid (∀ W, Chg (fun k => k = mo) w W → ∀ i : Nat, Calls Try.prog 57 #[.slice fa fn fc, .int .i64 (i : Int)] W fun e w' => e = .returned (.int .i64 ((fs[i]?.getD 0) % 3)) ∧ w' = W) := hfs
  have HRO : Hid (no + nf ≤ 17592186044416) := hroom
  clear h hfs hroom
  go_enter Try.func41, Try.ntmps41
  go_wp2_with (first
    | (go_at_call 56; refine CK.mono ?_; rintro e w1 ⟨rfl, rfl⟩)
    | (go_at_call 55; refine CS.mono ?_; rintro e w2 ⟨v, ks, rfl, hk, hrow, hkl, hb⟩; obtain ⟨ao, cap, rfl⟩ := ownsRow_slice hrow))
  clear CK CS
  have HP2 := HP.out.kept (hb.block P hPl) (hb.block mo HP.out.o.lt) (hb.block mf HP.out.f.lt)
  have HK : Hid (KeysOf fresh ks ∧ ks.length ≤ nf) := ⟨hk, hkl⟩
  obtain ⟨n, hn⟩ : ∃ n, ks.length = n := ⟨_, rfl⟩
  have HN : Hid (ks.length = n) := hn
  have HROW : Hid (w2.ownsRow w.heap.size 3 1 (.slice ao n cap) n (ks.map encZ)) := by rw [← hn]; exact hrow
  rw [hn]
  have HB : Hid (Below w.heap.size w w2) := hb
  have HP2h : Hid (Pg w2 P mo mf no nf count old fresh) := HP2
  have hcap : n ≤ 17592186044416 := by have := HRO.out; omega
  have HCAP : Hid (n ≤ 17592186044416) := hcap
  clear hk hkl hn hrow hb HP2 c2 hcap
  go_loopw [13] (fun s13 wr => ∃ k : Nat, s13 = .int .i64 (k : Int) ∧ Hid (k ≤ n ∧ Pg wr P mo mf (no + k) nf count (crashTo ks fs fresh old k) fresh ∧ Chg (fun j => j = mo) w2 wr)) (fun i _ => n - (intOf i).toNat)
  case atStart => exact ⟨0, rfl, Nat.zero_le _, HP2h.out, Chg.refl _ _⟩
  case round =>
    obtain ⟨k, rfl, hH⟩ := hrel
    by_cases hlt : k < n
    · obtain ⟨q1, q2, q3⟩ := hH.out
      have hlt' : (k : Int) < (n : Int) := by omega
      have hkk : k < ks.length := by rw [HN.out]; exact hlt
      have e0 : ks[k]? = some ks[k] := List.getElem?_eq_getElem hkk
      obtain ⟨x, hx⟩ : ∃ x, x = ks[k] := ⟨_, rfl⟩
      have hwx : wf64 x := by rw [hx]; exact ((HK.out.1.2 _).1 (List.getElem_mem hkk)).1
      obtain ⟨gr, ecap, rfl, hgb, hcell⟩ : ∃ gr, True ∧ ao = some ⟨gr, 0, none⟩ ∧ w.heap.size ≤ gr ∧ wr.cell? ⟨gr, 0 + k, none⟩ = some (.int .i64 x) := by
        rcases HROW.out.2 with ⟨e1, e2⟩ | ⟨g, cp, cur, e1, e2, e3, e4, e5, e6, e7⟩
        · omega
        · cases e1
          have hc0 := HROW.out.cells (g := g) rfl k (encZ x) (by rw [hx]; simp [e0])
          rw [Addr.add_lit] at hc0
          refine ⟨g, trivial, rfl, e2, q3.cell (cell_mo hc0 HP2h.out.o) hc0⟩
      have C1 := HFS.out wr ((chg_of_below HB.out).trans q3 (fun _ _ e => e) (fun _ _ e => e)) k
      obtain ⟨ft, hft⟩ : ∃ ft, ft = (fs[k]?.getD 0) % 3 := ⟨_, rfl⟩
      rw [← hft] at C1
      have d1 : wr.cell? ⟨P, 1, none⟩ = some (.map (some mo)) := bl_cell q2.b 1 _ rfl
      have d2 : wr.cell? ⟨P, 2, none⟩ = some (.map (some mf)) := bl_cell q2.b 2 _ rfl
      rw [Nat.zero_add] at hcell
      have HSTEP : Hid (crashTo ks fs fresh old (k + 1) = if ft = 1 then put (crashTo ks fs fresh old k) x ((fresh x).getD z512) else if ft = 2 then put (crashTo ks fs fresh old k) x f512 else crashTo ks fs fresh old k) := by
        unfold Hid
        rw [hft, hx]
        show (match ks[k]? with | none => _ | some x => _) = _
        rw [e0]
      have HX : Hid (k < n ∧ n ≤ 17592186044416) := ⟨hlt, HCAP.out⟩
      clear hx hft e0 hkk ecap hgb q1 q2 q3
      have hwk : IntKind.i64.wrap ((k : Int) + 1) = ((k + 1 : Nat) : Int) := by have := HX.out; rw [IntKind.wrap_i64]; omega
      have HWX : Hid (wf64 x) := hwx
      clear hwx
      by_cases f1 : ft = 1
      · subst f1
        have HST : Hid (crashTo ks fs fresh old (k + 1) = put (crashTo ks fs fresh old k) x ((fresh x).getD z512)) := HSTEP.out.trans (if_pos rfl)
        obtain ⟨q1, q2, q3⟩ := hH.out
        have hne := q2.ne
        have hoP := q2.o.ne q2.b
        obtain ⟨r, hr⟩ : ∃ r, r = (fresh x).getD z512 := ⟨_, rfl⟩
        have hrl : r.length = 512 := by rw [hr]; exact getD_len q2.f.1 x
        have L1 := MO.look1 (W := wr.drew) q2.f x HWX.out
        obtain ⟨W2, hrun, hM, hg⟩ := MO.store (W := wr.drew) q2.o (by have := HX.out; have := HRO.out; omega) x HWX.out r hrl
        have L2 := MO.look1 (W := W2) (q2.f.later (hg.block mf q2.f.lt (fun e => hne (Option.some.inj e).symm))) x HWX.out
        rw [← hr] at L1 L2 HST
        have c1' : W2.cell? ⟨P, 1, none⟩ = some (.map (some mo)) := (chg_of_grown hg).cell (fun e => hoP (Option.some.inj e).symm) d1
        have c2' : W2.cell? ⟨P, 2, none⟩ = some (.map (some mf)) := (chg_of_grown hg).cell (fun e => hoP (Option.some.inj e).symm) d2
        have FIN : Hid (k + 1 ≤ n ∧ Pg W2 P mo mf (no + (k + 1)) nf count (crashTo ks fs fresh old (k + 1)) fresh ∧ Chg (fun j => j = mo) w2 W2) := by
          refine ⟨by omega, ⟨(hg.block P (bl_lt q2.b) (fun e => hoP (Option.some.inj e).symm)).trans q2.b, ?_, q2.f.later (hg.block mf q2.f.lt (fun e => hne (Option.some.inj e).symm)), hne⟩, ?_⟩
          · rw [HST.out]; exact hM
          · have hc := (chg_of_grown hg).mono (T := fun j => j = mo) (fun k _ e => Option.some.inj e)
            exact q3.trans (w1 := wr) ⟨hc.os, hc.tape, hc.output, hc.size, hc.block⟩ (fun _ _ e => e) (fun _ _ e => e)
        clear q1 q2 q3 hM hg hr hrl HSTEP hne hoP HST
        go_wp2_with (go_at_call 57; refine C1.mono ?_; rintro e w' ⟨rfl, hw⟩; obtain rfl : wr = w' := hw.symm)
        go_region_held2 (fun W => W.cell? ⟨P, 1, none⟩ = some (.map (some mo)) ∧ W.cell? ⟨P, 2, none⟩ = some (.map (some mf)) ∧ (Instr.lookup 69 (.map (some mf)) (.int .i64 x) false).run Try.prog W = .ok (.agg (bv r).toArray) W) (first | exact ⟨d1, d2, L1⟩ | exact ⟨c1', c2', L2⟩) (fail)
        go_wp2
        go_roundw
        case rel => exact ⟨k + 1, rfl, FIN.out⟩
        case measure =>
          have := HX.out
          show n - ((k : Int) + 1).toNat < n - ((k : Int)).toNat
          omega
      · by_cases f2 : ft = 2
        · subst f2
          have HST : Hid (crashTo ks fs fresh old (k + 1) = put (crashTo ks fs fresh old k) x f512) := HSTEP.out.trans (by rw [if_neg f1, if_pos rfl])
          obtain ⟨q1, q2, q3⟩ := hH.out
          have hne := q2.ne
          have hoP := q2.o.ne q2.b
          have hPw := bl_lt q2.b
          have HQ : Hid (Pg wr P mo mf (no + k) nf count (crashTo ks fs fresh old k) fresh) := q2
          have HQ3 : Hid (Chg (fun j => j = mo) w2 wr) := q3
          have HNE : Hid (mo ≠ mf ∧ mo ≠ P) := ⟨hne, hoP⟩
          have HFI : Hid (∀ W5 W6, Below wr.heap.size wr W5 → W5.grownBy W6 (some mo) → MO W6 mo (no + k + 1) (put (crashTo ks fs fresh old k) x f512) → k + 1 ≤ n ∧ Pg W6 P mo mf (no + (k + 1)) nf count (crashTo ks fs fresh old (k + 1)) fresh ∧ Chg (fun j => j = mo) w2 W6) := by
            intro W5 W6 b5 g6 m6
            have hP5 := q2.kept (b5.block P hPw) (b5.block mo q2.o.lt) (b5.block mf q2.f.lt)
            refine ⟨by have := HX.out; omega, ⟨(g6.block P (bl_lt hP5.b) (fun e => hoP (Option.some.inj e).symm)).trans hP5.b, ?_, hP5.f.later (g6.block mf hP5.f.lt (fun e => hne (Option.some.inj e).symm)), hne⟩, ?_⟩
            · rw [HST.out]; exact m6
            · exact (q3.trans (chg_of_below (S := fun j => j = mo) b5) (fun _ _ e => e) (fun _ _ e => e)).trans ((chg_of_grown g6).mono (T := fun j => j = mo) (fun k _ e => Option.some.inj e)) (fun _ _ e => e) (fun _ _ e => e)
          have HBN : Hid (no + k < 9223372036854775807) := by have := HX.out; have := HRO.out; exact (by omega : no + k < 9223372036854775807)
          clear q1 q2 q3 HSTEP hne hoP HST hPw
          go_wp2_with (go_at_call 57; refine C1.mono ?_; rintro e w' ⟨rfl, hw⟩; obtain rfl : wr = w' := hw.symm)
          go_region_held2 (fun W => W.cell? ⟨P, 1, none⟩ = some (.map (some mo)))
            (first | exact d1 | exact (b5.cell (p := ⟨P, 1, none⟩) (bl_lt HQ.out.b)).trans d1 | exact (chg_of_grown g6).cell (fun e => HNE.out.2 (Option.some.inj e).symm) ((b5.cell (p := ⟨P, 1, none⟩) (bl_lt HQ.out.b)).trans d1))
            ((go_at_call 58; refine (torn_any _).mono ?_; rintro e w5 ⟨rfl, b5⟩; obtain ⟨W6, hrun6, hM6, g6⟩ := MO.store (W := w5) (HQ.out.o.later (b5.block mo HQ.out.o.lt)) HBN.out x HWX.out f512 f512_len))
          all_goals
            have FIN : Hid (k + 1 ≤ n ∧ Pg W6 P mo mf (no + (k + 1)) nf count (crashTo ks fs fresh old (k + 1)) fresh ∧ Chg (fun j => j = mo) w2 W6) := HFI.out w5 W6 ⟨b5.os, b5.tape, b5.output, b5.size, b5.block⟩ g6 hM6
            go_wp2
            go_roundw
            case rel => exact ⟨k + 1, rfl, FIN.out⟩
            case measure =>
              have := HX.out
              show n - ((k : Int) + 1).toNat < n - ((k : Int)).toNat
              omega
        · have HST : Hid (crashTo ks fs fresh old (k + 1) = crashTo ks fs fresh old k) := HSTEP.out.trans (by rw [if_neg f1, if_neg f2])
          obtain ⟨q1, q2, q3⟩ := hH.out
          have FIN : Hid (k + 1 ≤ n ∧ Pg wr P mo mf (no + (k + 1)) nf count (crashTo ks fs fresh old (k + 1)) fresh ∧ Chg (fun j => j = mo) w2 wr) := by
            refine ⟨by have := HX.out; omega, ⟨q2.b, ?_, q2.f, q2.ne⟩, q3⟩
            rw [HST.out]
            exact q2.o.mono (by omega)
          clear q1 q2 q3 HSTEP HST
          go_wp2_with (go_at_call 57; refine C1.mono ?_; rintro e w' ⟨rfl, hw⟩; obtain rfl : wr = w' := hw.symm)
          go_roundw
          case rel => exact ⟨k + 1, rfl, FIN.out⟩
          case measure =>
            have := HX.out
            show n - ((k : Int) + 1).toNat < n - ((k : Int)).toNat
            omega
    · obtain ⟨q1, q2, q3⟩ := hH.out
      obtain rfl : k = n := by omega
      have hlt' : ¬ (k : Int) < (k : Int) := by omega
      obtain ⟨A1, A2, A3⟩ := pg_anew q2.b (q2.o.mono (show no + k ≤ no + nf by have := HK.out.2; have := HN.out; omega))
      have f2 := bl_open q2.b 2
      have d2 : wr.cell? ⟨P, 2, none⟩ = some (.map (some mf)) := bl_cell q2.b 2 _ rfl
      have hP3 := bl_lt q2.b
      have e2 : (wr.alloc (.map #[] 0)).heap[P]? = wr.heap[P]? := Below.heap_alloc _ _ _ hP3
      have d3 : (wr.alloc (.map #[] 0)).cell? ⟨P, 2, none⟩ = some (.map (some mf)) := by rw [World.cell?_of_block (w := wr) (a := ⟨P, 2, none⟩) e2]; exact d2
      have f3 : (wr.alloc (.map #[] 0)).frozen? ⟨P, 2, none⟩ = false := by rw [World.frozen?_of_block (w := wr) (a := ⟨P, 2, none⟩) e2]; exact f2
      have hC2 : Chg (fun k => k = P ∨ k = mo) w wr := (chg_of_below (S := fun _ => False) HB.out).trans q3 (fun _ _ e => e.elim) (fun _ _ e => .inr e)
      have FIN : Hid (_ ∧ _ ∧ _) := ⟨A1, hC2.trans A2 (fun _ _ e => e) (fun _ _ e => .inl e), hC2.size⟩
      clear A1 A2 A3 q1 q2 q3 f2 d2 hP3 e2 hC2 hH
      go_wp2
      go_end0
      exact ⟨⟨_, rfl⟩, ks, HK.out.1, HK.out.2, ⟨_, by rw [HN.out]; exact FIN.out.1, FIN.out.2.2⟩, FIN.out.2.1⟩
end Go.Proofs.Ytecgjfghofpjcaa
