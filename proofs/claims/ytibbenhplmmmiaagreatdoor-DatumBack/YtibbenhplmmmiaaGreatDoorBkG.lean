/-
  datum.takeValue of a value's bytes, datum.Get of a row's bytes.
-/
import Derived.Test.YtibbenhplmmmiaaGreatDoorBkT
import Derived.Test.YtibbenhplmmmiaaGreatDoorMGVOrd1
import Derived.Laws.MakeOwn
namespace Go.Proofs.YtibbenhplmmmiaaGreatDoor.Bk
open Go.RowKit Go.Proofs.YtibbenhplmmmiaaGreatDoor.Co
attribute [local go_sem] cell?_more frozen?_more setCell_more more_lt more_more more_drew more_drewN setCell_drewN alloc_drewN

theorem rnum_of {bs r : List UInt8} {k : Nat} {z : Int} (h0 : -9223372036854775808 ≤ z) (h1 : z ≤ 9223372036854775807) (hd : bs.drop k = numBytes z ++ r) : rNum bs k 0 = (z, k + (numBytes z).length, 0) ∧ bs.drop (k + (numBytes z).length) = r := by
  constructor
  · unfold rNum
    rw [if_neg (by simp), hd, take_num z h0 h1]
    have : numOf (foldN z, (numBytes z).length, 0) = z := by
      show unfoldN (foldN z) = _
      exact unfold_fold _
    rw [this]
  · rw [← List.drop_drop, hd, drop_len]
theorem rtxt_of {bs r b : List UInt8} {k : Nat} (hb : b.length ≤ 256) (hd : bs.drop k = textBytes ⟨b.toArray⟩ ++ r) : rTxt bs k 0 = (b, k + (textBytes ⟨b.toArray⟩).length, 0) ∧ bs.drop (k + (textBytes ⟨b.toArray⟩).length) = r := by
  constructor
  · unfold rTxt
    rw [if_neg (by simp), hd, take_text ⟨b.toArray⟩ (by show b.length ≤ _; omega)]
  · rw [← List.drop_drop, hd, drop_len]
/-- A value is taken as it was written. -/
theorem tv_any (v : Va) (hvr : vr v = true) (hin : vin v) (p : Nat) (bs r : List UInt8) (k : Nat) (w : World) (h : Rdr w p bs k 0) (hd : bs.drop k = vbytes v ++ r) :
    Calls Tryz.prog 53 #[.pointer (some ⟨p, 0, none⟩)] w fun x w' => x = .returned (vv v) ∧ (∃ k', Rdr w' p bs k' 0 ∧ bs.drop k' = r) ∧ w.grownBy w' (some p) := by
  have hok := (vr_iff v).1 hvr
  obtain ⟨kk, n, m, b⟩ := v
  unfold vok at hok
  unfold vin at hin
  unfold vbytes at hd
  dsimp only at hok hin hd ⊢
  have kin : kk = 0 ∨ kk = 1 ∨ kk = 2 ∨ kk = 3 ∨ kk = 4 ∨ kk = 5 := by omega
  rw [List.append_assoc] at hd
  obtain ⟨e1, d1⟩ := rnum_of (by omega) (by omega) hd
  rcases kin with rfl | rfl | rfl | rfl | rfl | rfl
  · have hq : n = 0 ∧ m = 0 ∧ b = [] := by simp at hok; exact hok
    obtain ⟨rfl, rfl, rfl⟩ := hq
    rw [if_neg (by decide), if_neg (by decide), if_neg (by decide), List.nil_append] at d1
    exact (tv0 p bs k _ 0 _ 0 rfl rfl rfl rfl rfl w h e1).mono fun x w' ⟨h1, h2, h3⟩ => ⟨h1, ⟨_, h2, d1⟩, h3⟩
  · have hq : m = 0 ∧ b = [] := by simp at hok; exact hok
    obtain ⟨rfl, rfl⟩ := hq
    rw [if_pos (.inl rfl)] at d1
    obtain ⟨e2, d2⟩ := rnum_of hin.1.1 hin.1.2 d1
    exact (tv1 p bs k _ _ 0 _ _ n w h e1 e2).mono fun x w' ⟨h1, h2, h3⟩ => ⟨h1, ⟨_, h2, d2⟩, h3⟩
  · have hq : b = [] := by simp at hok; exact hok.2.2
    subst hq
    rw [if_neg (by decide), if_pos (.inl rfl), List.append_assoc] at d1
    obtain ⟨e2, d2⟩ := rnum_of hin.1.1 hin.1.2 d1
    obtain ⟨e3, d3⟩ := rnum_of hin.2.1 hin.2.2 d2
    exact (tv2 p bs k _ _ _ 0 _ _ _ n m w h e1 e2 e3).mono fun x w' ⟨h1, h2, h3⟩ => ⟨h1, ⟨_, h2, d3⟩, h3⟩
  · have hq : n = 0 ∧ m = 0 ∧ b.length ≤ 256 := by simp at hok; exact ⟨hok.1, hok.2.1, hok.2.2.1⟩
    obtain ⟨rfl, rfl, hb⟩ := hq
    rw [if_neg (by decide), if_neg (by decide), if_pos rfl] at d1
    obtain ⟨e2, d2⟩ := rtxt_of hb d1
    exact (tv3 p bs k _ _ 0 _ _ b w h e1 e2).mono fun x w' ⟨h1, h2, h3⟩ => ⟨h1, ⟨_, h2, d2⟩, h3⟩
  · have hq : m = 0 ∧ b = [] := by simp at hok; exact ⟨hok.2.1, hok.2.2⟩
    obtain ⟨rfl, rfl⟩ := hq
    rw [if_pos (.inr rfl)] at d1
    obtain ⟨e2, d2⟩ := rnum_of hin.1.1 hin.1.2 d1
    exact (tv4 p bs k _ _ 0 _ _ n w h e1 e2).mono fun x w' ⟨h1, h2, h3⟩ => ⟨h1, ⟨_, h2, d2⟩, h3⟩
  · have hq : b = [] := by simp at hok; exact hok.2.2.2.2
    subst hq
    rw [if_neg (by decide), if_pos (.inr rfl), List.append_assoc] at d1
    obtain ⟨e2, d2⟩ := rnum_of hin.1.1 hin.1.2 d1
    obtain ⟨e3, d3⟩ := rnum_of hin.2.1 hin.2.2 d2
    exact (tv5 p bs k _ _ _ 0 _ _ _ n m w h e1 e2 e3).mono fun x w' ⟨h1, h2, h3⟩ => ⟨h1, ⟨_, h2, d3⟩, h3⟩
/-- The cells of a row of zero values. -/
def mz (n : Nat) : Array Value := madeCells #[.int .i64 0, .int .i64 0, .int .i64 0, .string ⟨#[]⟩] (n * 4)
theorem mz_get (n i : Nat) (h : i < n * 4) : (mz n)[i]? = some ((#[.int .i64 0, .int .i64 0, .int .i64 0, .string ⟨#[]⟩] : Array Value)[i % 4]!) := by
  unfold mz madeCells
  rw [Array.getElem?_map, Array.getElem?_range, if_pos h]
  rfl
theorem mz_at (w : World) (n j : Nat) (h : j < n) : At4 (w.alloc (.cells (mz n) 23)) w.heap.size (j * 4) ⟨0, 0, 0, []⟩ := by
  have C := Cbox.new w (mz n) 23
  refine ⟨?_, ?_, ?_, ?_⟩
  · rw [C.at, mz_get n _ (by omega), show j * 4 % 4 = 0 by omega]; rfl
  · rw [C.at, mz_get n _ (by omega), show (j * 4 + 1) % 4 = 1 by omega]; rfl
  · rw [C.at, mz_get n _ (by omega), show (j * 4 + 2) % 4 = 2 by omega]; rfl
  · rw [C.at, mz_get n _ (by omega), show (j * 4 + 3) % 4 = 3 by omega]; rfl
theorem make_run (n : Nat) (hn : n ≤ 64) (wx : World) : (Instr.makeSlice 34 (.int .i64 (n : Int)) (.int .i64 (n : Int))).run Tryz.prog wx = .ok (.slice (some ⟨wx.heap.size, 0, none⟩) n n) (wx.alloc (.cells (mz n) 23)) := by
  obtain ⟨i0, hi, hz, hs, hb⟩ := info_parts Tryz.info23
  have h := run_make (P := Tryz.prog) wx 34 23 i0 _ Tryz.underlying34 hi hz .i64 .i64 (n : Int) (n : Int) (by omega) (Int.le_refl _) (by rw [hb]; omega) (by omega)
  rw [hs, Int.toNat_natCast] at h
  exact h
def intOf : Value → Int
  | .int _ n => n
  | _ => 0
theorem cast1 (k : Nat) : ((k + 1 : Nat) : Int) = (k : Int) + 1 := by omega
/-- What stands at a place of the row while it is read. -/
def pick (l : List Va) (i j : Nat) : Va := if j < i then l.getD j ⟨0, 0, 0, []⟩ else ⟨0, 0, 0, []⟩
set_option maxRecDepth 20000 in
set_option maxHeartbeats 4000000 in
theorem get_any (ao : Option Addr) (cap : Nat) (l : List Va) (w : World) (hT : Tabs w) (hE : ckE l = 0) (hin : ∀ v ∈ l, vin v) (hR : Rd w ao (numBytes (l.length : Int) ++ many vbytes l).length cap (numBytes (l.length : Int) ++ many vbytes l)) (hlen : (numBytes (l.length : Int) ++ many vbytes l).length ≤ 70368744177664) :
    Calls Tryz.prog 17 #[.slice ao (numBytes (l.length : Int) ++ many vbytes l).length cap] w fun e w' => ∃ g, e = .returned (.tuple #[.slice (some ⟨g, 0, none⟩) l.length l.length, .int .i64 0]) ∧ Vs w' (some ⟨g, 0, none⟩) l ∧ Below w.heap.size w w' := by
  have h64 : l.length ≤ 64 := by
    unfold ckE at hE
    split at hE
    · cases hE
    · omega
  have hvr : ∀ v ∈ l, vr v = true := by
    unfold ckE at hE
    rw [if_neg (by omega)] at hE
    split at hE
    · rename_i h; exact List.all_eq_true.1 h
    · cases hE
  have hmk := make_run l.length h64
  obtain ⟨bs, hbs⟩ : ∃ bs, bs = numBytes (l.length : Int) ++ many vbytes l := ⟨_, rfl⟩
  rw [← hbs] at hR hlen ⊢
  obtain ⟨e1, d1⟩ := rnum_of (bs := bs) (k := 0) (z := (l.length : Int)) (r := many vbytes l) (by omega) (by omega) (by rw [List.drop_zero]; exact hbs)
  have D1 : Hid (bs.drop (0 + (numBytes (l.length : Int)).length) = many vbytes l) := d1
  have HROW : Hid (∀ g W, Tabs W → Vs W (some ⟨g, 0, none⟩) l → Calls Tryz.prog 55 #[.slice (some ⟨g, 0, none⟩) l.length l.length] W fun e w' => e = .returned (.bool true) ∧ Below W.heap.size W w') := fun g W hTW hV => by
    have := row_any (some ⟨g, 0, none⟩) l.length l W hTW hV (by omega)
    rw [hE] at this
    exact this
  have i1 : ¬ ((l.length : Int)) < 0 := by omega
  have i2 : ¬ (64 : Int) < (l.length : Int) := by omega
  have HVR : Hid (∀ v ∈ l, vr v = true) := hvr
  have HIN : Hid (∀ v ∈ l, vin v) := hin
  clear hbs d1 hE hvr hin
  obtain ⟨k1, hk1⟩ : ∃ k1, k1 = 0 + (numBytes (l.length : Int)).length := ⟨_, rfl⟩
  rw [← hk1] at e1 D1
  clear hk1
  go_enter Tryz.func17, Tryz.ntmps17
  go_wp2_with fail
  refine (newReader_any ao _ cap bs w hR hlen).mono ?_
  rintro e w1 ⟨p, rfl, hp, R1, b1⟩
  go_wp2_with fail
  have N1 := rNumber_any p bs 0 0 w1 R1
  rw [e1] at N1
  refine N1.mono ?_
  rintro e w2 ⟨rfl, R2, g2⟩
  have B2 : Below w.heap.size w w2 := b1.trans (gb_below g2 hp b1.size)
  have hpl := rdr_lt R2
  clear N1 R1 e1 hR
  dsimp only at R2 ⊢
  have uM : Below w2.heap.size w2 (w2.alloc (.cells (mz l.length) 23)) := (Below.refl _ _).alloc (Nat.le_refl _) _
  have R3 := rdr_later R2 uM
  have B3 : Below w.heap.size w (w2.alloc (.cells (mz l.length) 23)) := B2.alloc B2.size _
  have A3 : ∀ j, j < l.length → At4 (w2.alloc (.cells (mz l.length) 23)) w2.heap.size (j * 4) (pick l 0 j) := fun j hj => by
    have := mz_at w2 l.length j hj
    unfold pick
    rw [if_neg (by omega)]
    exact this
  have F3 : ∃ cs, Cbox (w2.alloc (.cells (mz l.length) 23)) w2.heap.size cs 23 := ⟨_, Cbox.new w2 _ _⟩
  have ngp : w2.heap.size ≠ p := by omega
  have hgw : w.heap.size ≤ w2.heap.size := B2.size
  go_upto_region 6 with fail
  generalize w2.alloc (.cells (mz l.length) 23) = w3 at *
  generalize w2.heap.size = gl at *
  clear uM R2 B2 hmk hpl g2 b1
  go_wp2_with fail
  go_loopw [22] (fun r22 wr => ∃ (i k : Nat), r22 = .int .i64 (i : Int) ∧ i ≤ l.length ∧ Hid (Rdr wr p bs k 0) ∧ Hid (bs.drop k = many vbytes (l.drop i)) ∧ Hid (Below w.heap.size w wr) ∧ Hid (∃ cs, Cbox wr gl cs 23) ∧ Hid (∀ j, j < l.length → At4 wr gl (j * 4) (pick l i j))) (fun r22 _ => l.length - (intOf r22).toNat)
  case atStart => exact ⟨0, k1, rfl, Nat.zero_le _, R3, D1, B3, F3, A3⟩
  case round =>
    obtain ⟨i, k, rfl, hi, HR, HD, HB, HF, HA⟩ := hrel
    by_cases hlt : i < l.length
    · have hlt' : (i : Int) < (l.length : Int) := by omega
      have j0 : (0 : Int) ≤ (i : Int) := by omega
      have e5 : IntKind.i64.wrap ((i : Int) + 1) = (i : Int) + 1 := by rw [IntKind.wrap_i64]; omega
      obtain ⟨v, hv⟩ : ∃ v, v = l[i] := ⟨_, rfl⟩
      have hdv : bs.drop k = vbytes v ++ many vbytes (l.drop (i + 1)) := by
        rw [HD.out, List.drop_eq_getElem_cons hlt, hv]
        show (_ :: _).flatMap vbytes = _
        rw [List.flatMap_cons]; rfl
      have TV := tv_any v (HVR.out v (by rw [hv]; exact List.getElem_mem hlt)) (HIN.out v (by rw [hv]; exact List.getElem_mem hlt)) p bs _ k wr HR.out hdv
      have HPICK : Hid (∀ j, j < l.length → pick l (i + 1) j = if j = i then v else pick l i j) := fun j hj => by
        unfold pick
        by_cases hji : j = i
        · subst hji
          rw [if_pos (by omega), if_pos rfl, hv, List.getD_eq_getElem?_getD, List.getElem?_eq_getElem hj]; rfl
        · rw [if_neg hji]
          by_cases h1 : j < i
          · rw [if_pos (by omega), if_pos h1]
          · rw [if_neg (by omega), if_neg h1]
      clear hdv hv HD
      go_wp2_with fail
      refine TV.mono ?_
      rintro e w4 ⟨rfl, ⟨k', R4, D4⟩, g4⟩
      have A4 : ∀ j, j < l.length → At4 w4 gl (j * 4) (pick l i j) := fun j hj => at4_grown (HA.out j hj) g4 (by simpa using ngp)
      obtain ⟨cs, F4⟩ : ∃ cs, Cbox w4 gl cs 23 := by obtain ⟨cs, h⟩ := HF.out; exact ⟨cs, cbox_grown h g4 (by simpa using ngp)⟩
      have B4 : Below w.heap.size w w4 := HB.out.trans (gb_below g4 hp HB.out.size)
      obtain ⟨a0, a1, a2, a3⟩ := A4 i hlt
      have f0 := F4.free (i * 4)
      have f1 := F4.free (i * 4 + 1)
      have f2 := F4.free (i * 4 + 2)
      have f3 := F4.free (i * 4 + 3)
      have gl4 := F4.lt
      have HA4 : Hid (∀ j, j < l.length → At4 w4 gl (j * 4) (pick l i j)) := A4
      have HF4 : Hid (Cbox w4 gl cs 23) := F4
      have HR4 : Hid (Rdr w4 p bs k' 0) := R4
      have HB4 : Hid (Below w.heap.size w w4) := B4
      have HD4 : Hid (bs.drop k' = many vbytes (l.drop (i + 1))) := D4
      clear A4 F4 R4 B4 D4 HA HF HR HB TV
      have RB4 : RB w4 p bs k' 0 gl gl := by
        have hz := (HA4.out 0 (by omega)).1
        rw [Nat.zero_mul] at hz
        exact ⟨HR4.out, ⟨ngp, _, hz⟩, ⟨ngp, _, hz⟩⟩
      go_wp2_with fail
      refine ⟨⟨i + 1, k', by rw [cast1], by omega, ?_, HD4.out, ?_, ?_, ?_⟩, by simp [intOf]; omega⟩
      · exact (((((RB4.set1 (j := i * 4) (v := .int .i64 v.k) (fun _ => ⟨_, rfl⟩)).set1 (j := i * 4 + 1) (v := .int .i64 v.n) (fun h => by omega)).set1 (j := i * 4 + 2) (v := .int .i64 v.m) (fun h => by omega)).set1 (j := i * 4 + 3) (v := .string ⟨v.b.toArray⟩) (fun h => by omega))).1
      · exact (((HB4.out.setCell (p := ⟨gl, i * 4, none⟩) hgw _).setCell (p := ⟨gl, i * 4 + 1, none⟩) hgw _).setCell (p := ⟨gl, i * 4 + 2, none⟩) hgw _).setCell (p := ⟨gl, i * 4 + 3, none⟩) hgw _
      · exact ⟨_, heap_setCell_same _ gl _ _ _ _ (heap_setCell_same _ gl _ _ _ _ (heap_setCell_same _ gl _ _ _ _ (heap_setCell_same w4 gl _ _ _ _ HF4.out)))⟩
      · intro j hj
        rw [HPICK.out j hj]
        by_cases hji : j = i
        · subst hji
          rw [if_pos rfl]
          exact at4_set (HA4.out j hlt)
        · rw [if_neg hji]
          exact at4_off _ _ _ _ (HA4.out j hj) (by omega)
    · have hlt' : ¬ (i : Int) < (l.length : Int) := by omega
      have hil : i = l.length := by omega
      have hnil : bs.drop k = [] := by
        have h := HD.out
        rw [hil, List.drop_length] at h
        exact h
      have hrd : rDone bs k 0 = 0 := by
        unfold rDone
        have := List.drop_eq_nil_iff.1 hnil
        rw [if_neg (by simp), if_neg (by omega)]
      have DN := done_any p bs k 0 wr HR.out
      rw [hrd] at DN
      have HV : Hid (Vs wr (some ⟨gl, 0, none⟩) l) := fun _ => ⟨gl, 0, rfl, fun j hj => by
        have := HA.out j hj
        unfold pick at this
        rw [if_pos (by omega), List.getD_eq_getElem?_getD, List.getElem?_eq_getElem hj] at this
        rw [Nat.zero_add]
        exact this⟩
      clear hnil hrd HD HR HF HA
      go_wp2_with fail
      refine DN.mono ?_
      rintro e w5 ⟨rfl, nq, rfl⟩
      have uD : Below wr.heap.size wr (wr.drewN nq) := ⟨rfl, rfl, rfl, Nat.le_refl _, fun _ _ => rfl⟩
      have B5 : Below w.heap.size w (wr.drewN nq) := below_trans HB.out uD
      have RW := HROW.out gl (wr.drewN nq) (hT.later B5) (HV.out.later uD)
      go_wp2_with fail
      refine RW.mono ?_
      rintro e w6 ⟨rfl, b6⟩
      have B6 := below_trans B5 b6
      have V6 := (HV.out.later uD).later b6
      go_wp2
      refine bodyPost_ret_by (v := .tuple #[.slice (some ⟨gl, 0, none⟩) l.length l.length, .int .i64 0]) ?_ rfl ⟨gl, rfl, V6, B6⟩
      simp [results, Tryz.results17, go_sem]
end Go.Proofs.YtibbenhplmmmiaaGreatDoor.Bk
