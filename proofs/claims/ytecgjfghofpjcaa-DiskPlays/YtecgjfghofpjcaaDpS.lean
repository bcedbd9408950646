/-
  The contracts of the document's Read, Load and Write.
-/
import Derived.Test.YtecgjfghofpjcaaDpR
import Derived.Test.YtecgjfghofpjcaaDkS0
import Derived.Deep.RegionLaw
namespace Go.Proofs.Ytecgjfghofpjcaa
open Go.RowKit Go.Maps

theorem step_append_run {P : Program} {w : World} {ops : Array Oper} {o : Oper} {a : Act} {K : Act → World → Prop} {Q : Exit → Act → World → Prop} {E : Prop} (hgd : o.guard = none) (s x : Operand) (t tx : TypeId)
    (ho : o.op = .call { callee := .builtin .append, args := #[s, x], argTypes := #[t, tx] }) (v xv : Value) (hv : a.eval s = v) (hx : a.eval x = xv) {v' : Value} {w' : World} (hr : (Builtin.append_ #[t, tx] o.type #[v, xv]).run P w = .ok v' w') (h : K (a.put o.dst v') w') :
    if Region.wanted o (yielded ops a.tmps) = true then Oper.wp P o a w K Q else E := by
  have hw : Region.wanted o (yielded ops a.tmps) = true := by simp [Region.wanted, hgd]
  rw [if_pos hw]
  unfold Oper.wp execOp
  simp only [ho, resolve, invoke, builtin, Sem.run_bind, Sem.run_pure, Result.andThen_ok, List.map_toArray, List.map_cons, List.map_nil, hv, hx, hr]
  exact h

/-- append([]byte{}, x...): new bytes that read as x. -/
theorem copied (W : World) (ao : Option Addr) (m cap : Nat) (xs : List UInt8) (hr : Rd W ao m cap xs) (hm : m ≤ 140737488355328) :
    ∃ a' c' W' g', (Builtin.append_ #[32, 32] 32 #[.slice (some ⟨W.heap.size, 0, none⟩) 0 0, .slice ao m cap]).run Try.prog (W.alloc (.cells #[] 5)) = .ok (.slice a' m c') W' ∧ Ob W' (.slice a' m c') g' xs ∧ Rd W' a' m c' xs ∧ Below W.heap.size W W' ∧ (∀ b off, a' = some ⟨b, off, none⟩ → W.heap.size ≤ b ∧ b < W'.heap.size) ∧ (∀ b, g' = some b → W.heap.size ≤ b) := by
  obtain ⟨i0, hi, hz0, hz1, hz2⟩ := info_parts (show (Try.prog.info? 5).map (fun i => (i.zero, i.size, i.bytes)) = some (some (.int .u8 0), 1, 1) by kernel_rfl)
  have b1 : Below W.heap.size W (W.alloc (.cells #[] 5)) := (Below.refl _ _).alloc (Nat.le_refl _) _
  have hN := heap_alloc_new W (.cells #[] 5)
  have ho : Ob (W.alloc (.cells #[] 5)) (.slice (some ⟨W.heap.size, 0, none⟩) 0 0) (some W.heap.size) [] :=
    .inr ⟨W.heap.size, 0, 0, #[], rfl, rfl, hN, Nat.le_refl _, Nat.zero_le _, Nat.zero_le _, fun j hj => by simp at hj⟩
  obtain ⟨v', W', g', hrun, ho', hC, hg⟩ := run_append_ob (P := Try.prog) 32 32 32 i0 _ Try.underlying32 hi hz0 hz1 hz2 rfl _ _ [] ho (.slice ao m cap) m xs (src_of_rd Try.underlying32 (hr.later b1)) (by simp; omega)
  rw [List.nil_append] at ho'
  have hgl : ∀ b, g' = some b → W.heap.size ≤ b := fun b e => by
    rcases hg with e1 | e1
    · rw [e1] at e; cases e; exact Nat.le_refl _
    · rw [e1] at e; cases e; exact b1.size
  obtain ⟨a', c', rfl, hR, h1, h2⟩ := ho'.form
  have hl := hr.1
  rw [hl] at hrun ho' hR
  refine ⟨a', c', W', g', hrun, ho', hR, b1.trans (hC.below b1.size (fun k e => by cases e; exact Nat.le_refl _)), fun b off e => ?_, hgl⟩
  have e2 := ho'.blk e
  exact ⟨hgl b e2, ho'.lt e2⟩

set_option maxRecDepth 20000 in
set_option maxHeartbeats 2000000 in
theorem rread_any (r : Rf) (no nf : Nat) (d : Dk) (a : Int) (w : World) (h : RkW w r no nf d) (hk : Dok d) :
    Calls Try.prog 28 #[.pointer (some ⟨r.R, 0, none⟩), .int .i64 a] w fun e w' => ∃ ao cap, e = .returned (.tuple #[.slice ao (d.read a).2.length cap, .int .i64 (d.read a).1]) ∧ Rd w' ao (d.read a).2.length cap (d.read a).2 ∧ Below w.heap.size w w' := by
  have c3 := h.c3
  by_cases hoff : d.off = true
  · have e0 : d.read a = (9, []) := if_pos hoff
    rw [e0]
    rw [hoff] at c3
    clear h hoff e0 hk
    go_enter Try.func28, Try.ntmps28
    go_wp2
    go_ret2
    exact ⟨none, 0, rfl, Rd.nil _, Below.refl _ _⟩
  · have hoff' : d.off = false := by simpa using hoff
    rw [hoff'] at c3
    have c4 := h.c4
    have c5 := h.c5
    have CE := rend_any r no nf d w h
    by_cases hhas : d.lo.has a = false
    · have e0 : d.read a = (1, []) := by unfold Dk.read; rw [if_neg hoff, if_pos hhas]
      rw [e0]
      by_cases hlt : a < d.lo.base
      · clear h hoff hoff' e0 hk hhas CE
        go_enter Try.func28, Try.ntmps28
        go_wp2
        go_ret2
        exact ⟨none, 0, rfl, Rd.nil _, Below.refl _ _⟩
      · have hgt : a > d.lo.fin := by
          unfold Lo.has at hhas
          simp only [Bool.and_eq_false_iff, decide_eq_false_iff_not] at hhas
          omega
        clear h hoff hoff' e0 hk hhas
        go_enter Try.func28, Try.ntmps28
        go_wp2_with (go_at_call 32; refine CE.mono ?_; rintro e w2 ⟨rfl, b2⟩)
        go_ret2
        exact ⟨none, 0, rfl, Rd.nil _, b2⟩
    · have hhas' : d.lo.has a = true := by simpa using hhas
      have e0 : d.read a = (0, d.lo.bytes.drop (a - d.lo.base).toNat) := by unfold Dk.read; rw [if_neg hoff, if_neg hhas]
      rw [e0]
      obtain ⟨q1, q2, q3, q4⟩ := Lo.has_inv hk.lo hhas'
      obtain ⟨n, hn⟩ : ∃ n, n = (a - d.lo.base).toNat := ⟨_, rfl⟩
      rw [← hn] at q2 q3 q4 ⊢
      have g1 : ¬ a < d.lo.base := by omega
      have g2 : ¬ a > d.lo.fin := by
        unfold Lo.has at hhas'
        simp only [Bool.and_eq_true, decide_eq_true_eq] at hhas'
        omega
      obtain ⟨B, hB⟩ : ∃ B, B = d.lo.base := ⟨_, rfl⟩
      obtain ⟨E, hE⟩ : ∃ E, E = d.lo.fin := ⟨_, rfl⟩
      obtain ⟨m, hm⟩ : ∃ m, m = d.lo.bytes.length := ⟨_, rfl⟩
      have hml := hk.lo.len'
      have H : Hid (RkW w r no nf d) := h
      have HM : Hid (d.lo.bytes.length = m ∧ m ≤ 16777216 ∧ n ≤ m) := ⟨hm.symm, by omega, by omega⟩
      have hRR : Rd w r.ao m r.cap d.lo.bytes := by rw [hm]; exact h.l
      obtain ⟨x, hs1, hs2⟩ := slice_lo hRR n (by omega)
      have hlt := bl_lt h.b
      rw [← hE] at CE g2
      rw [← hB] at c4 q3 g1
      rw [← hm] at c5
      have hdl : (d.lo.bytes.drop n).length = m - n := by rw [List.length_drop, hm]
      rw [hdl]
      clear h hoff hoff' e0 hk hhas hhas' q1 q2 q4 hn hB hE hm hml hdl
      go_enter Try.func28, Try.ntmps28
      go_upto_region 5 with (go_at_call 32; refine CE.mono ?_; rintro e w2 ⟨rfl, b2⟩)
      have H2 := H.out.later b2
      have d4 : w2.cell? ⟨r.R, 4, none⟩ = some (.int .i64 B) := (b2.cell (p := ⟨r.R, 4, none⟩) hlt).trans c4
      have d5 : w2.cell? ⟨r.R, 5, none⟩ = some (.slice r.ao m r.cap) := (b2.cell (p := ⟨r.R, 5, none⟩) hlt).trans c5
      have hr2 : Rd w2.drew r.ao m r.cap d.lo.bytes := by have := H2.l; rw [HM.out.1] at this; exact this
      obtain ⟨a', c', W3, g', hrun, -, hR3, b3, -, -⟩ := copied w2.drew x (m - n) (r.cap - n) (d.lo.bytes.drop n) (hs2 _ hr2) (by have := HM.out; omega)
      have hlt2 : r.R < w2.heap.size := Nat.lt_of_lt_of_le hlt b2.size
      have n1 : ¬ r.R = w2.heap.size := by omega
      have n2 : ¬ w2.heap.size = r.R := by omega
      have HB3 : Hid (Below w.heap.size w W3) := b2.trans (Below.mono (w := w2) ⟨b3.os, b3.tape, b3.output, b3.size, b3.block⟩ b2.size)
      have mixed : Try.prog.follows .mixedOrders = true := by kernel_rfl
      have HR3 : Hid (Rd W3 a' (m - n) c' (d.lo.bytes.drop n)) := hR3
      clear H2 hr2 hR3 b3 CE c4 c5 hs2 hRR hlt b2 c3
      go_region_law_o (refine step_append_run (by rfl) _ _ _ _ (by rfl) _ _ (by rfl) (by rfl) hrun ?_)
      all_goals
        go_wp2
        go_ret2
        exact ⟨a', c', rfl, HR3.out, HB3.out⟩

set_option maxRecDepth 20000 in
theorem rold_any (r : Rf) (no nf : Nat) (d : Dk) (page : Int) (hpg : wf64 page) (w : World) (h : RkW w r no nf d) :
    Calls Try.prog 54 #[.pointer (some ⟨r.R, 0, none⟩), .int .i64 page] w fun e w' => e = .returned (.string ⟨((d.old page).getD z512).toArray⟩) ∧ Below w.heap.size w w' := by
  have c7 := h.c7
  have L := h.o.look page hpg
  cases ho : d.old page with
  | some x =>
    rw [ho] at L
    clear h ho
    simp only [Option.getD_some, Option.isSome_some] at L ⊢
    go_enter Try.func54, Try.ntmps54
    go_wp2
    go_ret
    exact ⟨rfl, Below.refl _ _⟩
  | none =>
    rw [ho] at L
    obtain ⟨i0, hi, hz0, hz1, hz2⟩ := info_parts (show (Try.prog.info? 5).map (fun i => (i.zero, i.size, i.bytes)) = some (some (.int .u8 0), 1, 1) by kernel_rfl)
    have hmk : (Instr.makeSlice 32 (.int .i64 512) (.int .i64 512)).run Try.prog w = .ok (.slice (some ⟨w.heap.size, 0, none⟩) 512 512) (w.alloc (.cells (bv z512).toArray 5)) := by
      have h := run_make (P := Try.prog) w 32 5 i0 _ Try.underlying32 hi hz0 .i64 .i64 512 512 (by omega) (by omega) (by rw [hz2]; omega) (by omega)
      have e : madeCells (Value.int .u8 0).cells ((512 : Int).toNat * i0.size) = (bv z512).toArray := by
        rw [hz1, bv_z512]
        apply Array.ext
        · rw [size_madeCells]; rfl
        · intro j h1 h2
          rw [size_madeCells] at h1
          simp [madeCells, Value.cells, Nat.mod_one]
      rw [e] at h
      exact h
    obtain ⟨W1, hW1⟩ : ∃ W1, W1 = w.alloc (.cells (bv z512).toArray 5) := ⟨_, rfl⟩
    have b1 : Below w.heap.size w W1 := by rw [hW1]; exact (Below.refl _ _).alloc (Nat.le_refl _) _
    have hN1 : W1.heap[w.heap.size]? = some (.cells (bv z512).toArray 5 (0, 0)) := by rw [hW1]; exact heap_alloc_new w _
    rw [← hW1] at hmk
    have hr1 : Rd W1 (some ⟨w.heap.size, 0, none⟩) 512 512 z512 := ⟨z512_len, Nat.le_refl _, by decide, (fun e => by cases e), fun _ => ⟨_, 0, rfl, fun i hi => bl_cell hN1 (0 + i) _ (by rw [Nat.zero_add]; simpa using bv_at z512 i hi)⟩⟩
    have q1 := run_string_of (P := Try.prog) 32 9 5 Try.underlying32 Try.underlying5 Try.underlying9 hr1
    have HB : Hid (Below w.heap.size w W1) := b1
    simp only [Option.getD_none, Option.isSome_none] at L ⊢
    clear h ho hi hz0 hz1 hz2 b1 hN1 hr1 hW1
    go_enter Try.func54, Try.ntmps54
    go_wp2
    go_ret
    exact ⟨rfl, HB.out⟩

theorem cell_block {w : World} {b : Nat} {t : TypeId} {cs : Array Value} {f : Nat × Nat} (h : w.heap[b]? = some (.cells cs t f)) (i : Nat) (v : Value) (hv : cs[i]? = some v) : w.cell? ⟨b, i, none⟩ = some v := by
  simp [World.cell?, h, hv]

/-- []byte(s). -/
theorem bytes_of (W : World) (xs : List UInt8) (hx : xs.length ≤ 16777216) :
    ∃ c W', (convert 9 32 (.string ⟨xs.toArray⟩)).run Try.prog W = .ok (.slice (some ⟨W.heap.size, 0, none⟩) xs.length c) W' ∧ Rd W' (some ⟨W.heap.size, 0, none⟩) xs.length c xs ∧ Below W.heap.size W W' := by
  have hrun := run_bytes_of_string (P := Try.prog) W 9 32 5 ⟨xs.toArray⟩ Try.underlying9 Try.underlying32 Try.underlying5
  have hsz : (⟨xs.toArray⟩ : ByteArray).size = xs.length := by show xs.toArray.size = _; simp
  rw [hsz] at hrun
  have hge := grownCap_ge W xs.length 0 5
  have hle : grownCap W xs.length 0 5 ≤ maxLen := grownCap_le_maxLen W xs.length 0 5 (by unfold maxLen; omega)
  refine ⟨_, _, hrun, ⟨rfl, hge, hle, (fun e => by cases e), fun _ => ⟨_, 0, rfl, fun i hi => ?_⟩⟩, (Below.refl _ W).drew.alloc (Nat.le_refl _) _⟩
  refine cell_block (heap_alloc_new W.drew _) (0 + i) _ ?_
  rw [Nat.zero_add]
  unfold bytesRow
  rw [Array.getElem?_append_left (by simp; omega)]
  simp [hi]

set_option maxRecDepth 20000 in
set_option maxHeartbeats 2000000 in
theorem rload_any (r : Rf) (no nf : Nat) (d : Dk) (page : Int) (hpg : wf64 page) (w : World) (h : RkW w r no nf d) :
    Calls Try.prog 30 #[.pointer (some ⟨r.R, 0, none⟩), .int .i64 page] w fun e w' => ∃ ao cap, e = .returned (.tuple #[.slice ao (d.load page).2.length cap, .int .i64 (d.load page).1]) ∧ Rd w' ao (d.load page).2.length cap (d.load page).2 ∧ Below w.heap.size w w' := by
  have c3 := h.c3
  by_cases hoff : d.off = true
  · have e0 : d.load page = (9, []) := if_pos hoff
    rw [e0]
    rw [hoff] at c3
    clear h hoff e0
    go_enter Try.func30, Try.ntmps30
    go_wp2
    go_ret2
    exact ⟨none, 0, rfl, Rd.nil _, Below.refl _ _⟩
  · have hoff' : d.off = false := by simpa using hoff
    rw [hoff'] at c3
    have c1 := h.c1
    by_cases hh : d.hasP page = false
    · have e0 : d.load page = (1, []) := by unfold Dk.load; rw [if_neg hoff, if_pos hh]
      rw [e0]
      by_cases hlt : page < 0
      · clear h hoff hoff' e0 hh
        go_enter Try.func30, Try.ntmps30
        go_wp2
        go_ret2
        exact ⟨none, 0, rfl, Rd.nil _, Below.refl _ _⟩
      · have hge : page ≥ d.count := by
          unfold Dk.hasP at hh
          simp only [Bool.and_eq_false_iff, decide_eq_false_iff_not] at hh
          omega
        clear h hoff hoff' e0 hh
        go_enter Try.func30, Try.ntmps30
        go_wp2
        go_ret2
        exact ⟨none, 0, rfl, Rd.nil _, Below.refl _ _⟩
    · have e0 : d.load page = (0, (over d.fresh d.old page).getD z512) := by unfold Dk.load; rw [if_neg hoff, if_neg hh]
      rw [e0]
      have hh' : d.hasP page = true := by simpa using hh
      unfold Dk.hasP at hh'
      simp only [Bool.and_eq_true, decide_eq_true_eq] at hh'
      have g1 : ¬ page < 0 := by omega
      have g2 : ¬ page ≥ d.count := by omega
      have c8 := h.c8
      have L := h.f.look page hpg
      have hln := over_len h.f.1 h.o.1 page
      cases hf : d.fresh page with
      | some x =>
        have e1 : (over d.fresh d.old page).getD z512 = x := by unfold over; rw [hf]; rfl
        rw [e1] at hln ⊢
        rw [hf] at L
        obtain ⟨c, W', hcv, hR, hB⟩ := bytes_of w x (by omega)
        have FIN : Hid (Rd W' (some ⟨w.heap.size, 0, none⟩) x.length c x ∧ Below w.heap.size w W') := ⟨hR, hB⟩
        simp only [Option.getD_some, Option.isSome_some] at L
        clear h hoff hoff' e0 hh hh' hf e1 hR hB hln
        go_enter Try.func30, Try.ntmps30
        go_wp2
        go_ret2
        exact ⟨_, c, rfl, FIN.out.1, FIN.out.2⟩
      | none =>
        have e1 : (over d.fresh d.old page).getD z512 = (d.old page).getD z512 := by unfold over; rw [hf]
        rw [e1] at hln ⊢
        rw [hf] at L
        have CO := rold_any r no nf d page hpg w h
        obtain ⟨x, hx⟩ : ∃ x, x = (d.old page).getD z512 := ⟨_, rfl⟩
        rw [← hx] at CO hln ⊢
        have HX : Hid (x.length ≤ 16777216) := by exact (show x.length ≤ 16777216 by omega)
        simp only [Option.getD_none, Option.isSome_none] at L
        clear h hoff hoff' e0 hh hh' hf e1 hln hx
        go_enter Try.func30, Try.ntmps30
        go_wp2_with (go_at_call 54; refine CO.mono ?_; rintro e w2 ⟨rfl, b2⟩; obtain ⟨c, W', hcv, hR, hB⟩ := bytes_of w2 x HX.out; have FIN : Hid (Rd W' (some ⟨w2.heap.size, 0, none⟩) x.length c x ∧ Below w.heap.size w W') := ⟨hR, b2.trans (hB.mono b2.size)⟩)
        go_ret2
        exact ⟨_, c, rfl, FIN.out.1, FIN.out.2⟩

set_option maxRecDepth 20000 in
set_option maxHeartbeats 2000000 in
theorem rwrite_any (r : Rf) (no nf : Nat) (d : Dk) (page : Int) (hpg : wf64 page) (ao : Option Addr) (n cap : Nat) (bs : List UInt8) (w : World) (h : RkW w r no nf d) (hk : Dok d) (hr : Rd w ao n cap bs) (hS : 0 < n → ∀ b off, ao = some ⟨b, off, none⟩ → ¬ r.has b) (hn : nf < 9223372036854775807) (hm : n ≤ 9223372036854775807) :
    Calls Try.prog 25 #[.pointer (some ⟨r.R, 0, none⟩), .int .i64 page, .slice ao n cap] w fun e w' => e = .returned (.int .i64 (d.write page bs).1) ∧ RkW w' r no (nf + 1) (d.write page bs).2 ∧ Chg r.has w w' := by
  have c3 := h.c3
  have HF : Hid (RkW w r no (nf + 1) d) := ⟨h.b, h.l, h.a, h.o, h.f.mono (Nat.le_succ _), h.ne⟩
  by_cases hoff : d.off = true
  · have e0 : d.write page bs = (9, d) := if_pos hoff
    rw [e0]
    rw [hoff] at c3
    clear h hoff e0 hk hr hS
    go_enter Try.func25, Try.ntmps25
    go_wp2
    go_ret
    exact ⟨rfl, HF.out, Chg.refl _ _⟩
  · have hoff' : d.off = false := by simpa using hoff
    rw [hoff'] at c3
    have c1 := h.c1
    have hbl := hr.1
    by_cases hb : d.hasP page = false ∨ bs.length ≠ 512
    · have e0 : d.write page bs = (1, d) := by unfold Dk.write; rw [if_neg hoff, if_pos hb]
      rw [e0]
      by_cases hlt : page < 0
      · clear h hoff hoff' e0 hk hb hr hS hbl
        go_enter Try.func25, Try.ntmps25
        go_wp2
        go_ret
        exact ⟨rfl, HF.out, Chg.refl _ _⟩
      · by_cases hge : page ≥ d.count
        · clear h hoff hoff' e0 hk hb hr hS hbl
          go_enter Try.func25, Try.ntmps25
          go_wp2
          go_ret
          exact ⟨rfl, HF.out, Chg.refl _ _⟩
        · have hne : ¬ (n : Int) = 512 := by
            rcases hb with q | q
            · unfold Dk.hasP at q
              simp only [Bool.and_eq_false_iff, decide_eq_false_iff_not] at q
              omega
            · omega
          clear h hoff hoff' e0 hk hb hr hS hbl
          go_enter Try.func25, Try.ntmps25
          go_wp2
          go_ret
          exact ⟨rfl, HF.out, Chg.refl _ _⟩
    · obtain ⟨hb1, hb2⟩ := not_or.1 hb
      have hh' : d.hasP page = true := by simpa using hb1
      have hb3 : bs.length = 512 := by omega
      unfold Dk.hasP at hh'
      simp only [Bool.and_eq_true, decide_eq_true_eq] at hh'
      have g1 : ¬ page < 0 := by omega
      have g2 : ¬ page ≥ d.count := by omega
      obtain rfl : n = 512 := by omega
      have CO := rop_any r no nf d w h hk.lf
      by_cases hl : d.left = 0
      · have e0 : d.write page bs = (9, d.burnt) := by unfold Dk.write; rw [if_neg hoff, if_neg hb, if_pos hl]
        rw [e0]
        have ed : decide (d.left ≠ 0) = false := by simp [hl]
        rw [ed] at CO
        clear h hoff hoff' e0 hk hb hr hS hbl hh' hl hb1 hb2
        go_enter Try.func25, Try.ntmps25
        go_wp2_with (go_at_call 45; refine CO.mono ?_; rintro e w2 ⟨rfl, h2, hC2⟩)
        go_ret
        exact ⟨rfl, ⟨h2.b, h2.l, h2.a, h2.o, h2.f.mono (Nat.le_succ _), h2.ne⟩, hC2.mono (fun k _ e => .inl e)⟩
      · have e0 : d.write page bs = (0, { d.burnt with fresh := put d.fresh page bs }) := by unfold Dk.write; rw [if_neg hoff, if_neg hb, if_neg hl]
        rw [e0]
        have ed : decide (d.left ≠ 0) = true := by simp [hl]
        rw [ed] at CO
        have HS : Hid (∀ b off, ao = some ⟨b, off, none⟩ → ¬ r.has b) := hS (by omega)
        have HR : Hid (Rd w ao 512 cap bs) := hr
        have HN : Hid (nf < 9223372036854775807 ∧ wf64 page ∧ bs.length = 512) := ⟨hn, hpg, hb3⟩
        clear h hoff hoff' e0 hk hb hr hS hbl hh' hl hb1 hb2
        go_enter Try.func25, Try.ntmps25
        go_upto_region 7 with (go_at_call 45; refine CO.mono ?_; rintro e w2 ⟨rfl, h2, hC2⟩)
        have hr2 := HR.out.chg hC2 (fun _ b off e hb => HS.out b off e (.inl hb))
        have q1 := fun W (hW : Rd W ao 512 cap bs) => run_string_of (P := Try.prog) 32 9 5 Try.underlying32 Try.underlying5 Try.underlying9 hW
        obtain ⟨W3, hrun, hM, hC3⟩ := MS.store (W := w2.drew) h2.f HN.out.1 page HN.out.2.1 bs HN.out.2.2
        have d8 := h2.c8
        have d8' : W3.cell? ⟨r.R, 8, none⟩ = some (.map (some r.mf)) := hC3.cell (fun e => h2.f.ne h2.b e.symm) d8
        have FIN : Hid (RkW W3 r no (nf + 1) { d.burnt with fresh := put d.fresh page bs } ∧ Chg r.has w W3) := by
          have hC3' : Chg (fun k => k = r.mf) w2 W3 := ⟨hC3.os, hC3.tape, hC3.output, hC3.size, hC3.block⟩
          refine ⟨⟨?_, ?_, fun b off e => ⟨(h2.a b off e).1, (h2.a b off e).2.1, (h2.a b off e).2.2.1, Nat.lt_of_lt_of_le (h2.a b off e).2.2.2 hC3'.size⟩, ?_, hM, h2.ne⟩, hC2.trans hC3' (fun k _ e => .inl e) (fun k _ e => .inr (.inr (.inl e)))⟩
          · exact (hC3'.block _ (bl_lt h2.b) (fun e => h2.f.ne h2.b e.symm)).trans h2.b
          · exact h2.l.chg hC3' (fun _ b off e => (h2.a b off e).2.2.1)
          · exact h2.o.later (hC3'.block _ h2.o.lt h2.ne)
        have HQ : Hid ((convert 32 9 (.slice ao 512 cap)).run Try.prog w2.drew = .ok (.string ⟨bs.toArray⟩) w2.drew ∧ (convert 32 9 (.slice ao 512 cap)).run Try.prog W3 = .ok (.string ⟨bs.toArray⟩) W3) := ⟨q1 _ hr2, q1 _ (hr2.chg (w := w2.drew) hC3 (fun _ b off e hb => HS.out b off e (.inr (.inr (.inl hb)))))⟩
        clear h2 hC2 hr2 q1 hM hC3 CO
        go_region_held2 (fun W => W.cell? ⟨r.R, 8, none⟩ = some (.map (some r.mf)) ∧ (convert 32 9 (.slice ao 512 cap)).run Try.prog W = .ok (.string ⟨bs.toArray⟩) W) (first | exact ⟨d8, HQ.out.1⟩ | exact ⟨d8', HQ.out.2⟩) (fail)
        all_goals
          go_wp2
          go_ret
          exact ⟨rfl, FIN.out⟩
end Go.Proofs.Ytecgjfghofpjcaa
