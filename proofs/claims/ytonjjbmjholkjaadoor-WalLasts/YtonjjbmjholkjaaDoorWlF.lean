/-
  The walk of WalLasts.
-/
import Derived.Test.YtonjjbmjholkjaaDoorWlL
import Derived.Deep.CutBlock
import Derived.BigRegion
namespace Go.Proofs.YtonjjbmjholkjaaDoor
open Go.RowKit Go.Shelf

/-- An op as plain data. -/
structure Oq where
  kd : Int
  n : Int
  ao : Option Addr
  m : Nat
  cap : Nat
  torn : Bool
  B : List UInt8
def Oq.cells (s : Oq) : Array Value := #[.int .i64 s.kd, .int .i64 s.n, .slice s.ao s.m s.cap, .bool s.torn]
def OqW (w : World) (ao : Option Addr) (ss : List Oq) : Prop :=
  (0 < ss.length → ∃ b off, b < w.heap.size ∧ ao = some ⟨b, off, none⟩ ∧ ∀ i (h : i < ss.length), ∀ j v, ss[i].cells[j]? = some v → w.cell? ⟨b, off + i * 4 + j, none⟩ = some v) ∧ ∀ i (h : i < ss.length), Rd w ss[i].ao ss[i].m ss[i].cap ss[i].B ∧ wf64 ss[i].kd ∧ wf64 ss[i].n

/-- The round's op, in a block of its own. -/
structure Obx (W : World) (n₀ bx : Nat) (kd n : Int) (oa : Option Addr) (om oc : Nat) (torn : Bool) : Prop where
  b : W.heap[bx]? = some (.cells #[.int .i64 kd, .int .i64 n, .slice oa om oc, .bool torn] 35 (0, 0))
  g : n₀ ≤ bx

theorem Obx.c0 {W : World} {n₀ bx : Nat} {kd n : Int} {oa : Option Addr} {om oc : Nat} {torn : Bool} (h : Obx W n₀ bx kd n oa om oc torn) : W.cell? ⟨bx, 0, none⟩ = some (.int .i64 kd) := bl_cell h.b 0 _ rfl
theorem Obx.c1 {W : World} {n₀ bx : Nat} {kd n : Int} {oa : Option Addr} {om oc : Nat} {torn : Bool} (h : Obx W n₀ bx kd n oa om oc torn) : W.cell? ⟨bx, 1, none⟩ = some (.int .i64 n) := bl_cell h.b 1 _ rfl
theorem Obx.c2 {W : World} {n₀ bx : Nat} {kd n : Int} {oa : Option Addr} {om oc : Nat} {torn : Bool} (h : Obx W n₀ bx kd n oa om oc torn) : W.cell? ⟨bx, 2, none⟩ = some (.slice oa om oc) := bl_cell h.b 2 _ rfl
theorem Obx.c3 {W : World} {n₀ bx : Nat} {kd n : Int} {oa : Option Addr} {om oc : Nat} {torn : Bool} (h : Obx W n₀ bx kd n oa om oc torn) : W.cell? ⟨bx, 3, none⟩ = some (.bool torn) := bl_cell h.b 3 _ rfl
theorem Obx.later {W W' : World} {n₀ bx : Nat} {kd n : Int} {oa : Option Addr} {om oc : Nat} {torn : Bool} (h : Obx W n₀ bx kd n oa om oc torn) (hb : Below W.heap.size W W') : Obx W' n₀ bx kd n oa om oc torn := ⟨(hb.block bx (bl_lt h.b)).trans h.b, h.g⟩

theorem WS.box {w0 W W' : World} {x : Wl} {h : Wh} {d : Dk} {S M : List (List UInt8)} (s : WS w0 W x h d S M) {P : Nat → Prop} (hC : Chg P W W') (hP : ∀ k, P k → All x h k) {n₀ bx : Nat} {kd n : Int} {oa : Option Addr} {om oc : Nat} {torn : Bool} (hx : Obx W n₀ bx kd n oa om oc torn) : Obx W' n₀ bx kd n oa om oc torn :=
  ⟨(hC.block bx (bl_lt hx.b) (fun hp => absurd (s.wal.typed (hP _ hp) hx.b) (by unfold Wt; decide))).trans hx.b, hx.g⟩

theorem Obx.grown {W W' : World} {n₀ bx : Nat} {kd n : Int} {oa : Option Addr} {om oc : Nat} {torn : Bool} (h : Obx W n₀ bx kd n oa om oc torn) {n₁ k k' : Nat} {v v' : Value} {xs xs' : List Value} (_ : W'.ownsRow n₁ 9 1 v' k' xs') (hr : W.ownsRow n₁ 9 1 v k xs) (hg : W.grownBy W' v.ownBlock) : Obx W' n₀ bx kd n oa om oc torn :=
  ⟨(hg.block bx (bl_lt h.b) (fun e => by
    obtain ⟨_, _, c, hc⟩ := row_own hr e.symm
    exact cne h.b hc (by decide) rfl)).trans h.b, h.g⟩

theorem WS.fuse {w0 W W' : World} {x : Wl} {h : Wh} {d : Dk} {S M : List (List UInt8)} (s : WS w0 W x h d S M) {f : Int} (hC : Chg h.has W W') (hd : DkW W' h 0 0 { d with left := f }) : WS w0 W' x h { d with left := f } S M := by
  have k : ∀ b, b < W.heap.size → ¬ h.has b → W'.heap[b]? = W.heap[b]? := fun b h1 h2 => hC.block b h1 h2
  refine ⟨s.b.trans (hC.below s.b.size s.ge), ⟨(k _ (bl_lt s.wal.wb) s.wal.wd).trans s.wal.wb, s.wal.lb.chg hC (s.wal.lb.nd s.wal.dk), s.wal.im.chg hC s.wal.hg s.wal.hs, hd, s.wal.hW, s.wal.hL, s.wal.hg, s.wal.hs⟩, s.ge, s.bytes, s.sure, s.base, s.fresh, s.fs, s.fm⟩

/-- The first ones of bytes that lie somewhere. -/
theorem rd_hi {W : World} {ao : Option Addr} {m cap : Nat} {B : List UInt8} (h : Rd W ao m cap B) {t : Nat} (ht : t ≤ m) : Rd W ao t cap (B.take t) := by
  obtain ⟨h1, h2, h3, h4, h5⟩ := h
  refine ⟨by simp; omega, by omega, h3, fun e => ⟨by have := (h4 e).1; omega, (h4 e).2⟩, fun hp => ?_⟩
  obtain ⟨b, off, e, hc⟩ := h5 (by omega)
  refine ⟨b, off, e, fun i hi => ?_⟩
  rw [List.getElem_take]
  exact hc i (by simp at hi; omega)

theorem nine (x : Int) : ∃ (q : Int) (f : Nat), x.tmod 9 = q ∧ -9 < q ∧ q < 9 ∧ (q + 9).tmod 9 = (f : Int) ∧ f ≤ 8 := by
  obtain ⟨h1, h2⟩ := tmod_bd x 9 (by omega)
  refine ⟨_, ((x.tmod 9 + 9) % 9).toNat, rfl, h1, h2, ?_, by omega⟩
  rw [Int.tmod_eq_emod_of_nonneg (by omega)]
  omega

set_option maxRecDepth 20000 in
set_option maxHeartbeats 8000000 in
theorem lasts_any (aL : Option Addr) (cL : Nat) (ss : List Oq) (w : World) (hT : Tab w) (hL : OqW w aL ss) (_hnL : ss.length ≤ 9223372036854775807) :
    Calls Tryd.prog 3 #[.slice aL ss.length cL] w fun e w' => e = .returned (.bool true) ∧ Below w.heap.size w w' := by
  have CN := made_any 1048576 (by decide) (by decide) w
  have HT : Hid (Tab w) := hT
  have HLL : Hid (OqW w aL ss) := hL
  obtain ⟨nL, hnL⟩ : ∃ nL, ss.length = nL := ⟨_, rfl⟩
  have HNL : Hid (ss.length = nL) := hnL
  rw [hnL] at _hnL ⊢
  clear hT hL hnL
  go_enter Tryd.func3, Tryd.ntmps3
  go_wp2_with fail
  refine CN.mono ?_
  rintro e w1 ⟨h1, rfl, hd1, hH1, b1⟩
  have CO := ws_open HT.out b1 hd1 hH1 rfl [] [] rfl takeR_nil (fun x hx => by simp at hx)
  clear CN hd1 hH1 b1
  go_wp2_with fail
  refine CO.mono ?_
  rintro e w2 ⟨x2, h2, d2, xs, v, rfl, hB2, s2, -, -, hmost2, hm, hrow, -, -⟩
  obtain ⟨a, c, rfl⟩ := row_len hrow
  have CK := wknows_any w2 (s2.tab HT.out)
  have H2 : Hid (WS w w2 x2 h2 d2 [] [] ∧ d2.lo.most = 1048576 ∧ h2.B = h1.B) := ⟨s2, hmost2, hB2⟩
  clear CO s2 hmost2 hB2 hm hrow
  go_upto_block 0 with (first | (go_at_call 6; refine (wnum_any _ _).mono ?_; rintro e w' ⟨rfl, hw⟩; obtain rfl : w2 = w' := hw.symm) | (go_at_call 7; refine CK.mono ?_; rintro e w3 ⟨rfl, b3⟩))
  obtain ⟨hB, hhB⟩ : ∃ hB, hB = h1.B := ⟨_, rfl⟩
  obtain ⟨Wb, hWb⟩ : ∃ Wb, Wb = x2.Wb := ⟨_, rfl⟩
  have hI0 : Hid (LI w w3 hB 0 x2 h2 d2 [] [] (.slice none 0 0) (.slice none 0 0)) := ⟨H2.out.1.later b3, H2.out.2.2.trans hhB.symm, H2.out.2.1, World.ownsRow_nil _ _ _ _, World.ownsRow_nil _ _ _ _, (fun b e => by cases e), Nat.le_refl _, (fun y hy => by simp at hy)⟩
  rw [← hhB]
  clear CK H2 b3 hhB
  go_wp2_with fail
  go_loopw [4, 7, 8, 9] (fun s4 s7 s8 s9 wr => ∃ (i : Nat) (x : Wl) (h : Wh) (d : Dk) (S M : List (List UInt8)) (vS vM : Value), s9 = .int .i64 (i : Int) ∧ s4 = .pointer (some ⟨x.Wb, 0, none⟩) ∧ vS = s7 ∧ vM = s8 ∧ (∃ a c, vS = .slice a S.length c) ∧ (∃ a c, vM = .slice a M.length c) ∧
    Hid (i ≤ nL ∧ i ≤ 120 ∧ LI w wr hB i x h d S M vS vM)) (fun _ _ _ s9 _ => 120 - (intOf s9).toNat)
  case atStart => exact ⟨0, x2, h2, d2, [], [], _, _, rfl, rfl, rfl, rfl, ⟨none, 0, rfl⟩, ⟨none, 0, rfl⟩, Nat.zero_le _, by omega, hI0.out⟩
  case round =>
    obtain ⟨i, x, h, d, S, M, vS, vM, rfl, rfl, rfl, rfl, hSf, hMf, hH⟩ := hrel
    have HSL : Hid (∃ a c, vS = .slice a S.length c) := hSf
    have HML : Hid (∃ a c, vM = .slice a M.length c) := hMf
    obtain ⟨aS, cS, rfl⟩ := hSf
    obtain ⟨aM0, cM0, rfl⟩ := hMf
    by_cases hlt : i < nL
    · by_cases hlt2 : i < 120
      · have hii : i < ss.length := by rw [HNL.out]; exact hlt
        obtain ⟨lb, lo, hlb, rfl, hAt⟩ := HLL.out.1 (by omega)
        have hAt := hAt i hii
        obtain ⟨hro, hwk, hwn⟩ := HLL.out.2 i hii
        generalize ss[i] = s at hAt hro hwk hwn
        obtain ⟨kd, on, oa, om, oc, otn, oB⟩ := s
        dsimp only at hro hwk hwn
        have bwr := hH.out.2.2.ws.b
        have c0 : wr.cell? ⟨lb, lo + i * 4, none⟩ = some (.int .i64 kd) := (bwr.cell (p := ⟨lb, lo + i * 4, none⟩) hlb).trans (hAt 0 _ rfl)
        have c1 : wr.cell? ⟨lb, lo + i * 4 + 1, none⟩ = some (.int .i64 on) := (bwr.cell (p := ⟨lb, lo + i * 4 + 1, none⟩) hlb).trans (hAt 1 _ rfl)
        have c2 : wr.cell? ⟨lb, lo + i * 4 + 2, none⟩ = some (.slice oa om oc) := (bwr.cell (p := ⟨lb, lo + i * 4 + 2, none⟩) hlb).trans (hAt 2 _ rfl)
        have c3 : wr.cell? ⟨lb, lo + i * 4 + 3, none⟩ = some (.bool otn) := (bwr.cell (p := ⟨lb, lo + i * 4 + 3, none⟩) hlb).trans (hAt 3 _ rfl)
        have hl1 : (i : Int) < (nL : Int) := by omega
        have hl2 : (i : Int) < 120 := by omega
        have HRO : Hid (Rd w oa om oc oB ∧ wf64 kd ∧ wf64 on ∧ i < nL ∧ i < 120) := ⟨hro, hwk, hwn, hlt, hlt2⟩
        clear hAt hro hwk hwn bwr
        go_upto_block 2 with fail
        obtain ⟨W1, hW1⟩ : ∃ W1, W1 = wr.alloc (.cells #[.int .i64 kd, .int .i64 on, .slice oa om oc, .bool otn] 35) := ⟨_, rfl⟩
        rw [← hW1]
        have bW1 : Below wr.heap.size wr W1 := by rw [hW1]; exact (Below.refl _ _).alloc (Nat.le_refl _) _
        have hN1 : W1.heap[wr.heap.size]? = some (.cells #[.int .i64 kd, .int .i64 on, .slice oa om oc, .bool otn] 35 (0, 0)) := by rw [hW1]; exact heap_alloc_new wr _
        have HS1 : Hid (LI w W1 hB i x h d S M (.slice aS S.length cS) (.slice aM0 M.length cM0) ∧ Obx W1 w.heap.size wr.heap.size kd on oa om oc otn ∧ Rd W1 oa om oc oB) := ⟨hH.out.2.2.later bW1, ⟨hN1, hH.out.2.2.ws.b.size⟩, HRO.out.1.later (hH.out.2.2.ws.b.trans (bW1.mono hH.out.2.2.ws.b.size))⟩
        obtain ⟨bx, hbx⟩ : ∃ bx, bx = wr.heap.size := ⟨_, rfl⟩
        obtain ⟨Wx, hWx⟩ : ∃ Wx, Wx = x.Wb := ⟨_, rfl⟩
        have HXW : Hid (x.Wb = Wx) := hWx.symm
        rw [← hbx] at HS1 ⊢
        rw [← hWx]
        have hwi : IntKind.i64.wrap ((i : Int) + 1) = ((i + 1 : Nat) : Int) := by have := HRO.out.2.2.2.2; rw [IntKind.wrap_i64]; omega
        have HME : Hid (∀ z : Int, z = ((i + 1 : Nat) : Int) → 120 - z.toNat < 120 - (i : Int).toNat) := fun z hz => by have := HRO.out.2.2.2.2; omega
        have HWR : Hid (i + 1 ≤ nL ∧ i + 1 ≤ 120) := by have := HRO.out; exact ⟨by omega, by omega⟩
        clear hW1 bW1 hN1 c0 c1 c2 c3 hl1 hl2 hH hii hlb hlt hlt2 hbx hWx
        go_cut [7, 8, 11, 12, 13, 14] from 58 to 102 (fun s7 s8 s11 s12 s13 s14 wx => ∃ (x' : Wl) (h' : Wh) (d' : Dk) (S' M' : List (List UInt8)) (vS' vM' : Value) (f : Int), vS' = s7 ∧ vM' = s8 ∧ s11 = .int .i64 f ∧ (∃ a c, vS' = .slice a S'.length c) ∧ (∃ a c, vM' = .slice a M'.length c) ∧
          Hid ((f = 0 ∨ f = 9) ∧ x'.Wb = Wx ∧ LI w wx hB (i + 1) x' h' d' S' M' vS' vM' ∧ Obx wx w.heap.size bx kd on oa om oc otn))
        case first =>
              by_cases k0 : kd = 0
              · skip
                subst k0
                have e2 := HS1.out.2.1.c2
                by_cases hbig : 1000 < om
                · have hb1 : (1000 : Int) < (om : Int) := by omega
                  have hsl : ∀ W, (Instr.slice 33 (.slice oa om oc) none (some (.int .i64 1000)) none).run Tryd.prog W = .ok (.slice oa 1000 oc) W := fun W => run_hi_bytes (n := 1000) (by have := HRO.out.1.2.1; omega) (fun e => (HRO.out.1.2.2.2.1 e).2) (fun a e => by obtain ⟨b, off, q, _⟩ := HRO.out.1.2.2.2.2 (by omega); rw [e] at q; cases q; rfl)
                  obtain ⟨om2, hom2⟩ : ∃ om2, om2 = 1000 := ⟨_, rfl⟩
                  have HR2 : Hid (Rd W1 oa om2 oc (oB.take 1000) ∧ om2 ≤ 1000) := ⟨by rw [hom2]; exact rd_hi HS1.out.2.2 (by omega), by omega⟩
                  obtain ⟨B2, hB2⟩ : ∃ B2, B2 = oB.take 1000 := ⟨_, rfl⟩
                  rw [← hB2] at HR2
                  have HRO2 : Hid (∀ b off, 0 < om2 → oa = some ⟨b, off, none⟩ → w.heap.size ≤ b → False) := fun b off _ e hb => by
                    obtain ⟨b', off', q, hc⟩ := HRO.out.1.2.2.2.2 (by omega)
                    rw [q] at e
                    cases e
                    have h9 : b < w.heap.size := World.block_lt_of_cell? w _ (hc 0 (by rw [HRO.out.1.1]; omega))
                    omega
                  have e1000 : (1000 : Int) = (om2 : Int) := by omega
                  have e1000n : (1000 : Nat) = om2 := hom2.symm
                  rw [e1000n] at hsl
                  clear hbig hom2 hB2 e1000 e1000n
                  have CA := ws_append HT.out HS1.out.1.ws oa om2 oc B2 HR2.out.1 (by have := HR2.out.2; omega) (HS1.out.1.room (by have := HRO.out.2.2.2.2; omega) B2 (by rw [HR2.out.1.1]; exact HR2.out.2))
                  rw [HXW.out] at CA
                  go_wp2_with fail
                  refine CA.mono ?_
                  rintro e w8 ⟨at8, f8, x8, h8, d8, rfl, eW8, eB8, hor8, hmost8, -, hC8⟩
                  have hP8 : ∀ k, Fp x h k → All x h k := fun k hk => .inr hk
                  have hat : ¬ ((at8 : Int) < 0) := by omega
                  rcases hor8 with ⟨rfl, -, s8⟩ | ⟨rfl, -, s8⟩
                  · obtain ⟨rS8, rM8, hB8, hm8, -⟩ := HS1.out.1.call hC8 hP8 s8 eB8 hmost8
                    have hbx8 := HS1.out.1.ws.box hC8 hP8 HS1.out.2.1
                    have r8 : Rd w8 oa om2 oc B2 := HR2.out.1.chg hC8 (fun hp b off e hk => HRO2.out b off hp e (HS1.out.1.ws.all (.inr hk)))
                    have q8 := run_string_of (P := Tryd.prog) 33 9 5 Tryd.underlying33 Tryd.underlying5 Tryd.underlying9 r8
                    have hsz8 : w.heap.size ≤ w8.heap.size := s8.b.size
                    have b9 : Below w8.heap.size w8 (w8.alloc (.cells #[.string ⟨B2.toArray⟩] 9)) := (Below.refl _ _).alloc (Nat.le_refl _) _
                    obtain ⟨v10, w10, hrun, r10, hg10, hv10⟩ := srow_append (own_later rM8 b9) _ [B2] (src_new w8 B2) (Nat.le_trans hsz8 b9.size) (by have := HS1.out.1.cnt; have := HRO.out.2.2.2.2; simp; omega)
                    have s10 := ((s8.later b9).grown (own_later rM8 b9) hg10)
                    have apn : ∀ b, (Value.slice aS S.length cS).ownBlock = some b → v10.ownBlock ≠ some b := fun b e q => by
                      rcases hv10 with q2 | q2
                      · rw [q2] at q; exact HS1.out.1.ap b e q
                      · rw [q2] at q; cases q; have := (row_own rS8 e).2.1; have := b9.size; omega
                    have rS10 := row_kept (own_later rS8 b9) (fun b e => hg10.block b (row_own (own_later rS8 b9) e).2.1 (fun q => HS1.out.1.ap b e q.symm))
                    have hL10 : LI w w10 hB (i + 1) x8 h8 d8 S (M ++ [B2]) (.slice aS S.length cS) v10 := ⟨s10, hB8, hm8, rS10, r10, apn, by have := HS1.out.1.cnt; simp; omega, fun y hy => by
                      rw [← List.append_assoc] at hy
                      rcases List.mem_append.1 hy with q | q
                      · exact HS1.out.1.short y q
                      · rw [List.mem_singleton] at q; rw [q, HR2.out.1.1]; exact HR2.out.2⟩
                    have hbx10 := (hbx8.later b9).grown r10 (own_later rM8 b9) hg10
                    have HF : Hid (_ ∧ _ ∧ _) := And.intro hL10 (And.intro hbx10 eW8)
                    obtain ⟨a10, c10, rfl⟩ := row_len r10
                    clear CA hC8 hP8 s8 rS8 rM8 hB8 hm8 hbx8 r8 hsz8 b9 r10 hg10 hv10 s10 apn rS10 hL10 hbx10 eW8 eB8 hmost8
                    go_wp2_with (first | (go_at_call 6; refine (wnum_any _ _).mono ?_; rintro e w' ⟨rfl, hw⟩; obtain rfl : w8 = w' := hw.symm) | (at_builtin; refine wpList_append_run rfl _ _ _ _ rfl _ _ rfl rfl hrun ?_))
                    go_meet
                    case rel => exact ⟨x8, h8, d8, S, M ++ [B2], _, .slice a10 (M ++ [B2]).length c10, 0, rfl, (by simp), rfl, HSL.out, ⟨_, _, rfl⟩, .inl rfl, HF.out.2.2, HF.out.1, HF.out.2.1⟩
                  · obtain ⟨rS8, rM8, hB8, hm8, -⟩ := HS1.out.1.call hC8 hP8 s8 eB8 hmost8
                    have hbx8 := HS1.out.1.ws.box hC8 hP8 HS1.out.2.1
                    have hL8 : LI w w8 hB (i + 1) x8 h8 d8 S M (.slice aS S.length cS) (.slice aM0 M.length cM0) := ⟨s8, hB8, hm8, rS8, rM8, HS1.out.1.ap, Nat.le_succ_of_le HS1.out.1.cnt, HS1.out.1.short⟩
                    have HF : Hid (_ ∧ _ ∧ _) := And.intro hL8 (And.intro hbx8 eW8)
                    clear CA hC8 hP8 s8 rS8 rM8 hB8 hm8 hbx8 hL8 eW8 eB8 hmost8
                    go_wp2_with (go_at_call 6; refine (wnum_any _ _).mono ?_; rintro e w' ⟨rfl, hw⟩; obtain rfl : w8 = w' := hw.symm)
                    go_meet
                    case rel => exact ⟨x8, h8, d8, S, M, _, _, 9, rfl, rfl, rfl, HSL.out, HML.out, .inr rfl, HF.out.2.2, HF.out.1, HF.out.2.1⟩

                · have hb1 : ¬ (1000 : Int) < (om : Int) := by omega
                  obtain ⟨om2, hom2⟩ : ∃ om2, om2 = om := ⟨_, rfl⟩
                  have HR2 : Hid (Rd W1 oa om2 oc oB ∧ om2 ≤ 1000) := ⟨by rw [hom2]; exact HS1.out.2.2, by omega⟩
                  obtain ⟨B2, hB2⟩ : ∃ B2, B2 = oB := ⟨_, rfl⟩
                  rw [← hB2] at HR2
                  have HRO2 : Hid (∀ b off, 0 < om2 → oa = some ⟨b, off, none⟩ → w.heap.size ≤ b → False) := fun b off hp e hb => by
                    obtain ⟨b', off', q, hc⟩ := HRO.out.1.2.2.2.2 (by omega)
                    rw [q] at e
                    cases e
                    have h9 : b < w.heap.size := World.block_lt_of_cell? w _ (hc 0 (by rw [HRO.out.1.1]; omega))
                    omega
                  rw [← hom2] at hb1 e2
                  clear hbig hB2
                  subst hom2
                  have CA := ws_append HT.out HS1.out.1.ws oa om2 oc B2 HR2.out.1 (by have := HR2.out.2; omega) (HS1.out.1.room (by have := HRO.out.2.2.2.2; omega) B2 (by rw [HR2.out.1.1]; exact HR2.out.2))
                  rw [HXW.out] at CA
                  go_wp2_with fail
                  refine CA.mono ?_
                  rintro e w8 ⟨at8, f8, x8, h8, d8, rfl, eW8, eB8, hor8, hmost8, -, hC8⟩
                  have hP8 : ∀ k, Fp x h k → All x h k := fun k hk => .inr hk
                  have hat : ¬ ((at8 : Int) < 0) := by omega
                  rcases hor8 with ⟨rfl, -, s8⟩ | ⟨rfl, -, s8⟩
                  · obtain ⟨rS8, rM8, hB8, hm8, -⟩ := HS1.out.1.call hC8 hP8 s8 eB8 hmost8
                    have hbx8 := HS1.out.1.ws.box hC8 hP8 HS1.out.2.1
                    have r8 : Rd w8 oa om2 oc B2 := HR2.out.1.chg hC8 (fun hp b off e hk => HRO2.out b off hp e (HS1.out.1.ws.all (.inr hk)))
                    have q8 := run_string_of (P := Tryd.prog) 33 9 5 Tryd.underlying33 Tryd.underlying5 Tryd.underlying9 r8
                    have hsz8 : w.heap.size ≤ w8.heap.size := s8.b.size
                    have b9 : Below w8.heap.size w8 (w8.alloc (.cells #[.string ⟨B2.toArray⟩] 9)) := (Below.refl _ _).alloc (Nat.le_refl _) _
                    obtain ⟨v10, w10, hrun, r10, hg10, hv10⟩ := srow_append (own_later rM8 b9) _ [B2] (src_new w8 B2) (Nat.le_trans hsz8 b9.size) (by have := HS1.out.1.cnt; have := HRO.out.2.2.2.2; simp; omega)
                    have s10 := ((s8.later b9).grown (own_later rM8 b9) hg10)
                    have apn : ∀ b, (Value.slice aS S.length cS).ownBlock = some b → v10.ownBlock ≠ some b := fun b e q => by
                      rcases hv10 with q2 | q2
                      · rw [q2] at q; exact HS1.out.1.ap b e q
                      · rw [q2] at q; cases q; have := (row_own rS8 e).2.1; have := b9.size; omega
                    have rS10 := row_kept (own_later rS8 b9) (fun b e => hg10.block b (row_own (own_later rS8 b9) e).2.1 (fun q => HS1.out.1.ap b e q.symm))
                    have hL10 : LI w w10 hB (i + 1) x8 h8 d8 S (M ++ [B2]) (.slice aS S.length cS) v10 := ⟨s10, hB8, hm8, rS10, r10, apn, by have := HS1.out.1.cnt; simp; omega, fun y hy => by
                      rw [← List.append_assoc] at hy
                      rcases List.mem_append.1 hy with q | q
                      · exact HS1.out.1.short y q
                      · rw [List.mem_singleton] at q; rw [q, HR2.out.1.1]; exact HR2.out.2⟩
                    have hbx10 := (hbx8.later b9).grown r10 (own_later rM8 b9) hg10
                    have HF : Hid (_ ∧ _ ∧ _) := And.intro hL10 (And.intro hbx10 eW8)
                    obtain ⟨a10, c10, rfl⟩ := row_len r10
                    clear CA hC8 hP8 s8 rS8 rM8 hB8 hm8 hbx8 r8 hsz8 b9 r10 hg10 hv10 s10 apn rS10 hL10 hbx10 eW8 eB8 hmost8
                    go_wp2_with (first | (go_at_call 6; refine (wnum_any _ _).mono ?_; rintro e w' ⟨rfl, hw⟩; obtain rfl : w8 = w' := hw.symm) | (at_builtin; refine wpList_append_run rfl _ _ _ _ rfl _ _ rfl rfl hrun ?_))
                    go_meet
                    case rel => exact ⟨x8, h8, d8, S, M ++ [B2], _, .slice a10 (M ++ [B2]).length c10, 0, rfl, (by simp), rfl, HSL.out, ⟨_, _, rfl⟩, .inl rfl, HF.out.2.2, HF.out.1, HF.out.2.1⟩
                  · obtain ⟨rS8, rM8, hB8, hm8, -⟩ := HS1.out.1.call hC8 hP8 s8 eB8 hmost8
                    have hbx8 := HS1.out.1.ws.box hC8 hP8 HS1.out.2.1
                    have hL8 : LI w w8 hB (i + 1) x8 h8 d8 S M (.slice aS S.length cS) (.slice aM0 M.length cM0) := ⟨s8, hB8, hm8, rS8, rM8, HS1.out.1.ap, Nat.le_succ_of_le HS1.out.1.cnt, HS1.out.1.short⟩
                    have HF : Hid (_ ∧ _ ∧ _) := And.intro hL8 (And.intro hbx8 eW8)
                    clear CA hC8 hP8 s8 rS8 rM8 hB8 hm8 hbx8 hL8 eW8 eB8 hmost8
                    go_wp2_with (go_at_call 6; refine (wnum_any _ _).mono ?_; rintro e w' ⟨rfl, hw⟩; obtain rfl : w8 = w' := hw.symm)
                    go_meet
                    case rel => exact ⟨x8, h8, d8, S, M, _, _, 9, rfl, rfl, rfl, HSL.out, HML.out, .inr rfl, HF.out.2.2, HF.out.1, HF.out.2.1⟩

              · by_cases k1 : kd = 1
                · skip
                  subst k1
                  have CS := ws_sync HS1.out.1.ws
                  rw [HXW.out] at CS
                  go_wp2_with fail
                  refine CS.mono ?_
                  rintro e w8 ⟨f8, x8, h8, d8, rfl, eW8, eB8, hor8, hmost8, -, hC8⟩
                  have hP8 : ∀ k, Fp x h k → All x h k := fun k hk => .inr hk
                  rcases hor8 with ⟨rfl, s8⟩ | ⟨rfl, s8⟩
                  · obtain ⟨rS8, rM8, hB8, hm8, -⟩ := HS1.out.1.call hC8 hP8 s8 eB8 hmost8
                    have hbx8 := HS1.out.1.ws.box hC8 hP8 HS1.out.2.1
                    have hsz8 : w.heap.size ≤ w8.heap.size := s8.b.size
                    obtain ⟨v10, w10, hrun, r10, hg10, hv10⟩ := srow_append rS8 _ M (src_row rM8) hsz8 (by have := HS1.out.1.cnt; have := HRO.out.2.2.2.2; omega)
                    have s10 := s8.grown rS8 hg10
                    have hL10 : LI w w10 hB (i + 1) x8 h8 d8 (S ++ M) [] v10 (.slice none 0 0) := ⟨s10, hB8, hm8, r10, World.ownsRow_nil _ _ _ _, (fun b _ q => by cases q), by have := HS1.out.1.cnt; simp; omega, fun y hy => HS1.out.1.short y (by simpa using hy)⟩
                    have hbx10 := hbx8.grown r10 rS8 hg10
                    have HF : Hid (_ ∧ _ ∧ _) := And.intro hL10 (And.intro hbx10 eW8)
                    obtain ⟨a10, c10, rfl⟩ := row_len r10
                    clear CS hC8 hP8 s8 rS8 rM8 hB8 hm8 hbx8 hsz8 r10 hg10 hv10 s10 hL10 hbx10 eW8 eB8 hmost8
                    go_wp2_with (first | (go_at_call 6; refine (wnum_any _ _).mono ?_; rintro e w' ⟨rfl, hw⟩; obtain rfl : w8 = w' := hw.symm) | (at_builtin; refine wpList_append_run rfl _ _ _ _ rfl _ _ rfl rfl hrun ?_))
                    go_meet
                    case rel => exact ⟨x8, h8, d8, S ++ M, [], .slice a10 (S ++ M).length c10, _, 0, (by simp), rfl, rfl, ⟨_, _, rfl⟩, ⟨_, _, rfl⟩, .inl rfl, HF.out.2.2, HF.out.1, HF.out.2.1⟩
                  · obtain ⟨rS8, rM8, hB8, hm8, -⟩ := HS1.out.1.call hC8 hP8 s8 eB8 hmost8
                    have hbx8 := HS1.out.1.ws.box hC8 hP8 HS1.out.2.1
                    have hL8 : LI w w8 hB (i + 1) x8 h8 d8 S M (.slice aS S.length cS) (.slice aM0 M.length cM0) := ⟨s8, hB8, hm8, rS8, rM8, HS1.out.1.ap, Nat.le_succ_of_le HS1.out.1.cnt, HS1.out.1.short⟩
                    have HF : Hid (_ ∧ _ ∧ _) := And.intro hL8 (And.intro hbx8 eW8)
                    clear CS hC8 hP8 s8 rS8 rM8 hB8 hm8 hbx8 hL8 eW8 eB8 hmost8
                    go_wp2_with (go_at_call 6; refine (wnum_any _ _).mono ?_; rintro e w' ⟨rfl, hw⟩; obtain rfl : w8 = w' := hw.symm)
                    go_meet
                    case rel => exact ⟨x8, h8, d8, S, M, _, _, 9, rfl, rfl, rfl, HSL.out, HML.out, .inr rfl, HF.out.2.2, HF.out.1, HF.out.2.1⟩

                · by_cases k5 : kd = 5
                  · skip
                    subst k5
                    have e1 := HS1.out.2.1.c1
                    obtain ⟨q, f, hq, hq0, hq1, hqf, hf8⟩ := nine on
                    have hqw : IntKind.i64.wrap (q + 9) = q + 9 := by rw [IntKind.wrap_i64]; omega
                    have CF := fuse_any h 0 0 d (f : Int) (by omega) W1 HS1.out.1.ws.wal.dk
                    rw [HS1.out.1.hB] at CF
                    go_wp2_with fail
                    refine CF.mono ?_
                    rintro e w8 ⟨⟨v8, rfl⟩, hd8, hC8⟩
                    have s8 := HS1.out.1.ws.fuse hC8 hd8
                    have hP8 : ∀ k, h.has k → All x h k := fun k hk => .inr (.inr hk)
                    obtain ⟨rS8, rM8, hB8, hm8, -⟩ := HS1.out.1.call hC8 hP8 s8 rfl rfl
                    have hbx8 := HS1.out.1.ws.box hC8 hP8 HS1.out.2.1
                    have hL8 : LI w w8 hB (i + 1) x h { d with left := (f : Int) } S M (.slice aS S.length cS) (.slice aM0 M.length cM0) := ⟨s8, hB8, hm8, rS8, rM8, HS1.out.1.ap, Nat.le_succ_of_le HS1.out.1.cnt, HS1.out.1.short⟩
                    have HF : Hid (_ ∧ _ ∧ _) := And.intro hL8 (And.intro hbx8 HXW.out)
                    clear CF hC8 hP8 s8 rS8 rM8 hB8 hm8 hbx8 hL8 hd8
                    go_wp2
                    go_meet
                    case rel => exact ⟨x, h, _, S, M, _, _, 0, rfl, rfl, rfl, HSL.out, HML.out, .inl rfl, HF.out.2.2, HF.out.1, HF.out.2.1⟩

                  · skip
                    go_wp2
                    go_meet
                    case rel => exact ⟨x, h, d, S, M, _, _, 0, rfl, rfl, rfl, HSL.out, HML.out, .inl rfl, HXW.out, HS1.out.1.more, HS1.out.2.1⟩

        case rest =>
              obtain ⟨x', h', d', S', M', vS', vM', f, rfl, rfl, rfl, ⟨aS', cS', rfl⟩, ⟨aM', cM', rfl⟩, hcH⟩ := hcut
              have hff := hcH.out.1
              have hL : Hid (LI w wc hB (i + 1) x' h' d' S' M' (.slice aS' S'.length cS') (.slice aM' M'.length cM') ∧ Obx wc w.heap.size bx kd on oa om oc otn) := hcH.out.2.2
              have HXW' : Hid (x'.Wb = Wx) := hcH.out.2.1
              clear hcH HS1 HSL HML HXW
              rcases hff with rfl | rfl
              · by_cases k6d : kd = 6
                · subst k6d
                  have e0 := hL.out.2.c0
                  have e1 := hL.out.2.c1
                  have e3 := hL.out.2.c3
                  have CC := ws_crash hL.out.1.ws on otn (.slice none 0 0)
                  rw [hL.out.1.hB] at CC
                  go_wp2_with fail
                  refine CC.mono ?_
                  rintro e w6 ⟨⟨v6, rfl⟩, h6, lo6, k6, t6, eB6, hd6, hge6, hb6, hbase6, hmost6, hk6, hl6, ht6, hf6, -, hC6⟩
                  have CO := ws_open HT.out hb6 hd6 hge6 hbase6 (S' ++ M'.take k6) t6 hl6 ht6 hf6
                  rw [eB6] at CO
                  have hP6 : ∀ k, Wh.has h' k → All x' h' k := fun k hk => .inr (.inr hk)
                  have rS6 := hL.out.1.ws.row hL.out.1.rS hC6 hP6
                  have rM6 := hL.out.1.ws.row hL.out.1.rM hC6 hP6
                  have H6 : Hid (_ ∧ _ ∧ _ ∧ _ ∧ _ ∧ _) := And.intro hd6 (And.intro rS6 (And.intro rM6 (And.intro hk6 (And.intro hmost6 eB6))))
                  clear CC hd6 rS6 rM6 hge6 hb6 hbase6 hmost6 hk6 hl6 ht6 hf6 hC6 hP6 eB6 e0 e1 e3
                  go_wp2_with fail
                  refine CO.mono ?_
                  rintro e w7 ⟨x7, h7, d7, xs, v, rfl, hB7, s7, -, -, hm7, hm, hrow, hin, hC7⟩
                  have rS7 := row_dk H6.out.1 hC7 H6.out.2.1
                  have rM7 := row_dk H6.out.1 hC7 H6.out.2.2.1
                  have hsz7 : w.heap.size ≤ w7.heap.size := s7.b.size
                  have hcnt := hL.out.1.cnt
                  have hi120 : i + 1 ≤ 120 := HWR.out.2
                  obtain ⟨v9, w9, hrun9, r9, b9, hv9⟩ := row_anew w7 w.heap.size hsz7 _ S' (fun V hV => src_row (own_later rS7 hV)) (by omega)
                  obtain ⟨v10, w10, hrun10, r10, b10, hv10⟩ := row_on b9 hsz7 r9 hv9 _ M' (src_row (own_later rM7 b9)) (by omega)
                  obtain ⟨hlen, hall⟩ := told_all hm (own_later hrow b10) (fun y hy => (hin y hy).later b10) r10 (fun j hj => by
                    rcases Nat.lt_or_ge j S'.length with q | q
                    · rw [List.getElem?_append_left q, List.getElem?_append_left q]
                    · rw [List.getElem?_append_right q, List.getElem?_append_right q, List.getElem?_take_of_lt (by simp at hj; omega)])
                  obtain ⟨nA, hnA⟩ : ∃ nA, nA = (S' ++ M').length := ⟨_, rfl⟩
                  obtain ⟨nm, hnm⟩ : ∃ nm, nm = xs.length := ⟨_, rfl⟩
                  have hlT : nm = S'.length + k6 := by rw [hnm, hlen]; have := H6.out.2.2.2.1; simp; omega
                  have hlA : nA = S'.length + M'.length := by rw [hnA]; simp
                  have hg1 : ¬ ((nm : Int) < (S'.length : Int)) := by omega
                  have hg2 : ¬ ((nA : Int) < (nm : Int)) := by have := H6.out.2.2.2.1; omega
                  obtain ⟨a9, c9, rfl⟩ := row_len r9
                  obtain ⟨a10, c10, rfl⟩ := row_len r10
                  obtain ⟨av, cv, rfl⟩ := row_len hrow
                  rw [← hnm] at hall hrow ⊢
                  rw [← hnA] at hrun10 hall
                  have s10 := s7.later b10
                  have H10 : Hid (WS w w10 x7 h7 d7 (S' ++ M'.take k6) [] ∧ w10.ownsRow w.heap.size 9 1 (.slice a10 nA c10) (S' ++ M').length (svT (S' ++ M')) ∧ d7.lo.most = 1048576 ∧ h7.B = hB) := ⟨s10, by rw [hnA]; exact r10, hm7.trans (H6.out.2.2.2.2.1.trans hL.out.1.most), hB7⟩
                  have HALL : Hid (∀ j, j < nm → ∃ gv cv' ga cA off ao cap y, Value.slice av nm cv = .slice (some ⟨gv, 0, none⟩) nm cv' ∧ Value.slice a10 nA c10 = .slice (some ⟨ga, 0, none⟩) nA cA ∧ Tj w10 gv ga j off ao cap y ∧ (0 < j → ∃ off' ao' cap' y', Tj w10 gv ga (j - 1) off' ao' cap' y' ∧ off' < off)) := fun j hj => hall j (by rw [← hlen, ← hnm]; exact hj)
                  have HN : Hid (nm = S'.length + k6 ∧ nA = S'.length + M'.length ∧ k6 ≤ M'.length ∧ (S' ++ M').length = nA ∧ nA ≤ 120 ∧ nm ≤ nA ∧ S'.length + M'.length ≤ i + 1) := ⟨hlT, hlA, H6.out.2.2.2.1, hnA.symm, by omega, by have := H6.out.2.2.2.1; omega, hcnt⟩
                  clear CO hB7 s7 hm7 hm hrow hin hC7 rS7 rM7 hsz7 hcnt hi120 r9 b9 hv9 r10 b10 hv10 hall hlen hnA hnm hlT hlA s10
                  go_upto_region 36 with (first | (at_builtin; refine wpList_append_run rfl (.tmp 128) (.tmp 129) 32 32 rfl _ _ rfl rfl hrun9 ?_) | (at_builtin; refine wpList_append_run rfl (.tmp 130) (.tmp 131) 32 32 rfl _ _ rfl rfl hrun10 ?_))
                  clear hrun9 hrun10
                  go_wp2_with (go_at_call 6; refine (wnum_any _ _).mono ?_; rintro e w' ⟨rfl, hw⟩; obtain rfl : w10 = w' := hw.symm)
                  go_loopw [19] (fun s19 wr2 => ∃ j : Nat, s19 = .int .i64 (j : Int) ∧ Hid (j ≤ nm ∧ Below w10.heap.size w10 wr2)) (fun s19 _ => nm - (intOf s19).toNat)
                  case atStart => exact ⟨0, rfl, Nat.zero_le _, Below.refl _ _⟩
                  case round =>
                    obtain ⟨j, rfl, hj⟩ := hrel
                    have mixed : Tryd.prog.follows .mixedOrders = true := by kernel_rfl
                    by_cases hjn : j < nm
                    · have hjl : (j : Int) < (nm : Int) := by omega
                      obtain ⟨gv, cv', ga, cA, yo, ya, yc, y, hv, hA, tj0, hp⟩ := HALL.out j hjn
                      cases hv
                      cases hA
                      have hbj := hj.out.2
                      have tj := tj0.later hbj
                      have t0 := tj.c0
                      have t1 := tj.c1
                      have ta := tj.al
                      have tc := run_string_of (P := Tryd.prog) 33 9 5 Tryd.underlying33 Tryd.underlying5 Tryd.underlying9 (tj.rd.later (Below.refl _ _).drew)
                      have hjA : (j : Int) < (nA : Int) := by have := HN.out; omega
                      have hwj : IntKind.i64.wrap ((j : Int) + 1) = ((j + 1 : Nat) : Int) := by have := HN.out; rw [IntKind.wrap_i64]; omega
                      have HMJ : Hid (∀ z : Int, z = ((j + 1 : Nat) : Int) → nm - z.toNat < nm - (j : Int).toNat) := fun z hz => by omega
                      by_cases hj0 : j = 0
                      · subst hj0
                        have t1 : wr.cell? ⟨gv, 1, none⟩ = some (.slice ya y.length yc) := t1
                        have hjn' : 0 < nm := hjn
                        have hjA' : 0 < nA := by omega
                        clear tj tj0 hp t0
                        clear HALL HRO HLL
                        go_upto_region 41 with fail
                        refine wp_region_Z (S := fun V : World => V.cell? ⟨gv, 1, none⟩ = some (.slice ya y.length yc) ∧ V.cell? ⟨ga, 0, none⟩ = some (.string ⟨y.toArray⟩) ∧ (convert 33 9 (.slice ya y.length yc)).run Tryd.prog V = .ok (.string ⟨y.toArray⟩) V) (z := zOf [] []) mixed ?_
                        have hHeld : (fun V : World => V.cell? ⟨gv, 1, none⟩ = some (.slice ya y.length yc) ∧ V.cell? ⟨ga, 0, none⟩ = some (.string ⟨y.toArray⟩) ∧ (convert 33 9 (.slice ya y.length yc)).run Tryd.prog V = .ok (.string ⟨y.toArray⟩) V) wr.drew := ⟨t1, ta, tc⟩
                        refine wpAnyZ_take (zOf_all _ _) (i := 0) (oi := { dst := some 160, op := Op.move (Operand.tmp 16), type := 26, pos := "law.go:190", after := #[], guard := none }) (v := ?_) rfl (by kernel_rfl) (by kernel_rfl) (by kernel_rfl) (by kernel_rfl) (fun _ _ _ h => h) (Or.inl ⟨by rfl, ?_⟩) hHeld ?_
                        rotate_left
                        · (intro W hSw; (try dsimp only at hSw); first | (go_simp; done) | (go_simp; with_reducible rfl))
                        try simp only [Act.put, List.setIfInBounds_toArray, List.set_cons_zero, List.set_cons_succ]
                        refine wpAnyZ_take (zOf_all _ _) (i := 1) (oi := { dst := some 161, op := Op.move (Operand.tmp 19), type := 3, pos := "law.go:190", after := #[], guard := none }) (v := ?_) rfl (by kernel_rfl) (by kernel_rfl) (by kernel_rfl) (by kernel_rfl) (fun _ _ _ h => h) (Or.inl ⟨by rfl, ?_⟩) hHeld ?_
                        rotate_left
                        · (intro W hSw; (try dsimp only at hSw); first | (go_simp; done) | (go_simp; with_reducible rfl))
                        try simp only [Act.put, List.setIfInBounds_toArray, List.set_cons_zero, List.set_cons_succ]
                        refine wpAnyZ_take (zOf_all _ _) (i := 2) (oi := { dst := some 162, op := Op.indexAddr 26 (Operand.tmp 160) (Operand.tmp 161), type := 0, pos := "law.go:190", after := #[{ on := 0, ground := Ground.data }, { on := 1, ground := Ground.data }], guard := none }) (v := ?_) rfl (by kernel_rfl) (by kernel_rfl) (by kernel_rfl) (by kernel_rfl) (fun _ _ _ h => h) (Or.inl ⟨by rfl, ?_⟩) hHeld ?_
                        rotate_left
                        · (intro W hSw; (try dsimp only at hSw); first | (go_simp; done) | (go_simp; with_reducible rfl))
                        try simp only [Act.put, List.setIfInBounds_toArray, List.set_cons_zero, List.set_cons_succ]
                        refine wpAnyZ_take (zOf_all _ _) (i := 3) (oi := { dst := some 163, op := Op.fieldAddr 42 (Operand.tmp 162) 1, type := 0, pos := "law.go:190", after := #[{ on := 2, ground := Ground.data }], guard := none }) (v := ?_) rfl (by kernel_rfl) (by kernel_rfl) (by kernel_rfl) (by kernel_rfl) (fun _ _ _ h => h) (Or.inl ⟨by rfl, ?_⟩) hHeld ?_
                        rotate_left
                        · (intro W hSw; (try dsimp only at hSw); first | (go_simp; done) | (go_simp; with_reducible rfl))
                        try simp only [Act.put, List.setIfInBounds_toArray, List.set_cons_zero, List.set_cons_succ]
                        refine wpAnyZ_take (zOf_all _ _) (i := 4) (oi := { dst := some 164, op := Op.load 33 (Operand.tmp 163), type := 33, pos := "law.go:190", after := #[{ on := 3, ground := Ground.data }], guard := none }) (v := ?_) rfl (by kernel_rfl) (by kernel_rfl) (by kernel_rfl) (by kernel_rfl) (fun _ _ _ h => h) (Or.inl ⟨by rfl, ?_⟩) hHeld ?_
                        rotate_left
                        · (intro W hSw; (try dsimp only at hSw); first | (go_simp; done) | (go_simp; with_reducible rfl))
                        try simp only [Act.put, List.setIfInBounds_toArray, List.set_cons_zero, List.set_cons_succ]
                        refine wpAnyZ_take (zOf_all _ _) (i := 5) (oi := { dst := some 165, op := Op.convert 33 9 (Operand.tmp 164), type := 9, pos := "law.go:190", after := #[{ on := 4, ground := Ground.data }], guard := none }) (v := ?_) rfl (by kernel_rfl) (by kernel_rfl) (by kernel_rfl) (by kernel_rfl) (fun _ _ _ h => h) (Or.inl ⟨by rfl, ?_⟩) hHeld ?_
                        rotate_left
                        · (intro W hSw; (try dsimp only at hSw); first | (go_simp; done) | (go_simp; with_reducible rfl))
                        try simp only [Act.put, List.setIfInBounds_toArray, List.set_cons_zero, List.set_cons_succ]
                        refine wpAnyZ_take (zOf_all _ _) (i := 6) (oi := { dst := some 166, op := Op.move (Operand.tmp 18), type := 32, pos := "law.go:190", after := #[], guard := none }) (v := ?_) rfl (by kernel_rfl) (by kernel_rfl) (by kernel_rfl) (by kernel_rfl) (fun _ _ _ h => h) (Or.inl ⟨by rfl, ?_⟩) hHeld ?_
                        rotate_left
                        · (intro W hSw; (try dsimp only at hSw); first | (go_simp; done) | (go_simp; with_reducible rfl))
                        try simp only [Act.put, List.setIfInBounds_toArray, List.set_cons_zero, List.set_cons_succ]
                        refine wpAnyZ_take (zOf_all _ _) (i := 7) (oi := { dst := some 167, op := Op.move (Operand.tmp 19), type := 3, pos := "law.go:190", after := #[], guard := none }) (v := ?_) rfl (by kernel_rfl) (by kernel_rfl) (by kernel_rfl) (by kernel_rfl) (fun _ _ _ h => h) (Or.inl ⟨by rfl, ?_⟩) hHeld ?_
                        rotate_left
                        · (intro W hSw; (try dsimp only at hSw); first | (go_simp; done) | (go_simp; with_reducible rfl))
                        try simp only [Act.put, List.setIfInBounds_toArray, List.set_cons_zero, List.set_cons_succ]
                        refine wpAnyZ_take (zOf_all _ _) (i := 8) (oi := { dst := some 168, op := Op.indexAddr 32 (Operand.tmp 166) (Operand.tmp 167), type := 0, pos := "law.go:190", after := #[{ on := 6, ground := Ground.data }, { on := 7, ground := Ground.data }], guard := none }) (v := ?_) rfl (by kernel_rfl) (by kernel_rfl) (by kernel_rfl) (by kernel_rfl) (fun _ _ _ h => h) (Or.inl ⟨by rfl, ?_⟩) hHeld ?_
                        rotate_left
                        · (intro W hSw; (try dsimp only at hSw); first | (go_simp; done) | (go_simp; with_reducible rfl))
                        try simp only [Act.put, List.setIfInBounds_toArray, List.set_cons_zero, List.set_cons_succ]
                        refine wpAnyZ_take (zOf_all _ _) (i := 9) (oi := { dst := some 169, op := Op.load 9 (Operand.tmp 168), type := 9, pos := "law.go:190", after := #[{ on := 8, ground := Ground.data }], guard := none }) (v := ?_) rfl (by kernel_rfl) (by kernel_rfl) (by kernel_rfl) (by kernel_rfl) (fun _ _ _ h => h) (Or.inl ⟨by rfl, ?_⟩) hHeld ?_
                        rotate_left
                        · (intro W hSw; (try dsimp only at hSw); first | (go_simp; done) | (go_simp; with_reducible rfl))
                        try simp only [Act.put, List.setIfInBounds_toArray, List.set_cons_zero, List.set_cons_succ]
                        refine wpAnyZ_take (zOf_all _ _) (i := 10) (oi := { dst := some 170, op := Op.binOp BinOp.neq 9 (Operand.tmp 165) (Operand.tmp 169) 9, type := 4, pos := "law.go:190", after := #[{ on := 5, ground := Ground.data }, { on := 9, ground := Ground.data }], guard := none }) (v := ?_) rfl (by kernel_rfl) (by kernel_rfl) (by kernel_rfl) (by kernel_rfl) (fun _ _ _ h => h) (Or.inl ⟨by rfl, ?_⟩) hHeld ?_
                        rotate_left
                        · (intro W hSw; (try dsimp only at hSw); first | (go_simp; done) | (go_simp; with_reducible rfl))
                        try simp only [Act.put, List.setIfInBounds_toArray, List.set_cons_zero, List.set_cons_succ]
                        refine wpAnyZ_take (zOf_all _ _) (i := 11) (oi := { dst := some 171, op := Op.move (Operand.tmp 170), type := 4, pos := "law.go:190", after := #[{ on := 10, ground := Ground.data }], guard := none }) (v := ?_) rfl (by kernel_rfl) (by kernel_rfl) (by kernel_rfl) (by kernel_rfl) (fun _ _ _ h => h) (Or.inl ⟨by rfl, ?_⟩) hHeld ?_
                        rotate_left
                        · (intro W hSw; (try dsimp only at hSw); first | (go_simp; done) | (go_simp; with_reducible rfl))
                        try simp only [Act.put, List.setIfInBounds_toArray, List.set_cons_zero, List.set_cons_succ]
                        refine wpAnyZ_take (zOf_all _ _) (i := 12) (oi := { dst := some 172, op := Op.move (Operand.tmp 19), type := 3, pos := "law.go:190", after := #[{ on := 11, ground := Ground.guard }], guard := some (11, false) }) (v := ?_) rfl (by kernel_rfl) (by kernel_rfl) (by kernel_rfl) (by kernel_rfl) (fun _ _ _ h => h) (Or.inl ⟨by rfl, ?_⟩) hHeld ?_
                        rotate_left
                        · (intro W hSw; (try dsimp only at hSw); first | (go_simp; done) | (go_simp; with_reducible rfl))
                        try simp only [Act.put, List.setIfInBounds_toArray, List.set_cons_zero, List.set_cons_succ]
                        refine wpAnyZ_take (zOf_all _ _) (i := 13) (oi := { dst := some 173, op := Op.binOp BinOp.gtr 3 (Operand.tmp 172) (Operand.const (Value.int IntKind.i64 0)) 3, type := 4, pos := "law.go:190", after := #[{ on := 12, ground := Ground.data }, { on := 11, ground := Ground.guard }], guard := some (11, false) }) (v := ?_) rfl (by kernel_rfl) (by kernel_rfl) (by kernel_rfl) (by kernel_rfl) (fun _ _ _ h => h) (Or.inl ⟨by rfl, ?_⟩) hHeld ?_
                        rotate_left
                        · (intro W hSw; (try dsimp only at hSw); first | (go_simp; done) | (go_simp; with_reducible rfl))
                        try simp only [Act.put, List.setIfInBounds_toArray, List.set_cons_zero, List.set_cons_succ]
                        refine wpAnyZ_take (zOf_all _ _) (i := 14) (oi := { dst := some 174, op := Op.move (Operand.tmp 173), type := 4, pos := "law.go:190", after := #[{ on := 13, ground := Ground.data }, { on := 11, ground := Ground.chain }, { on := 11, ground := Ground.guard }], guard := some (11, false) }) (v := ?_) rfl (by kernel_rfl) (by kernel_rfl) (by kernel_rfl) (by kernel_rfl) (fun _ _ _ h => h) (Or.inl ⟨by rfl, ?_⟩) hHeld ?_
                        rotate_left
                        · (intro W hSw; (try dsimp only at hSw); first | (go_simp; done) | (go_simp; with_reducible rfl))
                        try simp only [Act.put, List.setIfInBounds_toArray, List.set_cons_zero, List.set_cons_succ]
                        refine wpAnyZ_take (zOf_all _ _) (i := 15) (oi := { dst := some 175, op := Op.move (Operand.tmp 16), type := 26, pos := "law.go:190", after := #[{ on := 14, ground := Ground.guard }], guard := some (14, true) }) (v := undef) rfl (by kernel_rfl) (by kernel_rfl) (by kernel_rfl) (by kernel_rfl) (fun _ _ _ h => h) (Or.inr ⟨by rfl, rfl⟩) hHeld ?_
                        try simp only [Act.put, List.setIfInBounds_toArray, List.set_cons_zero, List.set_cons_succ]
                        refine wpAnyZ_take (zOf_all _ _) (i := 16) (oi := { dst := some 176, op := Op.move (Operand.tmp 19), type := 3, pos := "law.go:190", after := #[{ on := 14, ground := Ground.guard }], guard := some (14, true) }) (v := undef) rfl (by kernel_rfl) (by kernel_rfl) (by kernel_rfl) (by kernel_rfl) (fun _ _ _ h => h) (Or.inr ⟨by rfl, rfl⟩) hHeld ?_
                        try simp only [Act.put, List.setIfInBounds_toArray, List.set_cons_zero, List.set_cons_succ]
                        refine wpAnyZ_take (zOf_all _ _) (i := 17) (oi := { dst := some 177, op := Op.indexAddr 26 (Operand.tmp 175) (Operand.tmp 176), type := 0, pos := "law.go:190", after := #[{ on := 15, ground := Ground.data }, { on := 16, ground := Ground.data }, { on := 14, ground := Ground.guard }], guard := some (14, true) }) (v := undef) rfl (by kernel_rfl) (by kernel_rfl) (by kernel_rfl) (by kernel_rfl) (fun _ _ _ h => h) (Or.inr ⟨by rfl, rfl⟩) hHeld ?_
                        try simp only [Act.put, List.setIfInBounds_toArray, List.set_cons_zero, List.set_cons_succ]
                        refine wpAnyZ_take (zOf_all _ _) (i := 18) (oi := { dst := some 178, op := Op.fieldAddr 42 (Operand.tmp 177) 0, type := 0, pos := "law.go:190", after := #[{ on := 17, ground := Ground.data }, { on := 14, ground := Ground.guard }], guard := some (14, true) }) (v := undef) rfl (by kernel_rfl) (by kernel_rfl) (by kernel_rfl) (by kernel_rfl) (fun _ _ _ h => h) (Or.inr ⟨by rfl, rfl⟩) hHeld ?_
                        try simp only [Act.put, List.setIfInBounds_toArray, List.set_cons_zero, List.set_cons_succ]
                        refine wpAnyZ_take (zOf_all _ _) (i := 19) (oi := { dst := some 179, op := Op.load 3 (Operand.tmp 178), type := 3, pos := "law.go:190", after := #[{ on := 18, ground := Ground.data }, { on := 14, ground := Ground.guard }], guard := some (14, true) }) (v := undef) rfl (by kernel_rfl) (by kernel_rfl) (by kernel_rfl) (by kernel_rfl) (fun _ _ _ h => h) (Or.inr ⟨by rfl, rfl⟩) hHeld ?_
                        try simp only [Act.put, List.setIfInBounds_toArray, List.set_cons_zero, List.set_cons_succ]
                        refine wpAnyZ_take (zOf_all _ _) (i := 20) (oi := { dst := some 180, op := Op.move (Operand.tmp 16), type := 26, pos := "law.go:190", after := #[{ on := 14, ground := Ground.guard }], guard := some (14, true) }) (v := undef) rfl (by kernel_rfl) (by kernel_rfl) (by kernel_rfl) (by kernel_rfl) (fun _ _ _ h => h) (Or.inr ⟨by rfl, rfl⟩) hHeld ?_
                        try simp only [Act.put, List.setIfInBounds_toArray, List.set_cons_zero, List.set_cons_succ]
                        refine wpAnyZ_take (zOf_all _ _) (i := 21) (oi := { dst := some 181, op := Op.move (Operand.tmp 19), type := 3, pos := "law.go:190", after := #[{ on := 14, ground := Ground.guard }], guard := some (14, true) }) (v := undef) rfl (by kernel_rfl) (by kernel_rfl) (by kernel_rfl) (by kernel_rfl) (fun _ _ _ h => h) (Or.inr ⟨by rfl, rfl⟩) hHeld ?_
                        try simp only [Act.put, List.setIfInBounds_toArray, List.set_cons_zero, List.set_cons_succ]
                        refine wpAnyZ_take (zOf_all _ _) (i := 22) (oi := { dst := some 182, op := Op.binOp BinOp.sub 3 (Operand.tmp 181) (Operand.const (Value.int IntKind.i64 1)) 3, type := 3, pos := "law.go:190", after := #[{ on := 21, ground := Ground.data }, { on := 14, ground := Ground.guard }], guard := some (14, true) }) (v := undef) rfl (by kernel_rfl) (by kernel_rfl) (by kernel_rfl) (by kernel_rfl) (fun _ _ _ h => h) (Or.inr ⟨by rfl, rfl⟩) hHeld ?_
                        try simp only [Act.put, List.setIfInBounds_toArray, List.set_cons_zero, List.set_cons_succ]
                        refine wpAnyZ_take (zOf_all _ _) (i := 23) (oi := { dst := some 183, op := Op.indexAddr 26 (Operand.tmp 180) (Operand.tmp 182), type := 0, pos := "law.go:190", after := #[{ on := 20, ground := Ground.data }, { on := 22, ground := Ground.data }, { on := 14, ground := Ground.guard }], guard := some (14, true) }) (v := undef) rfl (by kernel_rfl) (by kernel_rfl) (by kernel_rfl) (by kernel_rfl) (fun _ _ _ h => h) (Or.inr ⟨by rfl, rfl⟩) hHeld ?_
                        try simp only [Act.put, List.setIfInBounds_toArray, List.set_cons_zero, List.set_cons_succ]
                        refine wpAnyZ_take (zOf_all _ _) (i := 24) (oi := { dst := some 184, op := Op.fieldAddr 42 (Operand.tmp 183) 0, type := 0, pos := "law.go:190", after := #[{ on := 23, ground := Ground.data }, { on := 14, ground := Ground.guard }], guard := some (14, true) }) (v := undef) rfl (by kernel_rfl) (by kernel_rfl) (by kernel_rfl) (by kernel_rfl) (fun _ _ _ h => h) (Or.inr ⟨by rfl, rfl⟩) hHeld ?_
                        try simp only [Act.put, List.setIfInBounds_toArray, List.set_cons_zero, List.set_cons_succ]
                        refine wpAnyZ_take (zOf_all _ _) (i := 25) (oi := { dst := some 185, op := Op.load 3 (Operand.tmp 184), type := 3, pos := "law.go:190", after := #[{ on := 24, ground := Ground.data }, { on := 14, ground := Ground.guard }], guard := some (14, true) }) (v := undef) rfl (by kernel_rfl) (by kernel_rfl) (by kernel_rfl) (by kernel_rfl) (fun _ _ _ h => h) (Or.inr ⟨by rfl, rfl⟩) hHeld ?_
                        try simp only [Act.put, List.setIfInBounds_toArray, List.set_cons_zero, List.set_cons_succ]
                        refine wpAnyZ_take (zOf_all _ _) (i := 26) (oi := { dst := some 186, op := Op.binOp BinOp.leq 3 (Operand.tmp 179) (Operand.tmp 185) 3, type := 4, pos := "law.go:190", after := #[{ on := 19, ground := Ground.data }, { on := 25, ground := Ground.data }, { on := 14, ground := Ground.guard }], guard := some (14, true) }) (v := undef) rfl (by kernel_rfl) (by kernel_rfl) (by kernel_rfl) (by kernel_rfl) (fun _ _ _ h => h) (Or.inr ⟨by rfl, rfl⟩) hHeld ?_
                        try simp only [Act.put, List.setIfInBounds_toArray, List.set_cons_zero, List.set_cons_succ]
                        refine wpAnyZ_take (zOf_all _ _) (i := 27) (oi := { dst := some 187, op := Op.pick (Operand.tmp 174) (Operand.tmp 186) (Operand.const (Value.bool false)), type := 4, pos := "law.go:190", after := #[{ on := 14, ground := Ground.data }, { on := 26, ground := Ground.data }, { on := 11, ground := Ground.guard }], guard := some (11, false) }) (v := ?_) rfl (by kernel_rfl) (by kernel_rfl) (by kernel_rfl) (by kernel_rfl) (fun _ _ _ h => h) (Or.inl ⟨by rfl, ?_⟩) hHeld ?_
                        rotate_left
                        · (intro W hSw; (try dsimp only at hSw); first | (go_simp; done) | (go_simp; with_reducible rfl))
                        try simp only [Act.put, List.setIfInBounds_toArray, List.set_cons_zero, List.set_cons_succ]
                        refine wpAnyZ_take (zOf_all _ _) (i := 28) (oi := { dst := some 188, op := Op.pick (Operand.tmp 171) (Operand.const (Value.bool true)) (Operand.tmp 187), type := 4, pos := "law.go:190", after := #[{ on := 11, ground := Ground.data }, { on := 27, ground := Ground.data }], guard := none }) (v := ?_) rfl (by kernel_rfl) (by kernel_rfl) (by kernel_rfl) (by kernel_rfl) (fun _ _ _ h => h) (Or.inl ⟨by rfl, ?_⟩) hHeld ?_
                        rotate_left
                        · (intro W hSw; (try dsimp only at hSw); first | (go_simp; done) | (go_simp; with_reducible rfl))
                        try simp only [Act.put, List.setIfInBounds_toArray, List.set_cons_zero, List.set_cons_succ]
                        refine wpAnyZ_tail (by kernel_rfl) ?_
                        clear hHeld
                        refine wpAny_done (by kernel_rfl) ?_ _
                        skip
                        go_wp2
                        go_roundw
                        case rel => exact ⟨1, by first | rfl | rw [hwj], by omega, hbj.drew⟩
                        case measure => exact HMJ.out _ (by first | rfl | omega)
                      · have hk0 : (0 : Int) < (j : Int) := by omega
                        obtain ⟨yo1, ya1, yc1, y1, tp0, hlt0⟩ := hp (by omega)
                        have tp := (tp0.later hbj).c0
                        have hle : ¬ ((yo : Int) ≤ (yo1 : Int)) := by omega
                        have hw1 : IntKind.i64.wrap ((j : Int) - 1) = ((j - 1 : Nat) : Int) := by have := HN.out; rw [IntKind.wrap_i64]; omega
                        have hj1 : ((j - 1 : Nat) : Int) < (nm : Int) := by omega
                        have hk0n : 0 < j := by omega
                        have hlen1 : ¬ (yo ≤ yo1) := by omega
                        have hjAn : j < nA := by omega
                        have hj1n : j - 1 < nm := by omega
                        clear hj0 tj tj0 hp tp0 hlt0
                        clear HALL HRO HLL
                        go_upto_region 41 with fail
                        refine wp_region_Z (S := fun V : World => V.cell? ⟨gv, j * 2 + 1, none⟩ = some (.slice ya y.length yc) ∧ V.cell? ⟨ga, j, none⟩ = some (.string ⟨y.toArray⟩) ∧ (convert 33 9 (.slice ya y.length yc)).run Tryd.prog V = .ok (.string ⟨y.toArray⟩) V ∧ V.cell? ⟨gv, j * 2, none⟩ = some (.int .i64 (yo : Int)) ∧ V.cell? ⟨gv, (j - 1) * 2, none⟩ = some (.int .i64 (yo1 : Int))) (z := zOf [] []) mixed ?_
                        have hHeld : (fun V : World => V.cell? ⟨gv, j * 2 + 1, none⟩ = some (.slice ya y.length yc) ∧ V.cell? ⟨ga, j, none⟩ = some (.string ⟨y.toArray⟩) ∧ (convert 33 9 (.slice ya y.length yc)).run Tryd.prog V = .ok (.string ⟨y.toArray⟩) V ∧ V.cell? ⟨gv, j * 2, none⟩ = some (.int .i64 (yo : Int)) ∧ V.cell? ⟨gv, (j - 1) * 2, none⟩ = some (.int .i64 (yo1 : Int))) wr.drew := ⟨t1, ta, tc, t0, tp⟩
                        refine wpAnyZ_take (zOf_all _ _) (i := 0) (oi := { dst := some 160, op := Op.move (Operand.tmp 16), type := 26, pos := "law.go:190", after := #[], guard := none }) (v := ?_) rfl (by kernel_rfl) (by kernel_rfl) (by kernel_rfl) (by kernel_rfl) (fun _ _ _ h => h) (Or.inl ⟨by rfl, ?_⟩) hHeld ?_
                        rotate_left
                        · (intro W hSw; (try dsimp only at hSw); first | (go_simp; done) | (go_simp; with_reducible rfl))
                        try simp only [Act.put, List.setIfInBounds_toArray, List.set_cons_zero, List.set_cons_succ]
                        refine wpAnyZ_take (zOf_all _ _) (i := 1) (oi := { dst := some 161, op := Op.move (Operand.tmp 19), type := 3, pos := "law.go:190", after := #[], guard := none }) (v := ?_) rfl (by kernel_rfl) (by kernel_rfl) (by kernel_rfl) (by kernel_rfl) (fun _ _ _ h => h) (Or.inl ⟨by rfl, ?_⟩) hHeld ?_
                        rotate_left
                        · (intro W hSw; (try dsimp only at hSw); first | (go_simp; done) | (go_simp; with_reducible rfl))
                        try simp only [Act.put, List.setIfInBounds_toArray, List.set_cons_zero, List.set_cons_succ]
                        refine wpAnyZ_take (zOf_all _ _) (i := 2) (oi := { dst := some 162, op := Op.indexAddr 26 (Operand.tmp 160) (Operand.tmp 161), type := 0, pos := "law.go:190", after := #[{ on := 0, ground := Ground.data }, { on := 1, ground := Ground.data }], guard := none }) (v := ?_) rfl (by kernel_rfl) (by kernel_rfl) (by kernel_rfl) (by kernel_rfl) (fun _ _ _ h => h) (Or.inl ⟨by rfl, ?_⟩) hHeld ?_
                        rotate_left
                        · (intro W hSw; (try dsimp only at hSw); first | (go_simp; done) | (go_simp; with_reducible rfl))
                        try simp only [Act.put, List.setIfInBounds_toArray, List.set_cons_zero, List.set_cons_succ]
                        refine wpAnyZ_take (zOf_all _ _) (i := 3) (oi := { dst := some 163, op := Op.fieldAddr 42 (Operand.tmp 162) 1, type := 0, pos := "law.go:190", after := #[{ on := 2, ground := Ground.data }], guard := none }) (v := ?_) rfl (by kernel_rfl) (by kernel_rfl) (by kernel_rfl) (by kernel_rfl) (fun _ _ _ h => h) (Or.inl ⟨by rfl, ?_⟩) hHeld ?_
                        rotate_left
                        · (intro W hSw; (try dsimp only at hSw); first | (go_simp; done) | (go_simp; with_reducible rfl))
                        try simp only [Act.put, List.setIfInBounds_toArray, List.set_cons_zero, List.set_cons_succ]
                        refine wpAnyZ_take (zOf_all _ _) (i := 4) (oi := { dst := some 164, op := Op.load 33 (Operand.tmp 163), type := 33, pos := "law.go:190", after := #[{ on := 3, ground := Ground.data }], guard := none }) (v := ?_) rfl (by kernel_rfl) (by kernel_rfl) (by kernel_rfl) (by kernel_rfl) (fun _ _ _ h => h) (Or.inl ⟨by rfl, ?_⟩) hHeld ?_
                        rotate_left
                        · (intro W hSw; (try dsimp only at hSw); first | (go_simp; done) | (go_simp; with_reducible rfl))
                        try simp only [Act.put, List.setIfInBounds_toArray, List.set_cons_zero, List.set_cons_succ]
                        refine wpAnyZ_take (zOf_all _ _) (i := 5) (oi := { dst := some 165, op := Op.convert 33 9 (Operand.tmp 164), type := 9, pos := "law.go:190", after := #[{ on := 4, ground := Ground.data }], guard := none }) (v := ?_) rfl (by kernel_rfl) (by kernel_rfl) (by kernel_rfl) (by kernel_rfl) (fun _ _ _ h => h) (Or.inl ⟨by rfl, ?_⟩) hHeld ?_
                        rotate_left
                        · (intro W hSw; (try dsimp only at hSw); first | (go_simp; done) | (go_simp; with_reducible rfl))
                        try simp only [Act.put, List.setIfInBounds_toArray, List.set_cons_zero, List.set_cons_succ]
                        refine wpAnyZ_take (zOf_all _ _) (i := 6) (oi := { dst := some 166, op := Op.move (Operand.tmp 18), type := 32, pos := "law.go:190", after := #[], guard := none }) (v := ?_) rfl (by kernel_rfl) (by kernel_rfl) (by kernel_rfl) (by kernel_rfl) (fun _ _ _ h => h) (Or.inl ⟨by rfl, ?_⟩) hHeld ?_
                        rotate_left
                        · (intro W hSw; (try dsimp only at hSw); first | (go_simp; done) | (go_simp; with_reducible rfl))
                        try simp only [Act.put, List.setIfInBounds_toArray, List.set_cons_zero, List.set_cons_succ]
                        refine wpAnyZ_take (zOf_all _ _) (i := 7) (oi := { dst := some 167, op := Op.move (Operand.tmp 19), type := 3, pos := "law.go:190", after := #[], guard := none }) (v := ?_) rfl (by kernel_rfl) (by kernel_rfl) (by kernel_rfl) (by kernel_rfl) (fun _ _ _ h => h) (Or.inl ⟨by rfl, ?_⟩) hHeld ?_
                        rotate_left
                        · (intro W hSw; (try dsimp only at hSw); first | (go_simp; done) | (go_simp; with_reducible rfl))
                        try simp only [Act.put, List.setIfInBounds_toArray, List.set_cons_zero, List.set_cons_succ]
                        refine wpAnyZ_take (zOf_all _ _) (i := 8) (oi := { dst := some 168, op := Op.indexAddr 32 (Operand.tmp 166) (Operand.tmp 167), type := 0, pos := "law.go:190", after := #[{ on := 6, ground := Ground.data }, { on := 7, ground := Ground.data }], guard := none }) (v := ?_) rfl (by kernel_rfl) (by kernel_rfl) (by kernel_rfl) (by kernel_rfl) (fun _ _ _ h => h) (Or.inl ⟨by rfl, ?_⟩) hHeld ?_
                        rotate_left
                        · (intro W hSw; (try dsimp only at hSw); first | (go_simp; done) | (go_simp; with_reducible rfl))
                        try simp only [Act.put, List.setIfInBounds_toArray, List.set_cons_zero, List.set_cons_succ]
                        refine wpAnyZ_take (zOf_all _ _) (i := 9) (oi := { dst := some 169, op := Op.load 9 (Operand.tmp 168), type := 9, pos := "law.go:190", after := #[{ on := 8, ground := Ground.data }], guard := none }) (v := ?_) rfl (by kernel_rfl) (by kernel_rfl) (by kernel_rfl) (by kernel_rfl) (fun _ _ _ h => h) (Or.inl ⟨by rfl, ?_⟩) hHeld ?_
                        rotate_left
                        · (intro W hSw; (try dsimp only at hSw); first | (go_simp; done) | (go_simp; with_reducible rfl))
                        try simp only [Act.put, List.setIfInBounds_toArray, List.set_cons_zero, List.set_cons_succ]
                        refine wpAnyZ_take (zOf_all _ _) (i := 10) (oi := { dst := some 170, op := Op.binOp BinOp.neq 9 (Operand.tmp 165) (Operand.tmp 169) 9, type := 4, pos := "law.go:190", after := #[{ on := 5, ground := Ground.data }, { on := 9, ground := Ground.data }], guard := none }) (v := ?_) rfl (by kernel_rfl) (by kernel_rfl) (by kernel_rfl) (by kernel_rfl) (fun _ _ _ h => h) (Or.inl ⟨by rfl, ?_⟩) hHeld ?_
                        rotate_left
                        · (intro W hSw; (try dsimp only at hSw); first | (go_simp; done) | (go_simp; with_reducible rfl))
                        try simp only [Act.put, List.setIfInBounds_toArray, List.set_cons_zero, List.set_cons_succ]
                        refine wpAnyZ_take (zOf_all _ _) (i := 11) (oi := { dst := some 171, op := Op.move (Operand.tmp 170), type := 4, pos := "law.go:190", after := #[{ on := 10, ground := Ground.data }], guard := none }) (v := ?_) rfl (by kernel_rfl) (by kernel_rfl) (by kernel_rfl) (by kernel_rfl) (fun _ _ _ h => h) (Or.inl ⟨by rfl, ?_⟩) hHeld ?_
                        rotate_left
                        · (intro W hSw; (try dsimp only at hSw); first | (go_simp; done) | (go_simp; with_reducible rfl))
                        try simp only [Act.put, List.setIfInBounds_toArray, List.set_cons_zero, List.set_cons_succ]
                        refine wpAnyZ_take (zOf_all _ _) (i := 12) (oi := { dst := some 172, op := Op.move (Operand.tmp 19), type := 3, pos := "law.go:190", after := #[{ on := 11, ground := Ground.guard }], guard := some (11, false) }) (v := ?_) rfl (by kernel_rfl) (by kernel_rfl) (by kernel_rfl) (by kernel_rfl) (fun _ _ _ h => h) (Or.inl ⟨by rfl, ?_⟩) hHeld ?_
                        rotate_left
                        · (intro W hSw; (try dsimp only at hSw); first | (go_simp; done) | (go_simp; with_reducible rfl))
                        try simp only [Act.put, List.setIfInBounds_toArray, List.set_cons_zero, List.set_cons_succ]
                        refine wpAnyZ_take (zOf_all _ _) (i := 13) (oi := { dst := some 173, op := Op.binOp BinOp.gtr 3 (Operand.tmp 172) (Operand.const (Value.int IntKind.i64 0)) 3, type := 4, pos := "law.go:190", after := #[{ on := 12, ground := Ground.data }, { on := 11, ground := Ground.guard }], guard := some (11, false) }) (v := ?_) rfl (by kernel_rfl) (by kernel_rfl) (by kernel_rfl) (by kernel_rfl) (fun _ _ _ h => h) (Or.inl ⟨by rfl, ?_⟩) hHeld ?_
                        rotate_left
                        · (intro W hSw; (try dsimp only at hSw); first | (go_simp; done) | (go_simp; with_reducible rfl))
                        try simp only [Act.put, List.setIfInBounds_toArray, List.set_cons_zero, List.set_cons_succ]
                        refine wpAnyZ_take (zOf_all _ _) (i := 14) (oi := { dst := some 174, op := Op.move (Operand.tmp 173), type := 4, pos := "law.go:190", after := #[{ on := 13, ground := Ground.data }, { on := 11, ground := Ground.chain }, { on := 11, ground := Ground.guard }], guard := some (11, false) }) (v := ?_) rfl (by kernel_rfl) (by kernel_rfl) (by kernel_rfl) (by kernel_rfl) (fun _ _ _ h => h) (Or.inl ⟨by rfl, ?_⟩) hHeld ?_
                        rotate_left
                        · (intro W hSw; (try dsimp only at hSw); first | (go_simp; done) | (go_simp; with_reducible rfl))
                        try simp only [Act.put, List.setIfInBounds_toArray, List.set_cons_zero, List.set_cons_succ]
                        refine wpAnyZ_take (zOf_all _ _) (i := 15) (oi := { dst := some 175, op := Op.move (Operand.tmp 16), type := 26, pos := "law.go:190", after := #[{ on := 14, ground := Ground.guard }], guard := some (14, true) }) (v := ?_) rfl (by kernel_rfl) (by kernel_rfl) (by kernel_rfl) (by kernel_rfl) (fun _ _ _ h => h) (Or.inl ⟨by rfl, ?_⟩) hHeld ?_
                        rotate_left
                        · (intro W hSw; (try dsimp only at hSw); first | (go_simp; done) | (go_simp; with_reducible rfl))
                        try simp only [Act.put, List.setIfInBounds_toArray, List.set_cons_zero, List.set_cons_succ]
                        refine wpAnyZ_take (zOf_all _ _) (i := 16) (oi := { dst := some 176, op := Op.move (Operand.tmp 19), type := 3, pos := "law.go:190", after := #[{ on := 14, ground := Ground.guard }], guard := some (14, true) }) (v := ?_) rfl (by kernel_rfl) (by kernel_rfl) (by kernel_rfl) (by kernel_rfl) (fun _ _ _ h => h) (Or.inl ⟨by rfl, ?_⟩) hHeld ?_
                        rotate_left
                        · (intro W hSw; (try dsimp only at hSw); first | (go_simp; done) | (go_simp; with_reducible rfl))
                        try simp only [Act.put, List.setIfInBounds_toArray, List.set_cons_zero, List.set_cons_succ]
                        refine wpAnyZ_take (zOf_all _ _) (i := 17) (oi := { dst := some 177, op := Op.indexAddr 26 (Operand.tmp 175) (Operand.tmp 176), type := 0, pos := "law.go:190", after := #[{ on := 15, ground := Ground.data }, { on := 16, ground := Ground.data }, { on := 14, ground := Ground.guard }], guard := some (14, true) }) (v := ?_) rfl (by kernel_rfl) (by kernel_rfl) (by kernel_rfl) (by kernel_rfl) (fun _ _ _ h => h) (Or.inl ⟨by rfl, ?_⟩) hHeld ?_
                        rotate_left
                        · (intro W hSw; (try dsimp only at hSw); first | (go_simp; done) | (go_simp; with_reducible rfl))
                        try simp only [Act.put, List.setIfInBounds_toArray, List.set_cons_zero, List.set_cons_succ]
                        refine wpAnyZ_take (zOf_all _ _) (i := 18) (oi := { dst := some 178, op := Op.fieldAddr 42 (Operand.tmp 177) 0, type := 0, pos := "law.go:190", after := #[{ on := 17, ground := Ground.data }, { on := 14, ground := Ground.guard }], guard := some (14, true) }) (v := ?_) rfl (by kernel_rfl) (by kernel_rfl) (by kernel_rfl) (by kernel_rfl) (fun _ _ _ h => h) (Or.inl ⟨by rfl, ?_⟩) hHeld ?_
                        rotate_left
                        · (intro W hSw; (try dsimp only at hSw); first | (go_simp; done) | (go_simp; with_reducible rfl))
                        try simp only [Act.put, List.setIfInBounds_toArray, List.set_cons_zero, List.set_cons_succ]
                        refine wpAnyZ_take (zOf_all _ _) (i := 19) (oi := { dst := some 179, op := Op.load 3 (Operand.tmp 178), type := 3, pos := "law.go:190", after := #[{ on := 18, ground := Ground.data }, { on := 14, ground := Ground.guard }], guard := some (14, true) }) (v := ?_) rfl (by kernel_rfl) (by kernel_rfl) (by kernel_rfl) (by kernel_rfl) (fun _ _ _ h => h) (Or.inl ⟨by rfl, ?_⟩) hHeld ?_
                        rotate_left
                        · (intro W hSw; (try dsimp only at hSw); first | (go_simp; done) | (go_simp; with_reducible rfl))
                        try simp only [Act.put, List.setIfInBounds_toArray, List.set_cons_zero, List.set_cons_succ]
                        refine wpAnyZ_take (zOf_all _ _) (i := 20) (oi := { dst := some 180, op := Op.move (Operand.tmp 16), type := 26, pos := "law.go:190", after := #[{ on := 14, ground := Ground.guard }], guard := some (14, true) }) (v := ?_) rfl (by kernel_rfl) (by kernel_rfl) (by kernel_rfl) (by kernel_rfl) (fun _ _ _ h => h) (Or.inl ⟨by rfl, ?_⟩) hHeld ?_
                        rotate_left
                        · (intro W hSw; (try dsimp only at hSw); first | (go_simp; done) | (go_simp; with_reducible rfl))
                        try simp only [Act.put, List.setIfInBounds_toArray, List.set_cons_zero, List.set_cons_succ]
                        refine wpAnyZ_take (zOf_all _ _) (i := 21) (oi := { dst := some 181, op := Op.move (Operand.tmp 19), type := 3, pos := "law.go:190", after := #[{ on := 14, ground := Ground.guard }], guard := some (14, true) }) (v := ?_) rfl (by kernel_rfl) (by kernel_rfl) (by kernel_rfl) (by kernel_rfl) (fun _ _ _ h => h) (Or.inl ⟨by rfl, ?_⟩) hHeld ?_
                        rotate_left
                        · (intro W hSw; (try dsimp only at hSw); first | (go_simp; done) | (go_simp; with_reducible rfl))
                        try simp only [Act.put, List.setIfInBounds_toArray, List.set_cons_zero, List.set_cons_succ]
                        refine wpAnyZ_take (zOf_all _ _) (i := 22) (oi := { dst := some 182, op := Op.binOp BinOp.sub 3 (Operand.tmp 181) (Operand.const (Value.int IntKind.i64 1)) 3, type := 3, pos := "law.go:190", after := #[{ on := 21, ground := Ground.data }, { on := 14, ground := Ground.guard }], guard := some (14, true) }) (v := ?_) rfl (by kernel_rfl) (by kernel_rfl) (by kernel_rfl) (by kernel_rfl) (fun _ _ _ h => h) (Or.inl ⟨by rfl, ?_⟩) hHeld ?_
                        rotate_left
                        · (intro W hSw; (try dsimp only at hSw); first | (go_simp; done) | (go_simp; with_reducible rfl))
                        try simp only [Act.put, List.setIfInBounds_toArray, List.set_cons_zero, List.set_cons_succ]
                        refine wpAnyZ_take (zOf_all _ _) (i := 23) (oi := { dst := some 183, op := Op.indexAddr 26 (Operand.tmp 180) (Operand.tmp 182), type := 0, pos := "law.go:190", after := #[{ on := 20, ground := Ground.data }, { on := 22, ground := Ground.data }, { on := 14, ground := Ground.guard }], guard := some (14, true) }) (v := ?_) rfl (by kernel_rfl) (by kernel_rfl) (by kernel_rfl) (by kernel_rfl) (fun _ _ _ h => h) (Or.inl ⟨by rfl, ?_⟩) hHeld ?_
                        rotate_left
                        · (intro W hSw; (try dsimp only at hSw); first | (go_simp; done) | (go_simp; with_reducible rfl))
                        try simp only [Act.put, List.setIfInBounds_toArray, List.set_cons_zero, List.set_cons_succ]
                        refine wpAnyZ_take (zOf_all _ _) (i := 24) (oi := { dst := some 184, op := Op.fieldAddr 42 (Operand.tmp 183) 0, type := 0, pos := "law.go:190", after := #[{ on := 23, ground := Ground.data }, { on := 14, ground := Ground.guard }], guard := some (14, true) }) (v := ?_) rfl (by kernel_rfl) (by kernel_rfl) (by kernel_rfl) (by kernel_rfl) (fun _ _ _ h => h) (Or.inl ⟨by rfl, ?_⟩) hHeld ?_
                        rotate_left
                        · (intro W hSw; (try dsimp only at hSw); first | (go_simp; done) | (go_simp; with_reducible rfl))
                        try simp only [Act.put, List.setIfInBounds_toArray, List.set_cons_zero, List.set_cons_succ]
                        refine wpAnyZ_take (zOf_all _ _) (i := 25) (oi := { dst := some 185, op := Op.load 3 (Operand.tmp 184), type := 3, pos := "law.go:190", after := #[{ on := 24, ground := Ground.data }, { on := 14, ground := Ground.guard }], guard := some (14, true) }) (v := ?_) rfl (by kernel_rfl) (by kernel_rfl) (by kernel_rfl) (by kernel_rfl) (fun _ _ _ h => h) (Or.inl ⟨by rfl, ?_⟩) hHeld ?_
                        rotate_left
                        · (intro W hSw; (try dsimp only at hSw); first | (go_simp; done) | (go_simp; with_reducible rfl))
                        try simp only [Act.put, List.setIfInBounds_toArray, List.set_cons_zero, List.set_cons_succ]
                        refine wpAnyZ_take (zOf_all _ _) (i := 26) (oi := { dst := some 186, op := Op.binOp BinOp.leq 3 (Operand.tmp 179) (Operand.tmp 185) 3, type := 4, pos := "law.go:190", after := #[{ on := 19, ground := Ground.data }, { on := 25, ground := Ground.data }, { on := 14, ground := Ground.guard }], guard := some (14, true) }) (v := ?_) rfl (by kernel_rfl) (by kernel_rfl) (by kernel_rfl) (by kernel_rfl) (fun _ _ _ h => h) (Or.inl ⟨by rfl, ?_⟩) hHeld ?_
                        rotate_left
                        · (intro W hSw; (try dsimp only at hSw); first | (go_simp; done) | (go_simp; with_reducible rfl))
                        try simp only [Act.put, List.setIfInBounds_toArray, List.set_cons_zero, List.set_cons_succ]
                        refine wpAnyZ_take (zOf_all _ _) (i := 27) (oi := { dst := some 187, op := Op.pick (Operand.tmp 174) (Operand.tmp 186) (Operand.const (Value.bool false)), type := 4, pos := "law.go:190", after := #[{ on := 14, ground := Ground.data }, { on := 26, ground := Ground.data }, { on := 11, ground := Ground.guard }], guard := some (11, false) }) (v := ?_) rfl (by kernel_rfl) (by kernel_rfl) (by kernel_rfl) (by kernel_rfl) (fun _ _ _ h => h) (Or.inl ⟨by rfl, ?_⟩) hHeld ?_
                        rotate_left
                        · (intro W hSw; (try dsimp only at hSw); first | (go_simp; done) | (go_simp; with_reducible rfl))
                        try simp only [Act.put, List.setIfInBounds_toArray, List.set_cons_zero, List.set_cons_succ]
                        refine wpAnyZ_take (zOf_all _ _) (i := 28) (oi := { dst := some 188, op := Op.pick (Operand.tmp 171) (Operand.const (Value.bool true)) (Operand.tmp 187), type := 4, pos := "law.go:190", after := #[{ on := 11, ground := Ground.data }, { on := 27, ground := Ground.data }], guard := none }) (v := ?_) rfl (by kernel_rfl) (by kernel_rfl) (by kernel_rfl) (by kernel_rfl) (fun _ _ _ h => h) (Or.inl ⟨by rfl, ?_⟩) hHeld ?_
                        rotate_left
                        · (intro W hSw; (try dsimp only at hSw); first | (go_simp; done) | (go_simp; with_reducible rfl))
                        try simp only [Act.put, List.setIfInBounds_toArray, List.set_cons_zero, List.set_cons_succ]
                        refine wpAnyZ_tail (by kernel_rfl) ?_
                        clear hHeld
                        refine wpAny_done (by kernel_rfl) ?_ _
                        skip
                        go_wp2
                        go_roundw
                        case rel => exact ⟨j + 1, by first | rfl | rw [hwj], by omega, hbj.drew⟩
                        case measure => exact HMJ.out _ (by first | rfl | omega)
                    · have hjl : ¬ (j : Int) < (nm : Int) := by omega
                      have hbj := hj.out.2
                      have hAl : (S' ++ M').length = nA := HN.out.2.2.2.1
                      obtain ⟨a, c, ea, hrunS, hsrc⟩ := src_hi H10.out.2.1 nm (by rw [hAl]; exact HN.out.2.2.2.2.2.1)
                      rw [hAl] at ea
                      injection ea with q1 q2 q3
                      subst q1 q3
                      have ht : ((S' ++ M').take nm).length = nm := by have := HN.out; simp; omega
                      have hT : (S' ++ M').take nm = S' ++ M'.take k6 := by rw [HN.out.1, List.take_append, List.take_of_length_le (by omega), Nat.add_sub_cancel_left]
                      have hszj : w.heap.size ≤ wr.heap.size := Nat.le_trans H10.out.1.b.size hbj.size
                      obtain ⟨v13, w13, hrun13, r13, b13, hv13⟩ := row_anew wr w.heap.size hszj (.slice a10 nm c10) ((S' ++ M').take nm) (fun V hV => hsrc V (own_later (own_later H10.out.2.1 hbj) hV)) (by rw [ht]; have := HN.out; omega)
                      obtain ⟨a13, c13, hv13f⟩ := row_len r13
                      rw [ht] at hv13f
                      subst hv13f
                      have hL13 : LI w w13 hB (i + 1) x7 h7 d7 (S' ++ M'.take k6) [] (.slice a13 nm c13) (.slice none 0 0) := ⟨(H10.out.1.later hbj).later b13, H10.out.2.2.2, H10.out.2.2.1, by rw [← hT]; exact r13, World.ownsRow_nil _ _ _ _, (fun b _ q => by cases q), by have := HN.out; simp; omega, fun y hy => hL.out.1.short y (by
                        rcases List.mem_append.1 hy with q | q
                        · rcases List.mem_append.1 q with q | q
                          · exact List.mem_append_left _ q
                          · exact List.mem_append_right _ (List.mem_of_mem_take q)
                        · simp at q)⟩
                      have HF : Hid (LI w w13 hB (i + 1) x7 h7 d7 (S' ++ M'.take k6) [] (.slice a13 nm c13) (.slice none 0 0) ∧ nm = (S' ++ M'.take k6).length) := ⟨hL13, by rw [← hT, ht]⟩
                      have hrS := fun V => hrunS V
                      clear hL13 r13 b13 hv13 hsrc hT ht hszj hAl hrunS
                      go_wp2_with (at_builtin; refine wpList_append_run rfl (.tmp 190) (.tmp 194) 32 32 rfl _ _ rfl rfl hrun13 ?_)
                      go_roundw
                      case rel => exact ⟨i + 1, x7, h7, d7, S' ++ M'.take k6, [], _, _, rfl, rfl, rfl, rfl, ⟨a13, c13, by rw [← HF.out.2]⟩, ⟨_, _, rfl⟩, HWR.out.1, HWR.out.2, HF.out.1⟩
                      case measure => exact HME.out _ (by first | rfl | omega)

                · have e0 := hL.out.2.c0
                  go_wp2
                  go_roundw
                  case rel => exact ⟨i + 1, x', h', d', S', M', _, _, rfl, (by rw [HXW'.out]), rfl, rfl, ⟨_, _, rfl⟩, ⟨_, _, rfl⟩, HWR.out.1, HWR.out.2, hL.out.1⟩
                  case measure => exact HME.out _ (by first | rfl | omega)
              · skip
                have e0 := hL.out.2.c0
                have e1 := hL.out.2.c1
                have e3 := hL.out.2.c3
                have CC := ws_crash hL.out.1.ws on otn (.slice none 0 0)
                rw [hL.out.1.hB] at CC
                go_wp2_with fail
                refine CC.mono ?_
                rintro e w6 ⟨⟨v6, rfl⟩, h6, lo6, k6, t6, eB6, hd6, hge6, hb6, hbase6, hmost6, hk6, hl6, ht6, hf6, -, hC6⟩
                have CO := ws_open HT.out hb6 hd6 hge6 hbase6 (S' ++ M'.take k6) t6 hl6 ht6 hf6
                rw [eB6] at CO
                have hP6 : ∀ k, Wh.has h' k → All x' h' k := fun k hk => .inr (.inr hk)
                have rS6 := hL.out.1.ws.row hL.out.1.rS hC6 hP6
                have rM6 := hL.out.1.ws.row hL.out.1.rM hC6 hP6
                have H6 : Hid (_ ∧ _ ∧ _ ∧ _ ∧ _ ∧ _) := And.intro hd6 (And.intro rS6 (And.intro rM6 (And.intro hk6 (And.intro hmost6 eB6))))
                clear CC hd6 rS6 rM6 hge6 hb6 hbase6 hmost6 hk6 hl6 ht6 hf6 hC6 hP6 eB6 e0 e1 e3
                go_wp2_with fail
                refine CO.mono ?_
                rintro e w7 ⟨x7, h7, d7, xs, v, rfl, hB7, s7, -, -, hm7, hm, hrow, hin, hC7⟩
                have rS7 := row_dk H6.out.1 hC7 H6.out.2.1
                have rM7 := row_dk H6.out.1 hC7 H6.out.2.2.1
                have hsz7 : w.heap.size ≤ w7.heap.size := s7.b.size
                have hcnt := hL.out.1.cnt
                have hi120 : i + 1 ≤ 120 := HWR.out.2
                obtain ⟨v9, w9, hrun9, r9, b9, hv9⟩ := row_anew w7 w.heap.size hsz7 _ S' (fun V hV => src_row (own_later rS7 hV)) (by omega)
                obtain ⟨v10, w10, hrun10, r10, b10, hv10⟩ := row_on b9 hsz7 r9 hv9 _ M' (src_row (own_later rM7 b9)) (by omega)
                obtain ⟨hlen, hall⟩ := told_all hm (own_later hrow b10) (fun y hy => (hin y hy).later b10) r10 (fun j hj => by
                  rcases Nat.lt_or_ge j S'.length with q | q
                  · rw [List.getElem?_append_left q, List.getElem?_append_left q]
                  · rw [List.getElem?_append_right q, List.getElem?_append_right q, List.getElem?_take_of_lt (by simp at hj; omega)])
                obtain ⟨nA, hnA⟩ : ∃ nA, nA = (S' ++ M').length := ⟨_, rfl⟩
                obtain ⟨nm, hnm⟩ : ∃ nm, nm = xs.length := ⟨_, rfl⟩
                have hlT : nm = S'.length + k6 := by rw [hnm, hlen]; have := H6.out.2.2.2.1; simp; omega
                have hlA : nA = S'.length + M'.length := by rw [hnA]; simp
                have hg1 : ¬ ((nm : Int) < (S'.length : Int)) := by omega
                have hg2 : ¬ ((nA : Int) < (nm : Int)) := by have := H6.out.2.2.2.1; omega
                obtain ⟨a9, c9, rfl⟩ := row_len r9
                obtain ⟨a10, c10, rfl⟩ := row_len r10
                obtain ⟨av, cv, rfl⟩ := row_len hrow
                rw [← hnm] at hall hrow ⊢
                rw [← hnA] at hrun10 hall
                have s10 := s7.later b10
                have H10 : Hid (WS w w10 x7 h7 d7 (S' ++ M'.take k6) [] ∧ w10.ownsRow w.heap.size 9 1 (.slice a10 nA c10) (S' ++ M').length (svT (S' ++ M')) ∧ d7.lo.most = 1048576 ∧ h7.B = hB) := ⟨s10, by rw [hnA]; exact r10, hm7.trans (H6.out.2.2.2.2.1.trans hL.out.1.most), hB7⟩
                have HALL : Hid (∀ j, j < nm → ∃ gv cv' ga cA off ao cap y, Value.slice av nm cv = .slice (some ⟨gv, 0, none⟩) nm cv' ∧ Value.slice a10 nA c10 = .slice (some ⟨ga, 0, none⟩) nA cA ∧ Tj w10 gv ga j off ao cap y ∧ (0 < j → ∃ off' ao' cap' y', Tj w10 gv ga (j - 1) off' ao' cap' y' ∧ off' < off)) := fun j hj => hall j (by rw [← hlen, ← hnm]; exact hj)
                have HN : Hid (nm = S'.length + k6 ∧ nA = S'.length + M'.length ∧ k6 ≤ M'.length ∧ (S' ++ M').length = nA ∧ nA ≤ 120 ∧ nm ≤ nA ∧ S'.length + M'.length ≤ i + 1) := ⟨hlT, hlA, H6.out.2.2.2.1, hnA.symm, by omega, by have := H6.out.2.2.2.1; omega, hcnt⟩
                clear CO hB7 s7 hm7 hm hrow hin hC7 rS7 rM7 hsz7 hcnt hi120 r9 b9 hv9 r10 b10 hv10 hall hlen hnA hnm hlT hlA s10
                go_upto_region 36 with (first | (at_builtin; refine wpList_append_run rfl (.tmp 128) (.tmp 129) 32 32 rfl _ _ rfl rfl hrun9 ?_) | (at_builtin; refine wpList_append_run rfl (.tmp 130) (.tmp 131) 32 32 rfl _ _ rfl rfl hrun10 ?_))
                clear hrun9 hrun10
                go_wp2_with (go_at_call 6; refine (wnum_any _ _).mono ?_; rintro e w' ⟨rfl, hw⟩; obtain rfl : w10 = w' := hw.symm)
                go_loopw [19] (fun s19 wr2 => ∃ j : Nat, s19 = .int .i64 (j : Int) ∧ Hid (j ≤ nm ∧ Below w10.heap.size w10 wr2)) (fun s19 _ => nm - (intOf s19).toNat)
                case atStart => exact ⟨0, rfl, Nat.zero_le _, Below.refl _ _⟩
                case round =>
                  obtain ⟨j, rfl, hj⟩ := hrel
                  have mixed : Tryd.prog.follows .mixedOrders = true := by kernel_rfl
                  by_cases hjn : j < nm
                  · have hjl : (j : Int) < (nm : Int) := by omega
                    obtain ⟨gv, cv', ga, cA, yo, ya, yc, y, hv, hA, tj0, hp⟩ := HALL.out j hjn
                    cases hv
                    cases hA
                    have hbj := hj.out.2
                    have tj := tj0.later hbj
                    have t0 := tj.c0
                    have t1 := tj.c1
                    have ta := tj.al
                    have tc := run_string_of (P := Tryd.prog) 33 9 5 Tryd.underlying33 Tryd.underlying5 Tryd.underlying9 (tj.rd.later (Below.refl _ _).drew)
                    have hjA : (j : Int) < (nA : Int) := by have := HN.out; omega
                    have hwj : IntKind.i64.wrap ((j : Int) + 1) = ((j + 1 : Nat) : Int) := by have := HN.out; rw [IntKind.wrap_i64]; omega
                    have HMJ : Hid (∀ z : Int, z = ((j + 1 : Nat) : Int) → nm - z.toNat < nm - (j : Int).toNat) := fun z hz => by omega
                    by_cases hj0 : j = 0
                    · subst hj0
                      have t1 : wr.cell? ⟨gv, 1, none⟩ = some (.slice ya y.length yc) := t1
                      have hjn' : 0 < nm := hjn
                      have hjA' : 0 < nA := by omega
                      clear tj tj0 hp t0
                      clear HALL HRO HLL
                      go_upto_region 41 with fail
                      refine wp_region_Z (S := fun V : World => V.cell? ⟨gv, 1, none⟩ = some (.slice ya y.length yc) ∧ V.cell? ⟨ga, 0, none⟩ = some (.string ⟨y.toArray⟩) ∧ (convert 33 9 (.slice ya y.length yc)).run Tryd.prog V = .ok (.string ⟨y.toArray⟩) V) (z := zOf [] []) mixed ?_
                      have hHeld : (fun V : World => V.cell? ⟨gv, 1, none⟩ = some (.slice ya y.length yc) ∧ V.cell? ⟨ga, 0, none⟩ = some (.string ⟨y.toArray⟩) ∧ (convert 33 9 (.slice ya y.length yc)).run Tryd.prog V = .ok (.string ⟨y.toArray⟩) V) wr.drew := ⟨t1, ta, tc⟩
                      refine wpAnyZ_take (zOf_all _ _) (i := 0) (oi := { dst := some 160, op := Op.move (Operand.tmp 16), type := 26, pos := "law.go:190", after := #[], guard := none }) (v := ?_) rfl (by kernel_rfl) (by kernel_rfl) (by kernel_rfl) (by kernel_rfl) (fun _ _ _ h => h) (Or.inl ⟨by rfl, ?_⟩) hHeld ?_
                      rotate_left
                      · (intro W hSw; (try dsimp only at hSw); first | (go_simp; done) | (go_simp; with_reducible rfl))
                      try simp only [Act.put, List.setIfInBounds_toArray, List.set_cons_zero, List.set_cons_succ]
                      refine wpAnyZ_take (zOf_all _ _) (i := 1) (oi := { dst := some 161, op := Op.move (Operand.tmp 19), type := 3, pos := "law.go:190", after := #[], guard := none }) (v := ?_) rfl (by kernel_rfl) (by kernel_rfl) (by kernel_rfl) (by kernel_rfl) (fun _ _ _ h => h) (Or.inl ⟨by rfl, ?_⟩) hHeld ?_
                      rotate_left
                      · (intro W hSw; (try dsimp only at hSw); first | (go_simp; done) | (go_simp; with_reducible rfl))
                      try simp only [Act.put, List.setIfInBounds_toArray, List.set_cons_zero, List.set_cons_succ]
                      refine wpAnyZ_take (zOf_all _ _) (i := 2) (oi := { dst := some 162, op := Op.indexAddr 26 (Operand.tmp 160) (Operand.tmp 161), type := 0, pos := "law.go:190", after := #[{ on := 0, ground := Ground.data }, { on := 1, ground := Ground.data }], guard := none }) (v := ?_) rfl (by kernel_rfl) (by kernel_rfl) (by kernel_rfl) (by kernel_rfl) (fun _ _ _ h => h) (Or.inl ⟨by rfl, ?_⟩) hHeld ?_
                      rotate_left
                      · (intro W hSw; (try dsimp only at hSw); first | (go_simp; done) | (go_simp; with_reducible rfl))
                      try simp only [Act.put, List.setIfInBounds_toArray, List.set_cons_zero, List.set_cons_succ]
                      refine wpAnyZ_take (zOf_all _ _) (i := 3) (oi := { dst := some 163, op := Op.fieldAddr 42 (Operand.tmp 162) 1, type := 0, pos := "law.go:190", after := #[{ on := 2, ground := Ground.data }], guard := none }) (v := ?_) rfl (by kernel_rfl) (by kernel_rfl) (by kernel_rfl) (by kernel_rfl) (fun _ _ _ h => h) (Or.inl ⟨by rfl, ?_⟩) hHeld ?_
                      rotate_left
                      · (intro W hSw; (try dsimp only at hSw); first | (go_simp; done) | (go_simp; with_reducible rfl))
                      try simp only [Act.put, List.setIfInBounds_toArray, List.set_cons_zero, List.set_cons_succ]
                      refine wpAnyZ_take (zOf_all _ _) (i := 4) (oi := { dst := some 164, op := Op.load 33 (Operand.tmp 163), type := 33, pos := "law.go:190", after := #[{ on := 3, ground := Ground.data }], guard := none }) (v := ?_) rfl (by kernel_rfl) (by kernel_rfl) (by kernel_rfl) (by kernel_rfl) (fun _ _ _ h => h) (Or.inl ⟨by rfl, ?_⟩) hHeld ?_
                      rotate_left
                      · (intro W hSw; (try dsimp only at hSw); first | (go_simp; done) | (go_simp; with_reducible rfl))
                      try simp only [Act.put, List.setIfInBounds_toArray, List.set_cons_zero, List.set_cons_succ]
                      refine wpAnyZ_take (zOf_all _ _) (i := 5) (oi := { dst := some 165, op := Op.convert 33 9 (Operand.tmp 164), type := 9, pos := "law.go:190", after := #[{ on := 4, ground := Ground.data }], guard := none }) (v := ?_) rfl (by kernel_rfl) (by kernel_rfl) (by kernel_rfl) (by kernel_rfl) (fun _ _ _ h => h) (Or.inl ⟨by rfl, ?_⟩) hHeld ?_
                      rotate_left
                      · (intro W hSw; (try dsimp only at hSw); first | (go_simp; done) | (go_simp; with_reducible rfl))
                      try simp only [Act.put, List.setIfInBounds_toArray, List.set_cons_zero, List.set_cons_succ]
                      refine wpAnyZ_take (zOf_all _ _) (i := 6) (oi := { dst := some 166, op := Op.move (Operand.tmp 18), type := 32, pos := "law.go:190", after := #[], guard := none }) (v := ?_) rfl (by kernel_rfl) (by kernel_rfl) (by kernel_rfl) (by kernel_rfl) (fun _ _ _ h => h) (Or.inl ⟨by rfl, ?_⟩) hHeld ?_
                      rotate_left
                      · (intro W hSw; (try dsimp only at hSw); first | (go_simp; done) | (go_simp; with_reducible rfl))
                      try simp only [Act.put, List.setIfInBounds_toArray, List.set_cons_zero, List.set_cons_succ]
                      refine wpAnyZ_take (zOf_all _ _) (i := 7) (oi := { dst := some 167, op := Op.move (Operand.tmp 19), type := 3, pos := "law.go:190", after := #[], guard := none }) (v := ?_) rfl (by kernel_rfl) (by kernel_rfl) (by kernel_rfl) (by kernel_rfl) (fun _ _ _ h => h) (Or.inl ⟨by rfl, ?_⟩) hHeld ?_
                      rotate_left
                      · (intro W hSw; (try dsimp only at hSw); first | (go_simp; done) | (go_simp; with_reducible rfl))
                      try simp only [Act.put, List.setIfInBounds_toArray, List.set_cons_zero, List.set_cons_succ]
                      refine wpAnyZ_take (zOf_all _ _) (i := 8) (oi := { dst := some 168, op := Op.indexAddr 32 (Operand.tmp 166) (Operand.tmp 167), type := 0, pos := "law.go:190", after := #[{ on := 6, ground := Ground.data }, { on := 7, ground := Ground.data }], guard := none }) (v := ?_) rfl (by kernel_rfl) (by kernel_rfl) (by kernel_rfl) (by kernel_rfl) (fun _ _ _ h => h) (Or.inl ⟨by rfl, ?_⟩) hHeld ?_
                      rotate_left
                      · (intro W hSw; (try dsimp only at hSw); first | (go_simp; done) | (go_simp; with_reducible rfl))
                      try simp only [Act.put, List.setIfInBounds_toArray, List.set_cons_zero, List.set_cons_succ]
                      refine wpAnyZ_take (zOf_all _ _) (i := 9) (oi := { dst := some 169, op := Op.load 9 (Operand.tmp 168), type := 9, pos := "law.go:190", after := #[{ on := 8, ground := Ground.data }], guard := none }) (v := ?_) rfl (by kernel_rfl) (by kernel_rfl) (by kernel_rfl) (by kernel_rfl) (fun _ _ _ h => h) (Or.inl ⟨by rfl, ?_⟩) hHeld ?_
                      rotate_left
                      · (intro W hSw; (try dsimp only at hSw); first | (go_simp; done) | (go_simp; with_reducible rfl))
                      try simp only [Act.put, List.setIfInBounds_toArray, List.set_cons_zero, List.set_cons_succ]
                      refine wpAnyZ_take (zOf_all _ _) (i := 10) (oi := { dst := some 170, op := Op.binOp BinOp.neq 9 (Operand.tmp 165) (Operand.tmp 169) 9, type := 4, pos := "law.go:190", after := #[{ on := 5, ground := Ground.data }, { on := 9, ground := Ground.data }], guard := none }) (v := ?_) rfl (by kernel_rfl) (by kernel_rfl) (by kernel_rfl) (by kernel_rfl) (fun _ _ _ h => h) (Or.inl ⟨by rfl, ?_⟩) hHeld ?_
                      rotate_left
                      · (intro W hSw; (try dsimp only at hSw); first | (go_simp; done) | (go_simp; with_reducible rfl))
                      try simp only [Act.put, List.setIfInBounds_toArray, List.set_cons_zero, List.set_cons_succ]
                      refine wpAnyZ_take (zOf_all _ _) (i := 11) (oi := { dst := some 171, op := Op.move (Operand.tmp 170), type := 4, pos := "law.go:190", after := #[{ on := 10, ground := Ground.data }], guard := none }) (v := ?_) rfl (by kernel_rfl) (by kernel_rfl) (by kernel_rfl) (by kernel_rfl) (fun _ _ _ h => h) (Or.inl ⟨by rfl, ?_⟩) hHeld ?_
                      rotate_left
                      · (intro W hSw; (try dsimp only at hSw); first | (go_simp; done) | (go_simp; with_reducible rfl))
                      try simp only [Act.put, List.setIfInBounds_toArray, List.set_cons_zero, List.set_cons_succ]
                      refine wpAnyZ_take (zOf_all _ _) (i := 12) (oi := { dst := some 172, op := Op.move (Operand.tmp 19), type := 3, pos := "law.go:190", after := #[{ on := 11, ground := Ground.guard }], guard := some (11, false) }) (v := ?_) rfl (by kernel_rfl) (by kernel_rfl) (by kernel_rfl) (by kernel_rfl) (fun _ _ _ h => h) (Or.inl ⟨by rfl, ?_⟩) hHeld ?_
                      rotate_left
                      · (intro W hSw; (try dsimp only at hSw); first | (go_simp; done) | (go_simp; with_reducible rfl))
                      try simp only [Act.put, List.setIfInBounds_toArray, List.set_cons_zero, List.set_cons_succ]
                      refine wpAnyZ_take (zOf_all _ _) (i := 13) (oi := { dst := some 173, op := Op.binOp BinOp.gtr 3 (Operand.tmp 172) (Operand.const (Value.int IntKind.i64 0)) 3, type := 4, pos := "law.go:190", after := #[{ on := 12, ground := Ground.data }, { on := 11, ground := Ground.guard }], guard := some (11, false) }) (v := ?_) rfl (by kernel_rfl) (by kernel_rfl) (by kernel_rfl) (by kernel_rfl) (fun _ _ _ h => h) (Or.inl ⟨by rfl, ?_⟩) hHeld ?_
                      rotate_left
                      · (intro W hSw; (try dsimp only at hSw); first | (go_simp; done) | (go_simp; with_reducible rfl))
                      try simp only [Act.put, List.setIfInBounds_toArray, List.set_cons_zero, List.set_cons_succ]
                      refine wpAnyZ_take (zOf_all _ _) (i := 14) (oi := { dst := some 174, op := Op.move (Operand.tmp 173), type := 4, pos := "law.go:190", after := #[{ on := 13, ground := Ground.data }, { on := 11, ground := Ground.chain }, { on := 11, ground := Ground.guard }], guard := some (11, false) }) (v := ?_) rfl (by kernel_rfl) (by kernel_rfl) (by kernel_rfl) (by kernel_rfl) (fun _ _ _ h => h) (Or.inl ⟨by rfl, ?_⟩) hHeld ?_
                      rotate_left
                      · (intro W hSw; (try dsimp only at hSw); first | (go_simp; done) | (go_simp; with_reducible rfl))
                      try simp only [Act.put, List.setIfInBounds_toArray, List.set_cons_zero, List.set_cons_succ]
                      refine wpAnyZ_take (zOf_all _ _) (i := 15) (oi := { dst := some 175, op := Op.move (Operand.tmp 16), type := 26, pos := "law.go:190", after := #[{ on := 14, ground := Ground.guard }], guard := some (14, true) }) (v := undef) rfl (by kernel_rfl) (by kernel_rfl) (by kernel_rfl) (by kernel_rfl) (fun _ _ _ h => h) (Or.inr ⟨by rfl, rfl⟩) hHeld ?_
                      try simp only [Act.put, List.setIfInBounds_toArray, List.set_cons_zero, List.set_cons_succ]
                      refine wpAnyZ_take (zOf_all _ _) (i := 16) (oi := { dst := some 176, op := Op.move (Operand.tmp 19), type := 3, pos := "law.go:190", after := #[{ on := 14, ground := Ground.guard }], guard := some (14, true) }) (v := undef) rfl (by kernel_rfl) (by kernel_rfl) (by kernel_rfl) (by kernel_rfl) (fun _ _ _ h => h) (Or.inr ⟨by rfl, rfl⟩) hHeld ?_
                      try simp only [Act.put, List.setIfInBounds_toArray, List.set_cons_zero, List.set_cons_succ]
                      refine wpAnyZ_take (zOf_all _ _) (i := 17) (oi := { dst := some 177, op := Op.indexAddr 26 (Operand.tmp 175) (Operand.tmp 176), type := 0, pos := "law.go:190", after := #[{ on := 15, ground := Ground.data }, { on := 16, ground := Ground.data }, { on := 14, ground := Ground.guard }], guard := some (14, true) }) (v := undef) rfl (by kernel_rfl) (by kernel_rfl) (by kernel_rfl) (by kernel_rfl) (fun _ _ _ h => h) (Or.inr ⟨by rfl, rfl⟩) hHeld ?_
                      try simp only [Act.put, List.setIfInBounds_toArray, List.set_cons_zero, List.set_cons_succ]
                      refine wpAnyZ_take (zOf_all _ _) (i := 18) (oi := { dst := some 178, op := Op.fieldAddr 42 (Operand.tmp 177) 0, type := 0, pos := "law.go:190", after := #[{ on := 17, ground := Ground.data }, { on := 14, ground := Ground.guard }], guard := some (14, true) }) (v := undef) rfl (by kernel_rfl) (by kernel_rfl) (by kernel_rfl) (by kernel_rfl) (fun _ _ _ h => h) (Or.inr ⟨by rfl, rfl⟩) hHeld ?_
                      try simp only [Act.put, List.setIfInBounds_toArray, List.set_cons_zero, List.set_cons_succ]
                      refine wpAnyZ_take (zOf_all _ _) (i := 19) (oi := { dst := some 179, op := Op.load 3 (Operand.tmp 178), type := 3, pos := "law.go:190", after := #[{ on := 18, ground := Ground.data }, { on := 14, ground := Ground.guard }], guard := some (14, true) }) (v := undef) rfl (by kernel_rfl) (by kernel_rfl) (by kernel_rfl) (by kernel_rfl) (fun _ _ _ h => h) (Or.inr ⟨by rfl, rfl⟩) hHeld ?_
                      try simp only [Act.put, List.setIfInBounds_toArray, List.set_cons_zero, List.set_cons_succ]
                      refine wpAnyZ_take (zOf_all _ _) (i := 20) (oi := { dst := some 180, op := Op.move (Operand.tmp 16), type := 26, pos := "law.go:190", after := #[{ on := 14, ground := Ground.guard }], guard := some (14, true) }) (v := undef) rfl (by kernel_rfl) (by kernel_rfl) (by kernel_rfl) (by kernel_rfl) (fun _ _ _ h => h) (Or.inr ⟨by rfl, rfl⟩) hHeld ?_
                      try simp only [Act.put, List.setIfInBounds_toArray, List.set_cons_zero, List.set_cons_succ]
                      refine wpAnyZ_take (zOf_all _ _) (i := 21) (oi := { dst := some 181, op := Op.move (Operand.tmp 19), type := 3, pos := "law.go:190", after := #[{ on := 14, ground := Ground.guard }], guard := some (14, true) }) (v := undef) rfl (by kernel_rfl) (by kernel_rfl) (by kernel_rfl) (by kernel_rfl) (fun _ _ _ h => h) (Or.inr ⟨by rfl, rfl⟩) hHeld ?_
                      try simp only [Act.put, List.setIfInBounds_toArray, List.set_cons_zero, List.set_cons_succ]
                      refine wpAnyZ_take (zOf_all _ _) (i := 22) (oi := { dst := some 182, op := Op.binOp BinOp.sub 3 (Operand.tmp 181) (Operand.const (Value.int IntKind.i64 1)) 3, type := 3, pos := "law.go:190", after := #[{ on := 21, ground := Ground.data }, { on := 14, ground := Ground.guard }], guard := some (14, true) }) (v := undef) rfl (by kernel_rfl) (by kernel_rfl) (by kernel_rfl) (by kernel_rfl) (fun _ _ _ h => h) (Or.inr ⟨by rfl, rfl⟩) hHeld ?_
                      try simp only [Act.put, List.setIfInBounds_toArray, List.set_cons_zero, List.set_cons_succ]
                      refine wpAnyZ_take (zOf_all _ _) (i := 23) (oi := { dst := some 183, op := Op.indexAddr 26 (Operand.tmp 180) (Operand.tmp 182), type := 0, pos := "law.go:190", after := #[{ on := 20, ground := Ground.data }, { on := 22, ground := Ground.data }, { on := 14, ground := Ground.guard }], guard := some (14, true) }) (v := undef) rfl (by kernel_rfl) (by kernel_rfl) (by kernel_rfl) (by kernel_rfl) (fun _ _ _ h => h) (Or.inr ⟨by rfl, rfl⟩) hHeld ?_
                      try simp only [Act.put, List.setIfInBounds_toArray, List.set_cons_zero, List.set_cons_succ]
                      refine wpAnyZ_take (zOf_all _ _) (i := 24) (oi := { dst := some 184, op := Op.fieldAddr 42 (Operand.tmp 183) 0, type := 0, pos := "law.go:190", after := #[{ on := 23, ground := Ground.data }, { on := 14, ground := Ground.guard }], guard := some (14, true) }) (v := undef) rfl (by kernel_rfl) (by kernel_rfl) (by kernel_rfl) (by kernel_rfl) (fun _ _ _ h => h) (Or.inr ⟨by rfl, rfl⟩) hHeld ?_
                      try simp only [Act.put, List.setIfInBounds_toArray, List.set_cons_zero, List.set_cons_succ]
                      refine wpAnyZ_take (zOf_all _ _) (i := 25) (oi := { dst := some 185, op := Op.load 3 (Operand.tmp 184), type := 3, pos := "law.go:190", after := #[{ on := 24, ground := Ground.data }, { on := 14, ground := Ground.guard }], guard := some (14, true) }) (v := undef) rfl (by kernel_rfl) (by kernel_rfl) (by kernel_rfl) (by kernel_rfl) (fun _ _ _ h => h) (Or.inr ⟨by rfl, rfl⟩) hHeld ?_
                      try simp only [Act.put, List.setIfInBounds_toArray, List.set_cons_zero, List.set_cons_succ]
                      refine wpAnyZ_take (zOf_all _ _) (i := 26) (oi := { dst := some 186, op := Op.binOp BinOp.leq 3 (Operand.tmp 179) (Operand.tmp 185) 3, type := 4, pos := "law.go:190", after := #[{ on := 19, ground := Ground.data }, { on := 25, ground := Ground.data }, { on := 14, ground := Ground.guard }], guard := some (14, true) }) (v := undef) rfl (by kernel_rfl) (by kernel_rfl) (by kernel_rfl) (by kernel_rfl) (fun _ _ _ h => h) (Or.inr ⟨by rfl, rfl⟩) hHeld ?_
                      try simp only [Act.put, List.setIfInBounds_toArray, List.set_cons_zero, List.set_cons_succ]
                      refine wpAnyZ_take (zOf_all _ _) (i := 27) (oi := { dst := some 187, op := Op.pick (Operand.tmp 174) (Operand.tmp 186) (Operand.const (Value.bool false)), type := 4, pos := "law.go:190", after := #[{ on := 14, ground := Ground.data }, { on := 26, ground := Ground.data }, { on := 11, ground := Ground.guard }], guard := some (11, false) }) (v := ?_) rfl (by kernel_rfl) (by kernel_rfl) (by kernel_rfl) (by kernel_rfl) (fun _ _ _ h => h) (Or.inl ⟨by rfl, ?_⟩) hHeld ?_
                      rotate_left
                      · (intro W hSw; (try dsimp only at hSw); first | (go_simp; done) | (go_simp; with_reducible rfl))
                      try simp only [Act.put, List.setIfInBounds_toArray, List.set_cons_zero, List.set_cons_succ]
                      refine wpAnyZ_take (zOf_all _ _) (i := 28) (oi := { dst := some 188, op := Op.pick (Operand.tmp 171) (Operand.const (Value.bool true)) (Operand.tmp 187), type := 4, pos := "law.go:190", after := #[{ on := 11, ground := Ground.data }, { on := 27, ground := Ground.data }], guard := none }) (v := ?_) rfl (by kernel_rfl) (by kernel_rfl) (by kernel_rfl) (by kernel_rfl) (fun _ _ _ h => h) (Or.inl ⟨by rfl, ?_⟩) hHeld ?_
                      rotate_left
                      · (intro W hSw; (try dsimp only at hSw); first | (go_simp; done) | (go_simp; with_reducible rfl))
                      try simp only [Act.put, List.setIfInBounds_toArray, List.set_cons_zero, List.set_cons_succ]
                      refine wpAnyZ_tail (by kernel_rfl) ?_
                      clear hHeld
                      refine wpAny_done (by kernel_rfl) ?_ _
                      skip
                      go_wp2
                      go_roundw
                      case rel => exact ⟨1, by first | rfl | rw [hwj], by omega, hbj.drew⟩
                      case measure => exact HMJ.out _ (by first | rfl | omega)
                    · have hk0 : (0 : Int) < (j : Int) := by omega
                      obtain ⟨yo1, ya1, yc1, y1, tp0, hlt0⟩ := hp (by omega)
                      have tp := (tp0.later hbj).c0
                      have hle : ¬ ((yo : Int) ≤ (yo1 : Int)) := by omega
                      have hw1 : IntKind.i64.wrap ((j : Int) - 1) = ((j - 1 : Nat) : Int) := by have := HN.out; rw [IntKind.wrap_i64]; omega
                      have hj1 : ((j - 1 : Nat) : Int) < (nm : Int) := by omega
                      have hk0n : 0 < j := by omega
                      have hlen1 : ¬ (yo ≤ yo1) := by omega
                      have hjAn : j < nA := by omega
                      have hj1n : j - 1 < nm := by omega
                      clear hj0 tj tj0 hp tp0 hlt0
                      clear HALL HRO HLL
                      go_upto_region 41 with fail
                      refine wp_region_Z (S := fun V : World => V.cell? ⟨gv, j * 2 + 1, none⟩ = some (.slice ya y.length yc) ∧ V.cell? ⟨ga, j, none⟩ = some (.string ⟨y.toArray⟩) ∧ (convert 33 9 (.slice ya y.length yc)).run Tryd.prog V = .ok (.string ⟨y.toArray⟩) V ∧ V.cell? ⟨gv, j * 2, none⟩ = some (.int .i64 (yo : Int)) ∧ V.cell? ⟨gv, (j - 1) * 2, none⟩ = some (.int .i64 (yo1 : Int))) (z := zOf [] []) mixed ?_
                      have hHeld : (fun V : World => V.cell? ⟨gv, j * 2 + 1, none⟩ = some (.slice ya y.length yc) ∧ V.cell? ⟨ga, j, none⟩ = some (.string ⟨y.toArray⟩) ∧ (convert 33 9 (.slice ya y.length yc)).run Tryd.prog V = .ok (.string ⟨y.toArray⟩) V ∧ V.cell? ⟨gv, j * 2, none⟩ = some (.int .i64 (yo : Int)) ∧ V.cell? ⟨gv, (j - 1) * 2, none⟩ = some (.int .i64 (yo1 : Int))) wr.drew := ⟨t1, ta, tc, t0, tp⟩
                      refine wpAnyZ_take (zOf_all _ _) (i := 0) (oi := { dst := some 160, op := Op.move (Operand.tmp 16), type := 26, pos := "law.go:190", after := #[], guard := none }) (v := ?_) rfl (by kernel_rfl) (by kernel_rfl) (by kernel_rfl) (by kernel_rfl) (fun _ _ _ h => h) (Or.inl ⟨by rfl, ?_⟩) hHeld ?_
                      rotate_left
                      · (intro W hSw; (try dsimp only at hSw); first | (go_simp; done) | (go_simp; with_reducible rfl))
                      try simp only [Act.put, List.setIfInBounds_toArray, List.set_cons_zero, List.set_cons_succ]
                      refine wpAnyZ_take (zOf_all _ _) (i := 1) (oi := { dst := some 161, op := Op.move (Operand.tmp 19), type := 3, pos := "law.go:190", after := #[], guard := none }) (v := ?_) rfl (by kernel_rfl) (by kernel_rfl) (by kernel_rfl) (by kernel_rfl) (fun _ _ _ h => h) (Or.inl ⟨by rfl, ?_⟩) hHeld ?_
                      rotate_left
                      · (intro W hSw; (try dsimp only at hSw); first | (go_simp; done) | (go_simp; with_reducible rfl))
                      try simp only [Act.put, List.setIfInBounds_toArray, List.set_cons_zero, List.set_cons_succ]
                      refine wpAnyZ_take (zOf_all _ _) (i := 2) (oi := { dst := some 162, op := Op.indexAddr 26 (Operand.tmp 160) (Operand.tmp 161), type := 0, pos := "law.go:190", after := #[{ on := 0, ground := Ground.data }, { on := 1, ground := Ground.data }], guard := none }) (v := ?_) rfl (by kernel_rfl) (by kernel_rfl) (by kernel_rfl) (by kernel_rfl) (fun _ _ _ h => h) (Or.inl ⟨by rfl, ?_⟩) hHeld ?_
                      rotate_left
                      · (intro W hSw; (try dsimp only at hSw); first | (go_simp; done) | (go_simp; with_reducible rfl))
                      try simp only [Act.put, List.setIfInBounds_toArray, List.set_cons_zero, List.set_cons_succ]
                      refine wpAnyZ_take (zOf_all _ _) (i := 3) (oi := { dst := some 163, op := Op.fieldAddr 42 (Operand.tmp 162) 1, type := 0, pos := "law.go:190", after := #[{ on := 2, ground := Ground.data }], guard := none }) (v := ?_) rfl (by kernel_rfl) (by kernel_rfl) (by kernel_rfl) (by kernel_rfl) (fun _ _ _ h => h) (Or.inl ⟨by rfl, ?_⟩) hHeld ?_
                      rotate_left
                      · (intro W hSw; (try dsimp only at hSw); first | (go_simp; done) | (go_simp; with_reducible rfl))
                      try simp only [Act.put, List.setIfInBounds_toArray, List.set_cons_zero, List.set_cons_succ]
                      refine wpAnyZ_take (zOf_all _ _) (i := 4) (oi := { dst := some 164, op := Op.load 33 (Operand.tmp 163), type := 33, pos := "law.go:190", after := #[{ on := 3, ground := Ground.data }], guard := none }) (v := ?_) rfl (by kernel_rfl) (by kernel_rfl) (by kernel_rfl) (by kernel_rfl) (fun _ _ _ h => h) (Or.inl ⟨by rfl, ?_⟩) hHeld ?_
                      rotate_left
                      · (intro W hSw; (try dsimp only at hSw); first | (go_simp; done) | (go_simp; with_reducible rfl))
                      try simp only [Act.put, List.setIfInBounds_toArray, List.set_cons_zero, List.set_cons_succ]
                      refine wpAnyZ_take (zOf_all _ _) (i := 5) (oi := { dst := some 165, op := Op.convert 33 9 (Operand.tmp 164), type := 9, pos := "law.go:190", after := #[{ on := 4, ground := Ground.data }], guard := none }) (v := ?_) rfl (by kernel_rfl) (by kernel_rfl) (by kernel_rfl) (by kernel_rfl) (fun _ _ _ h => h) (Or.inl ⟨by rfl, ?_⟩) hHeld ?_
                      rotate_left
                      · (intro W hSw; (try dsimp only at hSw); first | (go_simp; done) | (go_simp; with_reducible rfl))
                      try simp only [Act.put, List.setIfInBounds_toArray, List.set_cons_zero, List.set_cons_succ]
                      refine wpAnyZ_take (zOf_all _ _) (i := 6) (oi := { dst := some 166, op := Op.move (Operand.tmp 18), type := 32, pos := "law.go:190", after := #[], guard := none }) (v := ?_) rfl (by kernel_rfl) (by kernel_rfl) (by kernel_rfl) (by kernel_rfl) (fun _ _ _ h => h) (Or.inl ⟨by rfl, ?_⟩) hHeld ?_
                      rotate_left
                      · (intro W hSw; (try dsimp only at hSw); first | (go_simp; done) | (go_simp; with_reducible rfl))
                      try simp only [Act.put, List.setIfInBounds_toArray, List.set_cons_zero, List.set_cons_succ]
                      refine wpAnyZ_take (zOf_all _ _) (i := 7) (oi := { dst := some 167, op := Op.move (Operand.tmp 19), type := 3, pos := "law.go:190", after := #[], guard := none }) (v := ?_) rfl (by kernel_rfl) (by kernel_rfl) (by kernel_rfl) (by kernel_rfl) (fun _ _ _ h => h) (Or.inl ⟨by rfl, ?_⟩) hHeld ?_
                      rotate_left
                      · (intro W hSw; (try dsimp only at hSw); first | (go_simp; done) | (go_simp; with_reducible rfl))
                      try simp only [Act.put, List.setIfInBounds_toArray, List.set_cons_zero, List.set_cons_succ]
                      refine wpAnyZ_take (zOf_all _ _) (i := 8) (oi := { dst := some 168, op := Op.indexAddr 32 (Operand.tmp 166) (Operand.tmp 167), type := 0, pos := "law.go:190", after := #[{ on := 6, ground := Ground.data }, { on := 7, ground := Ground.data }], guard := none }) (v := ?_) rfl (by kernel_rfl) (by kernel_rfl) (by kernel_rfl) (by kernel_rfl) (fun _ _ _ h => h) (Or.inl ⟨by rfl, ?_⟩) hHeld ?_
                      rotate_left
                      · (intro W hSw; (try dsimp only at hSw); first | (go_simp; done) | (go_simp; with_reducible rfl))
                      try simp only [Act.put, List.setIfInBounds_toArray, List.set_cons_zero, List.set_cons_succ]
                      refine wpAnyZ_take (zOf_all _ _) (i := 9) (oi := { dst := some 169, op := Op.load 9 (Operand.tmp 168), type := 9, pos := "law.go:190", after := #[{ on := 8, ground := Ground.data }], guard := none }) (v := ?_) rfl (by kernel_rfl) (by kernel_rfl) (by kernel_rfl) (by kernel_rfl) (fun _ _ _ h => h) (Or.inl ⟨by rfl, ?_⟩) hHeld ?_
                      rotate_left
                      · (intro W hSw; (try dsimp only at hSw); first | (go_simp; done) | (go_simp; with_reducible rfl))
                      try simp only [Act.put, List.setIfInBounds_toArray, List.set_cons_zero, List.set_cons_succ]
                      refine wpAnyZ_take (zOf_all _ _) (i := 10) (oi := { dst := some 170, op := Op.binOp BinOp.neq 9 (Operand.tmp 165) (Operand.tmp 169) 9, type := 4, pos := "law.go:190", after := #[{ on := 5, ground := Ground.data }, { on := 9, ground := Ground.data }], guard := none }) (v := ?_) rfl (by kernel_rfl) (by kernel_rfl) (by kernel_rfl) (by kernel_rfl) (fun _ _ _ h => h) (Or.inl ⟨by rfl, ?_⟩) hHeld ?_
                      rotate_left
                      · (intro W hSw; (try dsimp only at hSw); first | (go_simp; done) | (go_simp; with_reducible rfl))
                      try simp only [Act.put, List.setIfInBounds_toArray, List.set_cons_zero, List.set_cons_succ]
                      refine wpAnyZ_take (zOf_all _ _) (i := 11) (oi := { dst := some 171, op := Op.move (Operand.tmp 170), type := 4, pos := "law.go:190", after := #[{ on := 10, ground := Ground.data }], guard := none }) (v := ?_) rfl (by kernel_rfl) (by kernel_rfl) (by kernel_rfl) (by kernel_rfl) (fun _ _ _ h => h) (Or.inl ⟨by rfl, ?_⟩) hHeld ?_
                      rotate_left
                      · (intro W hSw; (try dsimp only at hSw); first | (go_simp; done) | (go_simp; with_reducible rfl))
                      try simp only [Act.put, List.setIfInBounds_toArray, List.set_cons_zero, List.set_cons_succ]
                      refine wpAnyZ_take (zOf_all _ _) (i := 12) (oi := { dst := some 172, op := Op.move (Operand.tmp 19), type := 3, pos := "law.go:190", after := #[{ on := 11, ground := Ground.guard }], guard := some (11, false) }) (v := ?_) rfl (by kernel_rfl) (by kernel_rfl) (by kernel_rfl) (by kernel_rfl) (fun _ _ _ h => h) (Or.inl ⟨by rfl, ?_⟩) hHeld ?_
                      rotate_left
                      · (intro W hSw; (try dsimp only at hSw); first | (go_simp; done) | (go_simp; with_reducible rfl))
                      try simp only [Act.put, List.setIfInBounds_toArray, List.set_cons_zero, List.set_cons_succ]
                      refine wpAnyZ_take (zOf_all _ _) (i := 13) (oi := { dst := some 173, op := Op.binOp BinOp.gtr 3 (Operand.tmp 172) (Operand.const (Value.int IntKind.i64 0)) 3, type := 4, pos := "law.go:190", after := #[{ on := 12, ground := Ground.data }, { on := 11, ground := Ground.guard }], guard := some (11, false) }) (v := ?_) rfl (by kernel_rfl) (by kernel_rfl) (by kernel_rfl) (by kernel_rfl) (fun _ _ _ h => h) (Or.inl ⟨by rfl, ?_⟩) hHeld ?_
                      rotate_left
                      · (intro W hSw; (try dsimp only at hSw); first | (go_simp; done) | (go_simp; with_reducible rfl))
                      try simp only [Act.put, List.setIfInBounds_toArray, List.set_cons_zero, List.set_cons_succ]
                      refine wpAnyZ_take (zOf_all _ _) (i := 14) (oi := { dst := some 174, op := Op.move (Operand.tmp 173), type := 4, pos := "law.go:190", after := #[{ on := 13, ground := Ground.data }, { on := 11, ground := Ground.chain }, { on := 11, ground := Ground.guard }], guard := some (11, false) }) (v := ?_) rfl (by kernel_rfl) (by kernel_rfl) (by kernel_rfl) (by kernel_rfl) (fun _ _ _ h => h) (Or.inl ⟨by rfl, ?_⟩) hHeld ?_
                      rotate_left
                      · (intro W hSw; (try dsimp only at hSw); first | (go_simp; done) | (go_simp; with_reducible rfl))
                      try simp only [Act.put, List.setIfInBounds_toArray, List.set_cons_zero, List.set_cons_succ]
                      refine wpAnyZ_take (zOf_all _ _) (i := 15) (oi := { dst := some 175, op := Op.move (Operand.tmp 16), type := 26, pos := "law.go:190", after := #[{ on := 14, ground := Ground.guard }], guard := some (14, true) }) (v := ?_) rfl (by kernel_rfl) (by kernel_rfl) (by kernel_rfl) (by kernel_rfl) (fun _ _ _ h => h) (Or.inl ⟨by rfl, ?_⟩) hHeld ?_
                      rotate_left
                      · (intro W hSw; (try dsimp only at hSw); first | (go_simp; done) | (go_simp; with_reducible rfl))
                      try simp only [Act.put, List.setIfInBounds_toArray, List.set_cons_zero, List.set_cons_succ]
                      refine wpAnyZ_take (zOf_all _ _) (i := 16) (oi := { dst := some 176, op := Op.move (Operand.tmp 19), type := 3, pos := "law.go:190", after := #[{ on := 14, ground := Ground.guard }], guard := some (14, true) }) (v := ?_) rfl (by kernel_rfl) (by kernel_rfl) (by kernel_rfl) (by kernel_rfl) (fun _ _ _ h => h) (Or.inl ⟨by rfl, ?_⟩) hHeld ?_
                      rotate_left
                      · (intro W hSw; (try dsimp only at hSw); first | (go_simp; done) | (go_simp; with_reducible rfl))
                      try simp only [Act.put, List.setIfInBounds_toArray, List.set_cons_zero, List.set_cons_succ]
                      refine wpAnyZ_take (zOf_all _ _) (i := 17) (oi := { dst := some 177, op := Op.indexAddr 26 (Operand.tmp 175) (Operand.tmp 176), type := 0, pos := "law.go:190", after := #[{ on := 15, ground := Ground.data }, { on := 16, ground := Ground.data }, { on := 14, ground := Ground.guard }], guard := some (14, true) }) (v := ?_) rfl (by kernel_rfl) (by kernel_rfl) (by kernel_rfl) (by kernel_rfl) (fun _ _ _ h => h) (Or.inl ⟨by rfl, ?_⟩) hHeld ?_
                      rotate_left
                      · (intro W hSw; (try dsimp only at hSw); first | (go_simp; done) | (go_simp; with_reducible rfl))
                      try simp only [Act.put, List.setIfInBounds_toArray, List.set_cons_zero, List.set_cons_succ]
                      refine wpAnyZ_take (zOf_all _ _) (i := 18) (oi := { dst := some 178, op := Op.fieldAddr 42 (Operand.tmp 177) 0, type := 0, pos := "law.go:190", after := #[{ on := 17, ground := Ground.data }, { on := 14, ground := Ground.guard }], guard := some (14, true) }) (v := ?_) rfl (by kernel_rfl) (by kernel_rfl) (by kernel_rfl) (by kernel_rfl) (fun _ _ _ h => h) (Or.inl ⟨by rfl, ?_⟩) hHeld ?_
                      rotate_left
                      · (intro W hSw; (try dsimp only at hSw); first | (go_simp; done) | (go_simp; with_reducible rfl))
                      try simp only [Act.put, List.setIfInBounds_toArray, List.set_cons_zero, List.set_cons_succ]
                      refine wpAnyZ_take (zOf_all _ _) (i := 19) (oi := { dst := some 179, op := Op.load 3 (Operand.tmp 178), type := 3, pos := "law.go:190", after := #[{ on := 18, ground := Ground.data }, { on := 14, ground := Ground.guard }], guard := some (14, true) }) (v := ?_) rfl (by kernel_rfl) (by kernel_rfl) (by kernel_rfl) (by kernel_rfl) (fun _ _ _ h => h) (Or.inl ⟨by rfl, ?_⟩) hHeld ?_
                      rotate_left
                      · (intro W hSw; (try dsimp only at hSw); first | (go_simp; done) | (go_simp; with_reducible rfl))
                      try simp only [Act.put, List.setIfInBounds_toArray, List.set_cons_zero, List.set_cons_succ]
                      refine wpAnyZ_take (zOf_all _ _) (i := 20) (oi := { dst := some 180, op := Op.move (Operand.tmp 16), type := 26, pos := "law.go:190", after := #[{ on := 14, ground := Ground.guard }], guard := some (14, true) }) (v := ?_) rfl (by kernel_rfl) (by kernel_rfl) (by kernel_rfl) (by kernel_rfl) (fun _ _ _ h => h) (Or.inl ⟨by rfl, ?_⟩) hHeld ?_
                      rotate_left
                      · (intro W hSw; (try dsimp only at hSw); first | (go_simp; done) | (go_simp; with_reducible rfl))
                      try simp only [Act.put, List.setIfInBounds_toArray, List.set_cons_zero, List.set_cons_succ]
                      refine wpAnyZ_take (zOf_all _ _) (i := 21) (oi := { dst := some 181, op := Op.move (Operand.tmp 19), type := 3, pos := "law.go:190", after := #[{ on := 14, ground := Ground.guard }], guard := some (14, true) }) (v := ?_) rfl (by kernel_rfl) (by kernel_rfl) (by kernel_rfl) (by kernel_rfl) (fun _ _ _ h => h) (Or.inl ⟨by rfl, ?_⟩) hHeld ?_
                      rotate_left
                      · (intro W hSw; (try dsimp only at hSw); first | (go_simp; done) | (go_simp; with_reducible rfl))
                      try simp only [Act.put, List.setIfInBounds_toArray, List.set_cons_zero, List.set_cons_succ]
                      refine wpAnyZ_take (zOf_all _ _) (i := 22) (oi := { dst := some 182, op := Op.binOp BinOp.sub 3 (Operand.tmp 181) (Operand.const (Value.int IntKind.i64 1)) 3, type := 3, pos := "law.go:190", after := #[{ on := 21, ground := Ground.data }, { on := 14, ground := Ground.guard }], guard := some (14, true) }) (v := ?_) rfl (by kernel_rfl) (by kernel_rfl) (by kernel_rfl) (by kernel_rfl) (fun _ _ _ h => h) (Or.inl ⟨by rfl, ?_⟩) hHeld ?_
                      rotate_left
                      · (intro W hSw; (try dsimp only at hSw); first | (go_simp; done) | (go_simp; with_reducible rfl))
                      try simp only [Act.put, List.setIfInBounds_toArray, List.set_cons_zero, List.set_cons_succ]
                      refine wpAnyZ_take (zOf_all _ _) (i := 23) (oi := { dst := some 183, op := Op.indexAddr 26 (Operand.tmp 180) (Operand.tmp 182), type := 0, pos := "law.go:190", after := #[{ on := 20, ground := Ground.data }, { on := 22, ground := Ground.data }, { on := 14, ground := Ground.guard }], guard := some (14, true) }) (v := ?_) rfl (by kernel_rfl) (by kernel_rfl) (by kernel_rfl) (by kernel_rfl) (fun _ _ _ h => h) (Or.inl ⟨by rfl, ?_⟩) hHeld ?_
                      rotate_left
                      · (intro W hSw; (try dsimp only at hSw); first | (go_simp; done) | (go_simp; with_reducible rfl))
                      try simp only [Act.put, List.setIfInBounds_toArray, List.set_cons_zero, List.set_cons_succ]
                      refine wpAnyZ_take (zOf_all _ _) (i := 24) (oi := { dst := some 184, op := Op.fieldAddr 42 (Operand.tmp 183) 0, type := 0, pos := "law.go:190", after := #[{ on := 23, ground := Ground.data }, { on := 14, ground := Ground.guard }], guard := some (14, true) }) (v := ?_) rfl (by kernel_rfl) (by kernel_rfl) (by kernel_rfl) (by kernel_rfl) (fun _ _ _ h => h) (Or.inl ⟨by rfl, ?_⟩) hHeld ?_
                      rotate_left
                      · (intro W hSw; (try dsimp only at hSw); first | (go_simp; done) | (go_simp; with_reducible rfl))
                      try simp only [Act.put, List.setIfInBounds_toArray, List.set_cons_zero, List.set_cons_succ]
                      refine wpAnyZ_take (zOf_all _ _) (i := 25) (oi := { dst := some 185, op := Op.load 3 (Operand.tmp 184), type := 3, pos := "law.go:190", after := #[{ on := 24, ground := Ground.data }, { on := 14, ground := Ground.guard }], guard := some (14, true) }) (v := ?_) rfl (by kernel_rfl) (by kernel_rfl) (by kernel_rfl) (by kernel_rfl) (fun _ _ _ h => h) (Or.inl ⟨by rfl, ?_⟩) hHeld ?_
                      rotate_left
                      · (intro W hSw; (try dsimp only at hSw); first | (go_simp; done) | (go_simp; with_reducible rfl))
                      try simp only [Act.put, List.setIfInBounds_toArray, List.set_cons_zero, List.set_cons_succ]
                      refine wpAnyZ_take (zOf_all _ _) (i := 26) (oi := { dst := some 186, op := Op.binOp BinOp.leq 3 (Operand.tmp 179) (Operand.tmp 185) 3, type := 4, pos := "law.go:190", after := #[{ on := 19, ground := Ground.data }, { on := 25, ground := Ground.data }, { on := 14, ground := Ground.guard }], guard := some (14, true) }) (v := ?_) rfl (by kernel_rfl) (by kernel_rfl) (by kernel_rfl) (by kernel_rfl) (fun _ _ _ h => h) (Or.inl ⟨by rfl, ?_⟩) hHeld ?_
                      rotate_left
                      · (intro W hSw; (try dsimp only at hSw); first | (go_simp; done) | (go_simp; with_reducible rfl))
                      try simp only [Act.put, List.setIfInBounds_toArray, List.set_cons_zero, List.set_cons_succ]
                      refine wpAnyZ_take (zOf_all _ _) (i := 27) (oi := { dst := some 187, op := Op.pick (Operand.tmp 174) (Operand.tmp 186) (Operand.const (Value.bool false)), type := 4, pos := "law.go:190", after := #[{ on := 14, ground := Ground.data }, { on := 26, ground := Ground.data }, { on := 11, ground := Ground.guard }], guard := some (11, false) }) (v := ?_) rfl (by kernel_rfl) (by kernel_rfl) (by kernel_rfl) (by kernel_rfl) (fun _ _ _ h => h) (Or.inl ⟨by rfl, ?_⟩) hHeld ?_
                      rotate_left
                      · (intro W hSw; (try dsimp only at hSw); first | (go_simp; done) | (go_simp; with_reducible rfl))
                      try simp only [Act.put, List.setIfInBounds_toArray, List.set_cons_zero, List.set_cons_succ]
                      refine wpAnyZ_take (zOf_all _ _) (i := 28) (oi := { dst := some 188, op := Op.pick (Operand.tmp 171) (Operand.const (Value.bool true)) (Operand.tmp 187), type := 4, pos := "law.go:190", after := #[{ on := 11, ground := Ground.data }, { on := 27, ground := Ground.data }], guard := none }) (v := ?_) rfl (by kernel_rfl) (by kernel_rfl) (by kernel_rfl) (by kernel_rfl) (fun _ _ _ h => h) (Or.inl ⟨by rfl, ?_⟩) hHeld ?_
                      rotate_left
                      · (intro W hSw; (try dsimp only at hSw); first | (go_simp; done) | (go_simp; with_reducible rfl))
                      try simp only [Act.put, List.setIfInBounds_toArray, List.set_cons_zero, List.set_cons_succ]
                      refine wpAnyZ_tail (by kernel_rfl) ?_
                      clear hHeld
                      refine wpAny_done (by kernel_rfl) ?_ _
                      skip
                      go_wp2
                      go_roundw
                      case rel => exact ⟨j + 1, by first | rfl | rw [hwj], by omega, hbj.drew⟩
                      case measure => exact HMJ.out _ (by first | rfl | omega)
                  · have hjl : ¬ (j : Int) < (nm : Int) := by omega
                    have hbj := hj.out.2
                    have hAl : (S' ++ M').length = nA := HN.out.2.2.2.1
                    obtain ⟨a, c, ea, hrunS, hsrc⟩ := src_hi H10.out.2.1 nm (by rw [hAl]; exact HN.out.2.2.2.2.2.1)
                    rw [hAl] at ea
                    injection ea with q1 q2 q3
                    subst q1 q3
                    have ht : ((S' ++ M').take nm).length = nm := by have := HN.out; simp; omega
                    have hT : (S' ++ M').take nm = S' ++ M'.take k6 := by rw [HN.out.1, List.take_append, List.take_of_length_le (by omega), Nat.add_sub_cancel_left]
                    have hszj : w.heap.size ≤ wr.heap.size := Nat.le_trans H10.out.1.b.size hbj.size
                    obtain ⟨v13, w13, hrun13, r13, b13, hv13⟩ := row_anew wr w.heap.size hszj (.slice a10 nm c10) ((S' ++ M').take nm) (fun V hV => hsrc V (own_later (own_later H10.out.2.1 hbj) hV)) (by rw [ht]; have := HN.out; omega)
                    obtain ⟨a13, c13, hv13f⟩ := row_len r13
                    rw [ht] at hv13f
                    subst hv13f
                    have hL13 : LI w w13 hB (i + 1) x7 h7 d7 (S' ++ M'.take k6) [] (.slice a13 nm c13) (.slice none 0 0) := ⟨(H10.out.1.later hbj).later b13, H10.out.2.2.2, H10.out.2.2.1, by rw [← hT]; exact r13, World.ownsRow_nil _ _ _ _, (fun b _ q => by cases q), by have := HN.out; simp; omega, fun y hy => hL.out.1.short y (by
                      rcases List.mem_append.1 hy with q | q
                      · rcases List.mem_append.1 q with q | q
                        · exact List.mem_append_left _ q
                        · exact List.mem_append_right _ (List.mem_of_mem_take q)
                      · simp at q)⟩
                    have HF : Hid (LI w w13 hB (i + 1) x7 h7 d7 (S' ++ M'.take k6) [] (.slice a13 nm c13) (.slice none 0 0) ∧ nm = (S' ++ M'.take k6).length) := ⟨hL13, by rw [← hT, ht]⟩
                    have hrS := fun V => hrunS V
                    clear hL13 r13 b13 hv13 hsrc hT ht hszj hAl hrunS
                    go_wp2_with (at_builtin; refine wpList_append_run rfl (.tmp 190) (.tmp 194) 32 32 rfl _ _ rfl rfl hrun13 ?_)
                    go_roundw
                    case rel => exact ⟨i + 1, x7, h7, d7, S' ++ M'.take k6, [], _, _, rfl, rfl, rfl, rfl, ⟨a13, c13, by rw [← HF.out.2]⟩, ⟨_, _, rfl⟩, HWR.out.1, HWR.out.2, HF.out.1⟩
                    case measure => exact HME.out _ (by first | rfl | omega)

      · have hl1 : (i : Int) < (nL : Int) := by omega
        have hl2 : ¬ (i : Int) < 120 := by omega
        go_wp2
        go_ret
        exact ⟨rfl, hH.out.2.2.ws.b⟩
    · have hl1 : ¬ (i : Int) < (nL : Int) := by omega
      go_wp2
      go_ret
      exact ⟨rfl, hH.out.2.2.ws.b⟩
end Go.Proofs.YtonjjbmjholkjaaDoor
