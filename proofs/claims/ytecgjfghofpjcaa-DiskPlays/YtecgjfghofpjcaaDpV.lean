/-
  The contract of the document's Crash.
-/
import Derived.Test.YtecgjfghofpjcaaDpU
import Derived.Deep.CutBlock
import Derived.Deep.CutRange
namespace Go.Proofs.Ytecgjfghofpjcaa
open Go.RowKit Go.Maps

/-- x[1:] of fates. -/
theorem slice_fates {w : World} {fa : Option Addr} {n cap : Nat} {fs : List Int} (hf : Fs w fa n fs) (hp : 0 < n) (hc : n ≤ cap) :
    ∃ x : Option Addr, (∀ W, (Instr.slice 33 (.slice fa n cap) (some (.int .i64 1)) none none).run Try.prog W = .ok (.slice x (n - 1) (cap - 1)) W) ∧ (∀ W, Fs W fa n fs → Fs W x (n - 1) (fs.drop 1)) ∧ ∀ b off, x = some ⟨b, off, none⟩ → ∃ off', fa = some ⟨b, off', none⟩ := by
  obtain ⟨b, off, rfl, -⟩ := hf.2 hp
  obtain ⟨x, hx⟩ : ∃ x : Option Addr, x = if cap - 1 = 0 then some ⟨b, off, none⟩ else some ((⟨b, off, none⟩ : Addr).add 1) := ⟨_, rfl⟩
  refine ⟨x, fun W => ?_, fun W hW => ⟨by rw [List.length_drop, hW.1], fun hp2 => ?_⟩, fun b2 off2 e => ?_⟩
  · by_cases hc1 : cap - 1 = 0
    · rw [if_pos hc1] at hx
      subst hx
      obtain rfl : n = 1 := by omega
      obtain rfl : cap = 1 := by omega
      simp [Instr.slice, Instr.sliceBounds, Instr.sliceBound, asIntOf, run_underlying Try.underlying33]
    · rw [if_neg hc1] at hx
      subst hx
      have hcf : ¬ cap = 1 := by omega
      have hn1 : ¬ (n : Int) < 1 := by omega
      simp [Instr.slice, Instr.sliceBounds, Instr.sliceBound, asIntOf, run_underlying Try.underlying33, hn1, hcf]
  · obtain ⟨b2, off2, e2, hcl⟩ := hW.2 hp
    cases e2
    rw [if_neg (by omega), Addr.add_lit] at hx
    refine ⟨b, off + 1, hx, fun j hj => ?_⟩
    have hj2 : 1 + j < fs.length := by simp at hj; omega
    have := hcl (1 + j) hj2
    rw [show off + 1 + j = off + (1 + j) by omega, this]
    congr 2
    simp [Nat.add_comm]
  · split at hx
    · rw [hx] at e; cases e; exact ⟨_, rfl⟩
    · rw [hx, Addr.add_lit] at e; cases e; exact ⟨_, rfl⟩

theorem left_len (l : Lo) (keep : Int) (torn : Bool) (t : Nat) (ht : t = l.sure + l.stay keep) (hl : t ≤ l.bytes.length) : (l.left keep torn).length = t := by
  unfold Lo.left
  dsimp only
  split
  · rw [List.length_modify, List.length_take]; omega
  · rw [List.length_take]; omega

theorem left_flat (l : Lo) (keep : Int) (torn : Bool) (t : Nat) (ht : t = l.sure + l.stay keep) (h : ¬ (torn = true ∧ 0 < l.stay keep)) : l.left keep torn = l.bytes.take t := by
  unfold Lo.left
  dsimp only
  rw [if_neg h, ht]

theorem left_torn (l : Lo) (keep : Int) (n : Nat) (ht : n + 1 = l.sure + l.stay keep) (h : 0 < l.stay keep) (hl : n + 1 ≤ l.bytes.length) (c : UInt8) (hc : (l.bytes.take (n + 1))[n]? = some c) : l.left keep true = (l.bytes.take (n + 1)).set n (flip c) := by
  unfold Lo.left
  dsimp only
  rw [if_pos ⟨rfl, h⟩, ← ht]
  have e : (l.bytes.take (n + 1)).length - 1 = n := by rw [List.length_take]; omega
  rw [e, List.modify_eq_set, hc]
  rfl

theorem ks_hit {fresh : Pf} {ks : List Int} (hk : KeysOf fresh ks) {j : Nat} {k : Int} (h3 : ∀ u (h : u < ks.length), u < j ↔ ks[u] < k) (hw : wf64 k) (hx : (fresh k).isSome = true) : ks[j]? = some k ∧ j + 1 ≤ ks.length ∧ ∀ u (h : u < ks.length), u < j + 1 ↔ ks[u] < k + 1 := by
  have hp := List.pairwise_iff_getElem.1 hk.1
  obtain ⟨u, hu, e⟩ := List.getElem_of_mem ((hk.2 k).2 ⟨hw, hx⟩)
  have h1 : ¬ u < j := fun h => by have := (h3 u hu).1 h; omega
  have hj : j < ks.length := by omega
  have h2 : ¬ ks[j] < k := fun h => by have := (h3 j hj).2 h; omega
  have h4 : u = j := by
    rcases Nat.lt_or_ge j u with h | h
    · have := hp j u hj hu h; omega
    · omega
  subst h4
  refine ⟨by rw [List.getElem?_eq_getElem hj, e], hj, fun v hv => ⟨fun h => ?_, fun h => ?_⟩⟩
  · rcases Nat.lt_or_ge v u with h5 | h5
    · have := (h3 v hv).1 h5; omega
    · obtain rfl : v = u := by omega
      omega
  · rcases Nat.lt_or_ge u v with h5 | h5
    · have := hp u v hu hv h5; omega
    · omega
theorem ks_miss {fresh : Pf} {ks : List Int} (hk : KeysOf fresh ks) {j : Nat} {k : Int} (h3 : ∀ u (h : u < ks.length), u < j ↔ ks[u] < k) (hx : fresh k = none) : ∀ u (h : u < ks.length), u < j ↔ ks[u] < k + 1 := by
  intro u hu
  have h1 : ks[u] ≠ k := fun e => by have := ((hk.2 ks[u]).1 (List.getElem_mem hu)).2; rw [e, hx] at this; cases this
  have := h3 u hu
  constructor
  · intro h; have := this.1 h; omega
  · intro h; exact this.2 (by omega)
theorem ks_end {fresh : Pf} {ks : List Int} (hk : KeysOf fresh ks) {j : Nat} {k : Int} (hj : j ≤ ks.length) (h3 : ∀ u (h : u < ks.length), u < j ↔ ks[u] < k) (hall : ∀ x, wf64 x → cutN fresh k x = none) : j = ks.length := by
  rcases Nat.lt_or_ge j ks.length with h | h
  · have h1 : ¬ ks[j] < k := fun h2 => by have := (h3 j h).2 h2; omega
    obtain ⟨q1, q2⟩ := (hk.2 ks[j]).1 (List.getElem_mem h)
    have := hall _ q1
    unfold cutN at this
    rw [if_neg h1] at this
    rw [this] at q2
    cases q2
  · omega

theorem Fs.chg {w w' : World} {S : Nat → Prop} {fa : Option Addr} {fn : Nat} {fs : List Int} (h : Fs w fa fn fs) (hC : Chg S w w') (hS : 0 < fn → ∀ b off, fa = some ⟨b, off, none⟩ → ¬ S b) : Fs w' fa fn fs := by
  refine ⟨h.1, fun hp => ?_⟩
  obtain ⟨b, off, e, hc⟩ := h.2 hp
  exact ⟨b, off, e, fun j hj => hC.cell (hS hp b off e) (hc j hj)⟩

theorem crash_end {w : World} {r : Rf} {no nf : Nat} {d : Dk} (h : RkW w r no nf d) : RkW ((w.setCell ⟨r.R, 3, none⟩ (.bool false)).setCell ⟨r.R, 2, none⟩ (.int .i64 (-1))) r no nf { d with off := false, left := -1 } ∧ Chg (fun k => k = r.R) w ((w.setCell ⟨r.R, 3, none⟩ (.bool false)).setCell ⟨r.R, 2, none⟩ (.int .i64 (-1))) := by
  have hC1 := chg_set w r.R 3 (.bool false)
  have hb1 := bl_set h.b 3 (.bool false)
  have hC2 := chg_set (w.setCell ⟨r.R, 3, none⟩ (.bool false)) r.R 2 (.int .i64 (-1))
  have hb2 := bl_set hb1 2 (.int .i64 (-1))
  have hC := hC1.trans hC2 (fun _ _ e => e) (fun _ _ e => e)
  exact ⟨h.turn (d' := { d with off := false, left := -1 }) hC hb2 rfl rfl rfl, hC⟩

set_option maxRecDepth 20000 in
set_option maxHeartbeats 8000000 in
theorem rcrash_any (r : Rf) (no nf : Nat) (d : Dk) (keep : Int) (torn : Bool) (fa : Option Addr) (fn fc : Nat) (fs ks : List Int) (w : World) (h : RkW w r no nf d) (hk : Dok d) (hno : no + 65536 < 9223372036854775807) (hfs : Fs w fa fn fs) (hfc : fn ≤ fc) (hS : 0 < fn → ∀ b off, fa = some ⟨b, off, none⟩ → ¬ r.has b ∧ b < w.heap.size) (hks : KeysOf d.fresh ks) :
    Calls Try.prog 27 #[.pointer (some ⟨r.R, 0, none⟩), .int .i64 keep, .bool torn, .slice fa fn fc] w fun e w' => (∃ v, e = .returned v) ∧ ∃ a' c', RkW w' { r with ao := a', cap := c' } (no + 65536) nf { d with lo := d.lo.crash keep torn, old := crashTo ks fs d.fresh d.old ks.length, fresh := none', off := false, left := -1 } ∧ Chg r.has w w' ∧ (∀ b off, a' = some ⟨b, off, none⟩ → (∃ off', r.ao = some ⟨b, off', none⟩) ∨ w.heap.size ≤ b) := by
  have c5 := h.c5
  have c6 := h.c6
  have hml := hk.lo.len'
  have hsu := hk.lo.sure
  obtain ⟨m, hm⟩ : ∃ m, m = d.lo.bytes.length := ⟨_, rfl⟩
  have hw1 : wrap64 ((m : Int) - (d.lo.sure : Int)) = (m : Int) - (d.lo.sure : Int) := by unfold wrap64; omega
  rw [← hm] at c5
  obtain ⟨st, hst⟩ : ∃ st, st = d.lo.stay keep := ⟨_, rfl⟩
  have HST : Hid ((∀ x : Int, x = min (max keep 0) ((m : Int) - d.lo.sure) → x = st) ∧ st = d.lo.stay keep ∧ d.lo.bytes.length = m ∧ m ≤ 16777216 ∧ d.lo.sure + st ≤ m) := by
    have e : st = min (max keep 0).toNat (m - d.lo.sure) := by rw [hst, hm]; rfl
    exact ⟨fun x hx => by rw [hx, e]; omega, hst, hm.symm, by omega, by rw [e]; omega⟩
  obtain ⟨C, hC⟩ : ∃ C : Nat, d.count = (C : Int) := ⟨d.count.toNat, by have := hk.c0; omega⟩
  have HM : Hid (d.count = (C : Int) ∧ C ≤ 65536 ∧ (∀ x, (d.fresh x).isSome = true → 0 ≤ x ∧ x < (C : Int)) ∧ no + 65536 < 9223372036854775807) := ⟨hC, by have := hk.c1; omega, fun x hx => by rw [← hC]; exact hk.fk x hx, hno⟩
  have HF : Hid (Fs w fa fn fs ∧ fn ≤ fc ∧ (0 < fn → ∀ b off, fa = some ⟨b, off, none⟩ → ¬ r.has b ∧ b < w.heap.size)) := ⟨hfs, hfc, hS⟩
  have HKS : Hid (KeysOf d.fresh ks) := hks
  have HPF : Hid (PfOk d.fresh ∧ PfOk d.old) := ⟨h.f.1, h.o.1⟩
  have H : Hid (RkW w r no nf d) := h
  clear h hk hml hsu hm hst hC hno hfs hfc hS hks
  go_enter Try.func27, Try.ntmps27
  go_upto_region 0 with fail
  go_cut [8] from 15 (fun s8 wx => s8 = .int .i64 (st : Int) ∧ Below w.heap.size w wx)
  case first =>
    go_region
    all_goals
      go_wp2
      go_meet
      exact ⟨congrArg (Value.int .i64) (HST.out.1 _ rfl), (Below.refl _ _).drew⟩
  case rest =>
    obtain ⟨hs8, b1⟩ := hcut
    subst hs8
    have h1 := H.out.later b1
    clear c5 c6 hw1
    have d5 := h1.c5
    rw [HST.out.2.2.1] at d5
    have d6 := h1.c6
    have hw2 : wrap64 ((d.lo.sure : Int) + (st : Int)) = ((d.lo.sure + st : Nat) : Int) := by have := HST.out; unfold wrap64; omega
    have hw3 : IntKind.i64.wrap ((d.lo.sure : Int) + (st : Int)) = ((d.lo.sure + st : Nat) : Int) := by rw [← wrap64_eq]; exact hw2
    obtain ⟨t, ht⟩ : ∃ t, t = d.lo.sure + st := ⟨_, rfl⟩
    rw [← ht] at hw2 hw3
    have HT : Hid (t = d.lo.sure + st ∧ t ≤ m) := ⟨ht, by have := HST.out; omega⟩
    have hR1 : Rd wc r.ao m r.cap d.lo.bytes := by have := h1.l; rw [HST.out.2.2.1] at this; exact this
    obtain ⟨hs1, hs2⟩ := slice_hi hR1 t HT.out.2
    obtain ⟨a5, q5, W5, g5, hrun, ho5, hR5, b5, nR, ng5⟩ := copied wc.drew r.ao t r.cap (d.lo.bytes.take t) (hs2 _ hR1) (by have := HST.out; have := HT.out; omega)
    have b5' : Below wc.heap.size wc W5 := ⟨b5.os, b5.tape, b5.output, b5.size, b5.block⟩
    have h5 := h1.later b5'
    have f5 := bl_open h5.b 5
    have e5 : W5.cell? ⟨r.R, 5, none⟩ = some (.slice r.ao m r.cap) := (b5'.cell (p := ⟨r.R, 5, none⟩) (bl_lt h1.b)).trans d5
    have hlt : (d.lo.bytes.take t).length = t := by have := HST.out; have := HT.out; rw [List.length_take]; omega
    have hb6 := bl_set h5.b 5 (.slice a5 t q5)
    have hC6 := chg_set W5 r.R 5 (.slice a5 t q5)
    rw [rset5 r d { d with lo := { d.lo with bytes := d.lo.bytes.take t } } a5 t q5 hlt.symm rfl rfl rfl rfl rfl rfl] at hb6
    have h6 : RkW (W5.setCell ⟨r.R, 5, none⟩ (.slice a5 t q5)) { r with ao := a5, cap := q5 } no nf { d with lo := { d.lo with bytes := d.lo.bytes.take t } } :=
      h1.turnL (d' := { d with lo := { d.lo with bytes := d.lo.bytes.take t } }) a5 q5 ((chg_of_below (S := fun k => k = r.R) b5').trans hC6 (fun _ _ e => e) (fun _ _ e => e)) hb6 (by
        show Rd _ a5 (d.lo.bytes.take t).length q5 _
        rw [hlt]
        exact hR5.chg hC6 (fun _ b off e (e2 : b = r.R) => by have h9 : wc.heap.size ≤ b := (nR b off e).1; have h10 := bl_lt h1.b; omega)) (fun b off e => .inr ⟨(nR b off e).1, Nat.lt_of_lt_of_le (nR b off e).2 hC6.size⟩) rfl rfl
    have ho6 : Ob (W5.setCell ⟨r.R, 5, none⟩ (.slice a5 t q5)) (.slice a5 t q5) g5 (d.lo.bytes.take t) := ho5.kept (fun b e => Below.heap_setCell _ _ _ b (fun e2 => by have h9 := ng5 b e; have h10 := bl_lt h1.b; have h11 : b = r.R := e2; have h12 : wc.heap.size ≤ b := h9; omega))
    have FIN1 : Hid (RkW (W5.setCell ⟨r.R, 5, none⟩ (.slice a5 t q5)) { r with ao := a5, cap := q5 } no nf { d with lo := { d.lo with bytes := d.lo.bytes.take t } } ∧ Ob (W5.setCell ⟨r.R, 5, none⟩ (.slice a5 t q5)) (.slice a5 t q5) g5 (d.lo.bytes.take t) ∧ (∀ b, g5 = some b → w.heap.size ≤ b) ∧ Chg r.has w (W5.setCell ⟨r.R, 5, none⟩ (.slice a5 t q5))) :=
      ⟨h6, ho6, fun b e => Nat.le_trans b1.size (ng5 b e), ((chg_of_below (S := r.has) b1).trans (chg_of_below (S := r.has) b5') (fun _ _ e => e) (fun _ _ e => e)).trans hC6 (fun _ _ e => e) (fun k _ e => .inl e)⟩
    have n1 : ¬ r.R = wc.heap.size := by have := bl_lt h1.b; omega
    have d5a : (wc.alloc (.cells #[] 5)).cell? ⟨r.R, 5, none⟩ = some (.slice r.ao m r.cap) := (((Below.refl _ wc).alloc (Nat.le_refl _) (.cells #[] 5)).cell (p := ⟨r.R, 5, none⟩) (bl_lt h1.b)).trans d5
    have d6a : (wc.alloc (.cells #[] 5)).cell? ⟨r.R, 6, none⟩ = some (.int .i64 (d.lo.sure : Int)) := (((Below.refl _ wc).alloc (Nat.le_refl _) (.cells #[] 5)).cell (p := ⟨r.R, 6, none⟩) (bl_lt h1.b)).trans d6
    have n2 : ¬ wc.heap.size = r.R := by omega
    clear h1 hR1 hs2 ho5 hR5 b5 nR ng5 b5' h5 hlt hb6 hC6 h6 ho6 ht b1
    have mixed : Try.prog.follows .mixedOrders = true := by kernel_rfl
    go_upto_region 1 with fail
    go_cut [28] from 28 (fun _ wx => RkW wx { r with ao := a5, cap := q5 } no nf { d with lo := { d.lo with bytes := d.lo.bytes.take t } } ∧ Ob wx (.slice a5 t q5) g5 (d.lo.bytes.take t) ∧ (∀ b, g5 = some b → w.heap.size ≤ b) ∧ Chg r.has w wx)
    case first =>
      go_region_law_o (refine step_append_run (by rfl) _ _ _ _ (by rfl) _ _ (by rfl) (by rfl) hrun ?_)
      all_goals
        go_wp2
        go_meet
        exact FIN1.out
    case rest =>
      obtain ⟨h2, ho2, hg2, hC2⟩ := hcut
      have e5 := h2.c5
      rw [show (d.lo.bytes.take t).length = t by have := HST.out; have := HT.out; rw [List.length_take]; omega] at e5
      have H2 : Hid (RkW wc { r with ao := a5, cap := q5 } no nf { d with lo := { d.lo with bytes := d.lo.bytes.take t } } ∧ Ob wc (.slice a5 t q5) g5 (d.lo.bytes.take t) ∧ (∀ b, g5 = some b → w.heap.size ≤ b) ∧ Chg r.has w wc) := ⟨h2, ho2, hg2, hC2⟩
      have HR : Hid (r.R < w.heap.size) := bl_lt H.out.b
      clear d5 d6 d5a d6a hw2 hw3 hs1 hrun f5 FIN1 n1 n2 h2 ho2 hg2 hC2 mixed
      go_upto_region 2 with fail
      go_cut [48] from 44 (fun s48 wx => s48 = .bool (torn && decide (0 < st)) ∧ wx = wc)
      case first =>
        by_cases hs0 : 0 < st
        · have hs0' : (st : Int) > 0 := by omega
          cases torn <;>
          · go_wp2
            go_meet
            exact ⟨by simp [hs0], rfl⟩
        · have hs0' : ¬ (st : Int) > 0 := by omega
          cases torn <;>
          · go_wp2
            go_meet
            exact ⟨by simp [hs0], rfl⟩
      case rest =>
      obtain ⟨hs48, rfl⟩ := hcut
      subst hs48
      go_upto_if 48 with fail
      go_cut [44] from 44 (fun _ wx => RkW wx { r with ao := a5, cap := q5 } no nf { d with lo := { d.lo with bytes := d.lo.left keep torn } } ∧ Chg r.has w wx)
      case first =>
        by_cases ht : torn = true ∧ 0 < st
        · obtain ⟨rfl, hs0⟩ := ht
          have e48 : (true && decide (0 < st)) = true := by simp [hs0]
          rw [e48]
          clear e48
          obtain ⟨n, hn⟩ : ∃ n, t = n + 1 := ⟨t - 1, by have := HT.out; omega⟩
          have hs0' : (st : Int) > 0 := by omega
          have hlen : (d.lo.bytes.take t).length = n + 1 := by have := HST.out; have := HT.out; rw [List.length_take]; omega
          obtain ⟨-, ho, hg, -⟩ := H2.out
          rcases id ho with ⟨-, e0, -⟩ | ⟨b, o, cap, cur, e, hgb, h3, h4, h5, h6, h7⟩
          · rw [e0] at hlen; simp at hlen
          · simp only [Value.slice.injEq] at e
            obtain ⟨rfl, -, rfl⟩ := e
            obtain ⟨c, hc⟩ : ∃ c, (d.lo.bytes.take t)[n]? = some c := ⟨_, List.getElem?_eq_getElem (by omega)⟩
            have hc' : (d.lo.bytes.take t)[n]'(by omega) = c := by have := List.getElem?_eq_getElem (l := d.lo.bytes.take t) (i := n) (by omega); rw [hc] at this; exact (Option.some.inj this).symm
            have k0 : wc.cell? ⟨b, o + n, none⟩ = some (.int .u8 (c.toNat : Int)) := by rw [← hc']; exact bl_cell h3 _ _ (h7 n (by omega))
            have kf := bl_open h3 (o + n)
            have hfl := flip_eq c
            have hwt : IntKind.i64.wrap ((t : Int) - 1) = (n : Int) := by have := HT.out; have := HST.out; rw [IntKind.wrap_i64]; omega
            have hwt2 : wrap64 ((t : Int) - 1) = (n : Int) := by rw [wrap64_eq]; exact hwt
            have hbw := hg b hgb
            have FIN2 : Hid (RkW (wc.setCell ⟨b, o + n, none⟩ (.int .u8 ((flip c).toNat : Int))) { r with ao := some ⟨b, o, none⟩, cap := q5 } no nf { d with lo := { d.lo with bytes := d.lo.left keep true } } ∧ Chg r.has w (wc.setCell ⟨b, o + n, none⟩ (.int .u8 ((flip c).toNat : Int)))) := by
              obtain ⟨q1, q2, q3, q4⟩ := H2.out
              have hC3 := chg_set wc b (o + n) (.int .u8 ((flip c).toNat : Int))
              have el : d.lo.left keep true = (d.lo.bytes.take t).set n (flip c) := by
                rw [hn] at hc ⊢
                exact left_torn d.lo keep n (by have := HT.out; have := HST.out; omega) (by have := HST.out; omega) (by have := HT.out; have := HST.out; omega) c hc
              have ho3 := Ob.set_at (o := o) q2 n (by omega) (flip c)
              have hlen2 : (d.lo.left keep true).length = (d.lo.bytes.take t).length := by rw [el, List.length_set]
              obtain ⟨bR, bo, bm, bz⟩ := q1.a b o rfl
              refine ⟨⟨?_, ?_, fun b' off' e' => by have := q1.a b' off' e'; exact ⟨this.1, this.2.1, this.2.2.1, Nat.lt_of_lt_of_le this.2.2.2 hC3.size⟩, q1.o.later (hC3.block _ q1.o.lt (fun e => bo e.symm)), q1.f.later (hC3.block _ q1.f.lt (fun e => bm e.symm)), q1.ne⟩, q4.trans hC3 (fun _ _ e => e) (fun k hk e => by have h1 : w.heap.size ≤ b := hbw; have h2 : k = b := e; omega)⟩
              · have hb := (hC3.block _ (bl_lt q1.b) (fun e => bR e.symm)).trans q1.b
                have er : rcs { r with ao := some ⟨b, o, none⟩, cap := q5 } { d with lo := { d.lo with bytes := d.lo.left keep true } } = rcs { r with ao := some ⟨b, o, none⟩, cap := q5 } { d with lo := { d.lo with bytes := d.lo.bytes.take t } } := by unfold rcs; dsimp only; rw [hlen2]
                rw [er]
                exact hb
              · have hr3 := ho3.form
                obtain ⟨a9, c9, e9, h9, -, -⟩ := hr3
                simp only [Value.slice.injEq] at e9
                obtain ⟨rfl, -, rfl⟩ := e9
                show Rd _ _ (d.lo.left keep true).length _ (d.lo.left keep true)
                rw [el]
                exact h9
            have d5' : wc.drew.cell? ⟨r.R, 5, none⟩ = some (.slice (some ⟨b, o, none⟩) t q5) := e5
            have k0' : wc.drew.cell? ⟨b, o + n, none⟩ = some (.int .u8 (c.toNat : Int)) := k0
            have kf' : wc.drew.frozen? ⟨b, o + n, none⟩ = false := kf
            have hnt : n < t := by omega
            have HN : Hid (t = n + 1) := hn
            clear hn hlen ho hg hgb h3 h4 h5 h6 h7 hc hc' hbw H2
            go_upto_region 3 with fail
            go_region
            all_goals
              go_wp2
              go_meet
              exact ⟨FIN2.out.1.kept (Nat.le_refl _) (fun _ _ => rfl), FIN2.out.2.drw⟩
        · have el : d.lo.left keep torn = d.lo.bytes.take t := left_flat d.lo keep torn t (by have := HT.out; have := HST.out; omega) (by have := HST.out.2.1; rw [← this]; exact ht)
          have FIN2 : Hid (RkW wc { r with ao := a5, cap := q5 } no nf { d with lo := { d.lo with bytes := d.lo.left keep torn } } ∧ Chg r.has w wc) := by
            rw [el]
            exact ⟨H2.out.1, H2.out.2.2.2⟩
          clear el
          have e48 : (torn && decide (0 < st)) = false := by
            cases torn with
            | false => rfl
            | true =>
              have : ¬ 0 < st := fun hh => ht ⟨rfl, hh⟩
              simp [this]
          rw [e48]
          clear e48
          go_wp2
          go_meet
          exact FIN2.out
      case rest =>
        obtain ⟨h4, hC4⟩ := hcut
        have hll : (d.lo.left keep torn).length = t := left_len d.lo keep torn t (by have := HT.out; have := HST.out; omega) (by have := HT.out; have := HST.out; omega)
        have d5 := h4.c5
        rw [show ({ d with lo := { d.lo with bytes := d.lo.left keep torn } } : Dk).lo.bytes.length = t from hll] at d5
        have d6 := h4.c6
        have f6 := bl_open h4.b 6
        have hC6 := chg_set wc r.R 6 (.int .i64 (t : Int))
        have hb6 := bl_set h4.b 6 (.int .i64 (t : Int))
        have h6 : RkW (wc.setCell ⟨r.R, 6, none⟩ (.int .i64 (t : Int))) { r with ao := a5, cap := q5 } no nf { d with lo := d.lo.crash keep torn } := by
          refine h4.turn (d' := { d with lo := d.lo.crash keep torn }) hC6 ?_ rfl rfl rfl
          have e : rcs { r with ao := a5, cap := q5 } { d with lo := d.lo.crash keep torn } = (rcs { r with ao := a5, cap := q5 } { d with lo := { d.lo with bytes := d.lo.left keep torn } }).setIfInBounds 6 (.int .i64 (t : Int)) := by
            unfold rcs Lo.crash
            dsimp only
            rw [hll]
            rfl
          rw [e]
          exact hb6
        obtain ⟨r', hr'⟩ : ∃ r', r' = ({ r with ao := a5, cap := q5 } : Rf) := ⟨_, rfl⟩
        have HRR : Hid (r' = ({ r with ao := a5, cap := q5 } : Rf)) := hr'
        have HaN : Hid (∀ b off, a5 = some ⟨b, off, none⟩ → (∃ off', r.ao = some ⟨b, off', none⟩) ∨ w.heap.size ≤ b) := fun b off e => .inr (by
          have ho := H2.out.2.1
          exact H2.out.2.2.1 b (by rw [e] at ho; exact ho.blk rfl))
        obtain ⟨W6, hW6⟩ : ∃ W6, W6 = wc.setCell ⟨r.R, 6, none⟩ (.int .i64 (t : Int)) := ⟨_, rfl⟩
        rw [← hW6, ← hr'] at h6
        rw [← hW6] at hC6
        have HW6 : Hid (wc.setCell ⟨r.R, 6, none⟩ (.int .i64 (t : Int)) = W6) := hW6.symm
        obtain ⟨d1, hd1⟩ : ∃ d1 : Dk, d1 = { d with lo := d.lo.crash keep torn } := ⟨_, rfl⟩
        rw [← hd1] at h6
        have HD1 : Hid (d1.count = (C : Int) ∧ d1.fresh = d.fresh ∧ d1.old = d.old ∧ d1 = { d with lo := d.lo.crash keep torn }) := by rw [hd1]; exact ⟨HM.out.1, rfl, rfl, rfl⟩
        have H6 : Hid (RkW W6 r' no nf d1 ∧ Chg r.has w W6) := ⟨h6, hC4.trans hC6 (fun _ _ e => e) (fun k _ e => .inl e)⟩
        have HRe : Hid (r.R = r'.R) := by unfold Hid; rw [hr']
        have HSF : Hid (0 < fn → ∀ b off, fa = some ⟨b, off, none⟩ → ¬ r'.has b ∧ b < w.heap.size) := fun hp b off e => by
          obtain ⟨q1, q2⟩ := HF.out.2.2 hp b off e
          refine ⟨fun hb => ?_, q2⟩
          rw [hr'] at hb
          rcases hb with e1 | e1 | e1 | ⟨off', e1⟩
          · exact q1 (.inl e1)
          · exact q1 (.inr (.inl e1))
          · exact q1 (.inr (.inr (.inl e1)))
          · rcases HaN.out b off' e1 with ⟨o2, e2⟩ | e2
            · exact q1 (.inr (.inr (.inr ⟨o2, e2⟩)))
            · omega
        clear h4 hC4 hll hC6 hb6 h6 hr' hW6 hd1 H2 e5
        go_upto_region 4 with fail
        go_upto_region 5 with fail
        rw [HW6.out, HRe.out]
        clear d5 d6 f6 HW6
        go_wp2
        go_loopw [3, 9] (fun s3 s9 wr => ∃ (k j : Nat) (fx : Option Addr) (fm fk : Nat), s9 = .int .i64 (k : Int) ∧ s3 = .slice fx fm fk ∧
          Hid (k ≤ C ∧ j ≤ ks.length ∧ (∀ u (h : u < ks.length), u < j ↔ ks[u] < (k : Int)) ∧ RkW wr r' (no + k) nf { d1 with old := crashTo ks fs d.fresh d.old j, fresh := cutN d.fresh k } ∧ Chg r.has w wr ∧ Fs wr fx fm (fs.drop j) ∧ fm ≤ fk ∧ (0 < fm → ∀ b off, fx = some ⟨b, off, none⟩ → ¬ r'.has b ∧ b < w.heap.size))) (fun _ i _ => C - (intOf i).toNat)
        case atStart =>
          have q := H6.out
          refine ⟨0, 0, fa, fn, fc, rfl, rfl, Nat.zero_le _, Nat.zero_le _, fun u hu => ?_, ?_, q.2, ?_, HF.out.2.1, HSF.out⟩
          · have h1 := ((HKS.out.2 ks[u]).1 (List.getElem_mem hu)).2
            have h2 := (HM.out.2.2.1 _ h1).1
            constructor
            · intro h; omega
            · intro h; have h : ks[u] < 0 := h; omega
          · have e2 := cutN_zero d.fresh (fun x hx => (HM.out.2.2.1 x hx).1)
            have e3 : ({ d1 with old := crashTo ks fs d.fresh d.old 0, fresh := cutN d.fresh ((0 : Nat) : Int) } : Dk) = d1 := by
              rw [show (((0 : Nat) : Int)) = 0 from rfl, e2, ← HD1.out.2.1]
              show ({ d1 with old := d.old, fresh := d1.fresh } : Dk) = d1
              rw [← HD1.out.2.2.1]
            rw [e3]
            exact q.1
          · exact HF.out.1.chg q.2 (fun hp b off e => (HF.out.2.2 hp b off e).1)
        case round =>
          obtain ⟨k, j, fx, fm, fk, rfl, rfl, hH⟩ := hrel
          have q := hH.out.2.2.2.1
          have HEX : Hid ((∀ x, wf64 x → cutN d.fresh (k : Int) x = none) → RkW wr r' (no + 65536) nf { d1 with old := crashTo ks fs d.fresh d.old ks.length, fresh := none' } ∧ Chg r.has w wr) := by
            intro hall
            have ej := ks_end HKS.out hH.out.2.1 hH.out.2.2.1 hall
            rw [← ej]
            exact ⟨⟨q.b, q.l, q.a, q.o.mono (by have := hH.out.1; have := HM.out.2.1; omega), q.f.ext (fun x bs e => by cases e) hall, q.ne⟩, hH.out.2.2.2.2.1⟩
          have HFIN : Hid (∀ W, RkW W r' (no + 65536) nf { d1 with old := crashTo ks fs d.fresh d.old ks.length, fresh := none' } ∧ Chg r.has w W → (∃ a' c', RkW ((W.setCell ⟨r'.R, 3, none⟩ (.bool false)).setCell ⟨r'.R, 2, none⟩ (.int .i64 (-1))) { r with ao := a', cap := c' } (no + 65536) nf { d with lo := d.lo.crash keep torn, old := crashTo ks fs d.fresh d.old ks.length, fresh := none', off := false, left := -1 } ∧ Chg r.has w ((W.setCell ⟨r'.R, 3, none⟩ (.bool false)).setCell ⟨r'.R, 2, none⟩ (.int .i64 (-1))) ∧ (∀ b off, a' = some ⟨b, off, none⟩ → (∃ off', r.ao = some ⟨b, off', none⟩) ∨ w.heap.size ≤ b))) := by
            rintro W ⟨h1, h2⟩
            obtain ⟨h3, h4⟩ := crash_end h1
            refine ⟨a5, q5, ?_, h2.trans h4 (fun _ _ e => e) (fun k _ (e : k = r'.R) => .inl (e.trans HRe.out.symm)), HaN.out⟩
            have h5 := h3
            rw [HD1.out.2.2.2] at h5
            rw [HRR.out] at h5 ⊢
            exact h5
          have f3 := bl_open q.b 3
          have f2 : (wr.setCell ⟨r'.R, 3, none⟩ (.bool false)).frozen? ⟨r'.R, 2, none⟩ = false := bl_open (bl_set q.b 3 (.bool false)) 2
          have c3 := q.c3
          have c2 : (wr.setCell ⟨r'.R, 3, none⟩ (.bool false)).cell? ⟨r'.R, 2, none⟩ = some (.int .i64 (max (-1) d1.left)) := bl_cell (bl_set q.b 3 (.bool false)) 2 _ rfl
          have c1 := q.c1
          rw [show ({ d1 with old := crashTo ks fs d.fresh d.old j, fresh := cutN d.fresh k } : Dk).count = (C : Int) from HD1.out.1] at c1
          have c7 := q.c7
          have c8 := q.c8
          obtain ⟨s, hlen, hs0⟩ := q.f.len
          by_cases hlt : k < C
          · have hlt' : (k : Int) < (C : Int) := by omega
            by_cases hs : s = 0
            · subst hs
              have HR := HFIN.out wr (HEX.out (hs0 rfl))
              have HRh : Hid _ := HR
              clear q hs0 hlt HR
              go_wp2_with (at_len; refine wpList_len_run rfl _ _ rfl _ rfl hlen ?_)
              go_end0
              obtain ⟨x1, x2, x3, x4, x5⟩ := HRh.out; exact ⟨⟨_, rfl⟩, x1, ⟨x2, x3⟩, x4, x5⟩
            · have hsp : ((s : Nat) : Int) > 0 := by omega
              have hwk : wf64 (k : Int) := ⟨by omega, by have := HM.out.2.1; omega⟩
              have L := MS.look (f := cutN d.fresh (k : Int)) q.f (k : Int) hwk
              have ek : cutN d.fresh (k : Int) (k : Int) = d.fresh (k : Int) := by unfold cutN; rw [if_neg (by omega)]
              rw [ek] at L
              have hwr : IntKind.i64.wrap ((k : Int) + 1) = ((k + 1 : Nat) : Int) := by have := HM.out.2.1; rw [IntKind.wrap_i64]; omega
              have HME : Hid (C - ((k : Int) + 1).toNat < C - ((k : Int)).toNat) := by exact (show C - ((k : Int) + 1).toNat < C - ((k : Int)).toNat by omega)
              cases hf : d.fresh (k : Int) with
              | none =>
                rw [hf] at L
                simp only [Option.getD_none, Option.isSome_none] at L
                have FIN : Hid (k + 1 ≤ C ∧ j ≤ ks.length ∧ (∀ u (h : u < ks.length), u < j ↔ ks[u] < ((k + 1 : Nat) : Int)) ∧ RkW wr r' (no + (k + 1)) nf { d1 with old := crashTo ks fs d.fresh d.old j, fresh := cutN d.fresh ((k + 1 : Nat) : Int) } ∧ Chg r.has w wr ∧ Fs wr fx fm (fs.drop j) ∧ fm ≤ fk ∧ (0 < fm → ∀ b off, fx = some ⟨b, off, none⟩ → ¬ r'.has b ∧ b < w.heap.size)) := by
                  have hh := hH.out
                  rw [show ((k + 1 : Nat) : Int) = (k : Int) + 1 by omega, cutN_none _ _ hf]
                  exact ⟨hlt, hh.2.1, ks_miss HKS.out hh.2.2.1 hf, ⟨q.b, q.l, q.a, q.o.mono (by omega), q.f, q.ne⟩, hh.2.2.2.2⟩
                clear q hs0 hlt ek hf HEX HFIN f3 f2 c3 c2
                go_wp2_with (at_len; refine wpList_len_run rfl _ _ rfl _ rfl hlen ?_)
                go_roundw
                case rel => exact ⟨k + 1, j, fx, fm, fk, rfl, rfl, FIN.out⟩
                case measure => exact HME.out
              | some x =>
                -- <some>
                rw [hf] at L
                simp only [Option.getD_some, Option.isSome_some] at L
                have hxl := HPF.out.1 _ _ hf
                obtain ⟨hj0, hj1, hj2⟩ := ks_hit HKS.out hH.out.2.2.1 hwk (by rw [hf]; rfl)
                obtain ⟨ft, hft⟩ : ∃ ft, ft = (fs[j]?.getD 0) % 3 := ⟨_, rfl⟩
                have HSTEP : Hid (crashTo ks fs d.fresh d.old (j + 1) = if ft = 1 then put (crashTo ks fs d.fresh d.old j) (k : Int) x else if ft = 2 then put (crashTo ks fs d.fresh d.old j) (k : Int) f512 else crashTo ks fs d.fresh d.old j) := by
                  unfold Hid
                  rw [hft]
                  show (match ks[j]? with | none => _ | some x => _) = _
                  rw [hj0]
                  dsimp only
                  rw [hf]
                  rfl
                have HJ : Hid (k + 1 ≤ C ∧ j + 1 ≤ ks.length ∧ (∀ u (h : u < ks.length), u < j + 1 ↔ ks[u] < ((k + 1 : Nat) : Int)) ∧ no + (k + 1) < 9223372036854775807 ∧ wf64 (k : Int) ∧ x.length = 512) := by
                  rw [show ((k + 1 : Nat) : Int) = (k : Int) + 1 by omega]
                  exact ⟨hlt, hj1, hj2, by have := HM.out; omega, hwk, hxl⟩
                have HFT : Hid (ft = (fs[j]?.getD 0) % 3) := hft
                have HQ : Hid (RkW wr r' (no + k) nf { d1 with old := crashTo ks fs d.fresh d.old j, fresh := cutN d.fresh k }) := q
                have HDEL : Hid (∀ W, RkW W r' (no + (k + 1)) nf { d1 with old := crashTo ks fs d.fresh d.old (j + 1), fresh := cutN d.fresh k } → ∃ W2, (∀ ty, (Builtin.delete_ #[45, 3] ty #[.map (some r'.mf), .int .i64 (k : Int)]).run Try.prog W = .ok (.tuple #[]) W2) ∧ RkW W2 r' (no + (k + 1)) nf { d1 with old := crashTo ks fs d.fresh d.old (j + 1), fresh := cutN d.fresh ((k + 1 : Nat) : Int) } ∧ Chg (fun i => i = r'.mo ∨ i = r'.mf) W W2) := by
                  intro W hW
                  obtain ⟨W2, h1, h2, h3⟩ := MS.drop (f := cutN d.fresh (k : Int)) hW.f (k : Int) HJ.out.2.2.2.2.1 3
                  have h3' : Chg (fun i => i = r'.mo ∨ i = r'.mf) W W2 := h3.mono (fun _ _ e => .inr e)
                  rw [cutN_del, show (k : Int) + 1 = ((k + 1 : Nat) : Int) by omega] at h2
                  exact ⟨W2, fun ty => (delete_ty _ _ _ _ _ _).trans h1, hW.turnM (old := crashTo ks fs d.fresh d.old (j + 1)) h3' (hW.o.later (h3.block _ hW.o.lt hW.ne)) h2, h3'⟩
                clear q hs0 hlt ek hf HEX HFIN f3 f2 c3 c2 hj0 hj1 hj2 hxl hft hwk
                go_upto_region 10 with (at_len; refine wpList_len_run rfl _ _ rfl _ rfl hlen ?_)
                go_upto_if 110 with fail
                go_cut [3, 12] from 108 to 153 (fun s3 s12 wx => s12 = .int .i64 ft ∧ (∃ fx' fm' fk', s3 = .slice fx' fm' fk' ∧ Hid (Fs wr fx' fm' (fs.drop (j + 1)) ∧ fm' ≤ fk' ∧ (0 < fm' → ∀ b off, fx' = some ⟨b, off, none⟩ → ¬ r'.has b ∧ b < w.heap.size))) ∧ wx = wr)
                case first =>
                  by_cases hm0 : fm = 0
                  · subst hm0
                    have hd0 := hH.out.2.2.2.2.2.1.1
                    have hfl : fs.length ≤ j := by have := List.length_drop (l := fs) (i := j); omega
                    have e0 : ft = 0 := by rw [HFT.out, List.getElem?_eq_none hfl]; rfl
                    have e1 : fs.drop (j + 1) = fs.drop j := by rw [List.drop_eq_nil_of_le hfl, List.drop_eq_nil_of_le (by omega)]
                    have HX : Hid (Fs wr fx 0 (fs.drop (j + 1)) ∧ 0 ≤ fk ∧ (0 < 0 → ∀ b off, fx = some ⟨b, off, none⟩ → ¬ r'.has b ∧ b < w.heap.size)) := by
                      rw [e1]
                      exact ⟨hH.out.2.2.2.2.2.1, Nat.zero_le _, fun h => by omega⟩
                    clear hd0 hfl e1
                    go_wp2
                    go_meet
                    exact ⟨by rw [e0], ⟨fx, 0, fk, rfl, HX.out⟩, rfl⟩
                  · have hmp : 0 < fm := by omega
                    have hmp' : (fm : Int) > 0 := by omega
                    obtain ⟨z1, z2, z3⟩ := hH.out.2.2.2.2.2
                    obtain ⟨fx2, hs1, hs2, hs3⟩ := slice_fates z1 hmp z2
                    obtain ⟨b, off, rfl, hc⟩ := z1.2 hmp
                    have hjl : j < fs.length := by have := z1.1; rw [List.length_drop] at this; omega
                    have k0 := hc 0 (by rw [List.length_drop]; omega)
                    obtain ⟨f0, hf0⟩ : ∃ f0, f0 = (fs.drop j)[0]'(by rw [List.length_drop]; omega) := ⟨_, rfl⟩
                    rw [← hf0, Nat.add_zero] at k0
                    have ef : ft = f0 % 3 := by rw [HFT.out, hf0, List.getElem?_eq_getElem hjl]; simp
                    have HX : Hid (Fs wr fx2 (fm - 1) (fs.drop (j + 1)) ∧ fm - 1 ≤ fk - 1 ∧ (0 < fm - 1 → ∀ b off, fx2 = some ⟨b, off, none⟩ → ¬ r'.has b ∧ b < w.heap.size)) := by
                      have h2 := hs2 wr z1
                      rw [List.drop_drop] at h2
                      exact ⟨h2, by omega, fun h b2 off2 e => by obtain ⟨o2, e2⟩ := hs3 b2 off2 e; exact z3 hmp b2 o2 e2⟩
                    have HEF : Hid (ft = f0 % 3) := ef
                    have hfm1 : 1 ≤ fm := hmp
                    clear z1 z2 z3 hs2 hs3 hc hf0 ef hjl hm0
                    go_wp2
                    go_meet
                    refine ⟨?_, ⟨fx2, fm - 1, fk - 1, rfl, HX.out⟩, rfl⟩
                    rw [HEF.out, ← tmod3]
                case rest =>
                  obtain ⟨hs12, ⟨fx', fm', fk', hs3, hX⟩, rfl⟩ := hcut
                  subst hs12
                  subst hs3
                  go_upto_block 2 with fail
                  go_cut [12] from 81 to 153 (fun _ wx => RkW wx r' (no + (k + 1)) nf { d1 with old := crashTo ks fs d.fresh d.old (j + 1), fresh := cutN d.fresh k } ∧ Chg (fun i => i = r'.mo) wc wx)
                  case first =>
                    -- <fate>
                    by_cases f1 : ft = 1
                    · have HST := HSTEP.out
                      rw [if_pos f1] at HST
                      obtain ⟨W5, hst, hM5, hC5⟩ := MS.store (f := crashTo ks fs d.fresh d.old j) HQ.out.o (by have := HJ.out; omega) (k : Int) HJ.out.2.2.2.2.1 x HJ.out.2.2.2.2.2
                      have FIN : Hid (RkW W5 r' (no + (k + 1)) nf { d1 with old := crashTo ks fs d.fresh d.old (j + 1), fresh := cutN d.fresh k } ∧ Chg (fun i => i = r'.mo) wc W5) := by
                        have hq := HQ.out
                        have hC5' : Chg (fun i => i = r'.mo ∨ i = r'.mf) wc W5 := hC5.mono (fun _ _ e => .inl e)
                        rw [HST]
                        exact ⟨hq.turnM (old := put (crashTo ks fs d.fresh d.old j) (k : Int) x) (fresh := cutN d.fresh k) hC5' hM5 (hq.f.later (hC5.block _ hq.f.lt (fun e => hq.ne e.symm))), hC5⟩
                      subst f1
                      clear HST hM5 hC5 HDEL
                      go_wp2
                      go_meet
                      exact FIN.out
                    · by_cases f2 : ft = 2
                      · have HST := HSTEP.out
                        rw [if_neg f1, if_pos f2] at HST
                        have HST2 : Hid (crashTo ks fs d.fresh d.old (j + 1) = put (crashTo ks fs d.fresh d.old j) (k : Int) f512) := HST
                        subst f2
                        obtain ⟨i0, hi, hz0, hz1, hz2⟩ := info_parts (show (Try.prog.info? 5).map (fun i => (i.zero, i.size, i.bytes)) = some (some (.int .u8 0), 1, 1) by kernel_rfl)
                        have hmk : (Instr.makeSlice 32 (.int .i64 512) (.int .i64 512)).run Try.prog wc = .ok (.slice (some ⟨wc.heap.size, 0, none⟩) 512 512) (wc.alloc (.cells (bv z512).toArray 5)) := by
                          have h := run_make (P := Try.prog) wc 32 5 i0 _ Try.underlying32 hi hz0 .i64 .i64 512 512 (by omega) (by omega) (by rw [hz2]; omega) (by omega)
                          have e : madeCells (Value.int .u8 0).cells ((512 : Int).toNat * i0.size) = (bv z512).toArray := by
                            rw [hz1, bv_z512]
                            apply Array.ext
                            · rw [size_madeCells]; rfl
                            · intro j h1 h2
                              rw [size_madeCells] at h1
                              simp [madeCells, Value.cells, Nat.mod_one]
                          rw [e] at h
                          exact h
                        obtain ⟨G, hG⟩ : ∃ G, G = wc.heap.size := ⟨_, rfl⟩
                        rw [← hG] at hmk
                        obtain ⟨W1, hW1⟩ : ∃ W1, W1 = wc.alloc (.cells (bv z512).toArray 5) := ⟨_, rfl⟩
                        have b1 : Below wc.heap.size wc W1 := by rw [hW1]; exact (Below.refl _ _).alloc (Nat.le_refl _) _
                        have hN1 : W1.heap[G]? = some (.cells (bv z512).toArray 5 (0, 0)) := by rw [hW1, hG]; exact heap_alloc_new wc _
                        rw [← hW1] at hmk
                        have HG : Hid (G = wc.heap.size) := hG
                        have HB1 : Hid (W1.heap[G]? = some (.cells (bv z512).toArray 5 (0, 0)) ∧ Below wc.heap.size wc W1) := ⟨hN1, b1⟩
                        have hfx : ∃ ff : List UInt8, ff = f512 ∧ ff.length = 512 ∧ ∀ j, j < 512 → ff[j]? = some 255 := ⟨f512, rfl, f512_len, fun j hj => by unfold f512; rw [List.getElem?_replicate, if_pos hj]⟩
                        obtain ⟨ff, hff, hfl, hfa⟩ := hfx
                        have HFA : Hid (ff.length = 512 ∧ (∀ j, j < 512 → ff[j]? = some 255) ∧ ff = f512) := ⟨hfl, hfa, hff⟩
                        have hsz : (⟨x.toArray⟩ : ByteArray).size = 512 := by show x.toArray.size = 512; simp [HJ.out.2.2.2.2.2]
                        have hxl5 := HJ.out.2.2.2.2.2
                        clear HST f1 hi hz0 hz1 hz2 b1 hN1 hW1 hff hfl hfa HDEL L hG hlen
                        go_upto_region 19 with fail
                        go_wp2
                        go_loopw [14] (fun s14 wl => ∃ (i : Nat) (cs : Array Value), i ≤ 512 ∧ s14 = .int .i64 (i : Int) ∧ Hid (wl.heap[G]? = some (.cells cs 5 (0, 0)) ∧ cs.size = 512 ∧ (∀ j, j < i → cs[j]? = some (.int .u8 255)) ∧ Below wc.heap.size wc wl)) (fun i _ => 512 - (intOf i).toNat)
                        case atStart => exact ⟨0, _, by omega, rfl, HB1.out.1, by simp [bv_length, z512_len], fun j hj => by omega, HB1.out.2⟩
                        case round =>
                          obtain ⟨i, cs, hi, rfl, hI⟩ := hrel
                          obtain ⟨p1, p2, p3, p4⟩ := hI.out
                          by_cases hlt5 : i < 512
                          · have hlt5' : (i : Int) < 512 := by omega
                            obtain ⟨cv, c0⟩ : ∃ cv, wr.cell? ⟨G, i, none⟩ = some cv := ⟨cs[i]'(by omega), bl_cell p1 i _ (Array.getElem?_eq_getElem (by omega))⟩
                            have f0 := bl_open p1 i
                            have hw5 : IntKind.i64.wrap ((i : Int) + 1) = ((i + 1 : Nat) : Int) := by rw [IntKind.wrap_i64]; omega
                            clear p1 p2 p3 p4
                            go_wp2
                            go_roundw
                            case rel =>
                              obtain ⟨p1, p2, p3, p4⟩ := hI.out
                              refine ⟨i + 1, _, by omega, by first | rfl | (congr 1) | skip, bl_set p1 i _, by simpa using p2, fun j hj => ?_, ?_⟩
                              · rw [Array.getElem?_setIfInBounds]
                                by_cases e : i = j
                                · subst e; rw [if_pos rfl, if_pos (by omega)]
                                · rw [if_neg e]; exact p3 j (by omega)
                              · have hc := chg_set wr G i (.int .u8 255)
                                have hsz := p4.size
                                have hG := HG.out
                                exact ⟨hc.os.trans p4.os, hc.tape.trans p4.tape, hc.output.trans p4.output, Nat.le_trans p4.size hc.size, fun k hk => (hc.block k (by omega) (by omega)).trans (p4.block k hk)⟩
                            case measure =>
                              show 512 - ((i : Int) + 1).toNat < 512 - ((i : Int)).toNat
                              omega
                          · obtain rfl : i = 512 := by omega
                            have hnl : ¬ ((512 : Nat) : Int) < 512 := by omega
                            have ecs : cs = (bv ff).toArray := by
                              apply Array.ext_getElem?
                              intro j
                              by_cases hj : j < 512
                              · rw [p3 j hj]
                                have := HFA.out.2.1 j hj
                                simp [bv, this]
                              · rw [Array.getElem?_eq_none (by omega), Array.getElem?_eq_none (by simp [bv_length, HFA.out.1]; omega)]
                            subst ecs
                            have hR5 : Rd wr (some ⟨G, 0, none⟩) 512 512 ff := ⟨HFA.out.1, Nat.le_refl _, by decide, (fun e => by cases e), fun _ => ⟨G, 0, rfl, fun i hi => bl_cell p1 (0 + i) _ (by rw [Nat.zero_add]; simpa using bv_at ff i hi)⟩⟩
                            have q1 := fun W (hW : Rd W (some ⟨G, 0, none⟩) 512 512 ff) => run_string_of (P := Try.prog) 32 9 5 Try.underlying32 Try.underlying5 Try.underlying9 hW
                            have hq5 := HQ.out.later p4
                            obtain ⟨W6, hst, hM6, hC6⟩ := MS.store (W := wr.drew) (f := crashTo ks fs d.fresh d.old j) hq5.o (by have := HJ.out; omega) (k : Int) HJ.out.2.2.2.2.1 ff HFA.out.1
                            have hC6l : Chg (fun i => i = r'.mo) wr W6 := ⟨hC6.os, hC6.tape, hC6.output, hC6.size, hC6.block⟩
                            have d7 := hq5.c7
                            have d7' : W6.cell? ⟨r'.R, 7, none⟩ = some (.map (some r'.mo)) := hC6l.cell (fun e => hq5.o.ne hq5.b e.symm) d7
                            have HCV : Hid ((convert 32 9 (.slice (some ⟨G, 0, none⟩) 512 512)).run Try.prog wr.drew = .ok (.string ⟨ff.toArray⟩) wr.drew ∧ (convert 32 9 (.slice (some ⟨G, 0, none⟩) 512 512)).run Try.prog W6 = .ok (.string ⟨ff.toArray⟩) W6) :=
                              ⟨q1 wr.drew hR5, q1 W6 (hR5.chg hC6l (fun _ b off e (e2 : b = r'.mo) => by cases e; have := HQ.out.o.lt; have := HG.out; omega))⟩
                            have FIN : Hid (RkW W6 r' (no + (k + 1)) nf { d1 with old := crashTo ks fs d.fresh d.old (j + 1), fresh := cutN d.fresh k } ∧ Chg (fun i => i = r'.mo) wc W6) := by
                              have hC5' : Chg (fun i => i = r'.mo ∨ i = r'.mf) wr W6 := hC6l.mono (fun _ _ e => .inl e)
                              rw [HST2.out, ← HFA.out.2.2]
                              exact ⟨hq5.turnM (old := put (crashTo ks fs d.fresh d.old j) (k : Int) ff) (fresh := cutN d.fresh k) hC5' hM6 (hq5.f.later (hC6l.block _ hq5.f.lt (fun e => hq5.ne e.symm))), (chg_of_below (S := fun i => i = r'.mo) p4).trans hC6l (fun _ _ e => e) (fun _ _ e => e)⟩
                            clear p1 p2 p3 p4 q1 hq5 hM6 hC6 hC6l hR5 hI c7 c8
                            go_wp2
                            go_region_held2 (fun W => W.cell? ⟨r'.R, 7, none⟩ = some (.map (some r'.mo)) ∧ (convert 32 9 (.slice (some ⟨G, 0, none⟩) 512 512)).run Try.prog W = .ok (.string ⟨ff.toArray⟩) W) (first | exact ⟨d7, HCV.out.1⟩ | exact ⟨d7', HCV.out.2⟩) (fail)
                            all_goals
                              go_wp2
                              go_meet
                              exact FIN.out
                      · have HST := HSTEP.out
                        rw [if_neg f1, if_neg f2] at HST
                        have FIN : Hid (RkW wc r' (no + (k + 1)) nf { d1 with old := crashTo ks fs d.fresh d.old (j + 1), fresh := cutN d.fresh k } ∧ Chg (fun i => i = r'.mo) wc wc) := by
                          have hq := HQ.out
                          rw [HST]
                          exact ⟨⟨hq.b, hq.l, hq.a, hq.o.mono (by omega), hq.f, hq.ne⟩, Chg.refl _ _⟩
                        clear HST HDEL
                        go_wp2
                        go_meet
                        exact FIN.out
                    -- </fate>
                  case rest =>
                    obtain ⟨h5, hC5⟩ := hcut
                    obtain ⟨W6, hdl, h6, hC6⟩ := HDEL.out _ h5
                    have c8' := h5.c8
                    have hh := hH.out
                    have hC56 : Chg (fun i => i = r'.mo ∨ i = r'.mf) _ W6 := hC5.trans hC6 (fun _ _ e => .inl e) (fun _ _ e => e)
                    have FIN : Hid (k + 1 ≤ C ∧ j + 1 ≤ ks.length ∧ (∀ u (h : u < ks.length), u < j + 1 ↔ ks[u] < ((k + 1 : Nat) : Int)) ∧ RkW W6 r' (no + (k + 1)) nf { d1 with old := crashTo ks fs d.fresh d.old (j + 1), fresh := cutN d.fresh ((k + 1 : Nat) : Int) } ∧ Chg r.has w W6 ∧ Fs W6 fx' fm' (fs.drop (j + 1)) ∧ fm' ≤ fk' ∧ (0 < fm' → ∀ b off, fx' = some ⟨b, off, none⟩ → ¬ r'.has b ∧ b < w.heap.size)) := by
                      refine ⟨HJ.out.1, HJ.out.2.1, HJ.out.2.2.1, h6, hh.2.2.2.2.1.trans hC56 (fun _ _ e => e) (fun i _ e => ?_), hX.out.1.chg hC56 (fun hp b off e q => ?_), hX.out.2.1, hX.out.2.2⟩
                      · have hm : r'.mo = r.mo ∧ r'.mf = r.mf := by rw [HRR.out]; exact ⟨rfl, rfl⟩
                        exact e.elim (fun e => .inr (.inl (e.trans hm.1))) (fun e => .inr (.inr (.inl (e.trans hm.2))))
                      · exact (hX.out.2.2 hp b off e).1 (q.elim (fun e => .inr (.inl e)) (fun e => .inr (.inr (.inl e))))
                    clear h5 hC5 h6 hC6 hh hC56 c1 c7 c8 L hlen HDEL
                    go_wp2_with (at_delete; refine wpList_delete_run rfl _ _ _ _ rfl _ _ rfl rfl hdl ?_)
                    -- <end>
                    go_roundw
                    case rel => exact ⟨k + 1, j + 1, fx', fm', fk', rfl, rfl, FIN.out⟩
                    case measure => exact HME.out
                    -- </end>
                -- </some>
          · have hlt' : ¬ (k : Int) < (C : Int) := by omega
            have HR := HFIN.out wr (HEX.out (fun x hx => by
              unfold cutN
              split
              · rfl
              · cases hf : d.fresh x with
                | none => rfl
                | some y =>
                  have := (HM.out.2.2.1 x (by rw [hf]; rfl)).2
                  omega))
            have HRh : Hid _ := HR
            clear q hs0 hlt HR
            go_wp2
            go_end0
            obtain ⟨x1, x2, x3, x4, x5⟩ := HRh.out; exact ⟨⟨_, rfl⟩, x1, ⟨x2, x3⟩, x4, x5⟩
end Go.Proofs.Ytecgjfghofpjcaa
