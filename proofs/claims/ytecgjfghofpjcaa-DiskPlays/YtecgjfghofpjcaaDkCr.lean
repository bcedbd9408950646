/-
  The contract of the log's crash.
-/
import Derived.Test.YtecgjfghofpjcaaDkC
import Derived.Deep.Cut
import Derived.Deep.CutRange
namespace Go.Proofs.Ytecgjfghofpjcaa
open Go.RowKit

def flip (c : UInt8) : UInt8 := c ^^^ 85

theorem flip_eq (c : UInt8) : bits .xor .u8 (c.toNat : Int) 85 = ((flip c).toNat : Int) := by
  have h : ∀ n : Fin 256, bits .xor .u8 (n.val : Int) 85 = (((UInt8.ofNat n.val) ^^^ 85).toNat : Int) := by decide +kernel
  have := h ⟨c.toNat, c.toNat_lt⟩
  simpa [flip] using this

theorem wrap_wrap_add (a b : Int) : IntKind.i64.wrap (IntKind.i64.wrap a + b) = IntKind.i64.wrap (a + b) := by rw [IntKind.wrap_i64, IntKind.wrap_i64, IntKind.wrap_i64]; omega

theorem wrap_wrap_sub (a b : Int) : IntKind.i64.wrap (IntKind.i64.wrap a - b) = IntKind.i64.wrap (a - b) := by rw [IntKind.wrap_i64, IntKind.wrap_i64, IntKind.wrap_i64]; omega

theorem wrap_cut (b s t : Int) (h0 : 0 ≤ s + t) (h1 : s + t ≤ 9223372036854775807) : IntKind.i64.wrap (IntKind.i64.wrap (IntKind.i64.wrap (b + s) + t) - b) = s + t := by
  rw [wrap_wrap_add, wrap_wrap_sub, show b + s + t - b = s + t by omega, IntKind.wrap_i64]; omega

/-- How many bytes that are not sure a crash leaves. -/
def Lo.stay (l : Lo) (keep : Int) : Nat := min (max keep 0).toNat (l.bytes.length - l.sure)

def Lo.left (l : Lo) (keep : Int) (torn : Bool) : List UInt8 :=
  let bs := l.bytes.take (l.sure + l.stay keep)
  if torn = true ∧ 0 < l.stay keep then bs.modify (bs.length - 1) flip else bs

def Lo.crash (l : Lo) (keep : Int) (torn : Bool) : Lo := { l with bytes := l.left keep torn, sure := (l.left keep torn).length }

theorem Ob.set_at {w : World} {b o m cap : Nat} {g : Option Nat} {bs : List UInt8} (h : Ob w (.slice (some ⟨b, o, none⟩) m cap) g bs) (k : Nat) (hk : k < bs.length) (c : UInt8) : Ob (w.setCell ⟨b, o + k, none⟩ (.int .u8 (c.toNat : Int))) (.slice (some ⟨b, o, none⟩) m cap) g (bs.set k c) := by
  rcases h with ⟨e, _⟩ | ⟨b', o2, cap', cur, e, h2, h3, h4, h5, h6, h7⟩
  · cases e
  · cases e
    refine .inr ⟨b, o, cap, _, by simp, h2, bl_set h3 _ _, by simpa using h4, h5, by simpa using h6, fun i hi => ?_⟩
    rw [List.length_set] at hi
    rw [Array.getElem?_setIfInBounds]
    have h8 := h7 i hi
    have h9 : o + k < cur.size := by omega
    by_cases e : i = k
    · subst e
      rw [if_pos rfl, if_pos h9]
      simp
    · rw [if_neg (by omega), h8, List.getElem_set_ne (by omega)]

set_option maxRecDepth 20000 in
set_option maxHeartbeats 1000000 in
theorem lcrash_any (L : Nat) (g : Option Nat) (l : Lo) (keep : Int) (torn : Bool) (w : World) (h : Lg w L g l) :
    Calls Try.prog 40 #[.pointer (some ⟨L, 0, none⟩), .int .i64 keep, .bool torn] w fun e w' => (∃ v, e = .returned v) ∧ Lg w' L g (l.crash keep torn) ∧ Chg (fun k => k = L ∨ some k = g) w w' := by
  obtain ⟨ok, sv, hL, ho⟩ := id h
  have hl := ok.len'
  have hsu := ok.sure
  have c3 : w.cell? ⟨L, 3, none⟩ = some (.int .i64 (l.sure : Int)) := bl_cell hL 3 _ rfl
  have c1 : w.cell? ⟨L, 1, none⟩ = some (.int .i64 l.base) := bl_cell hL 1 _ rfl
  obtain ⟨a0, q0, rfl, -, -, -⟩ := ho.form
  have c2 : w.cell? ⟨L, 2, none⟩ = some (.slice a0 l.bytes.length q0) := bl_cell hL 2 _ rfl
  have hLt := bl_lt hL
  have hw : IntKind.i64.wrap ((l.bytes.length : Int) - l.sure) = (l.bytes.length : Int) - l.sure := by rw [IntKind.wrap_i64]; omega
  have hw' : wrap64 ((l.bytes.length : Int) - l.sure) = (l.bytes.length : Int) - l.sure := by unfold wrap64; omega
  obtain ⟨st, hst⟩ : ∃ st, st = l.stay keep := ⟨_, rfl⟩
  have hst1 : Hid (∀ x : Int, x = min (max keep 0) ((l.bytes.length : Int) - l.sure) → x = st) := fun x hx => by
    rw [hx, hst]; unfold Lo.stay; omega
  have hst2 : st ≤ l.bytes.length - l.sure := by rw [hst]; unfold Lo.stay; omega
  have HST : Hid (st = l.stay keep) := hst
  have HL2 : Hid (Lg w L g l) := h
  have HSU : Hid (l.sure ≤ l.bytes.length ∧ l.bytes.length ≤ 16777216 ∧ st ≤ l.bytes.length - l.sure) := ⟨hsu, hl, hst2⟩
  clear hst h hL ho hsu hl ok hst2
  go_enter Try.func40, Try.ntmps40
  go_upto_region 0 with fail
  go_cut [6] from 7 (fun s6 wx => s6 = .int .i64 (st : Int) ∧ Below w.heap.size w wx)
  case first =>
    have d2 : ∀ q, (w.drewN q).cell? ⟨L, 2, none⟩ = _ := fun q => c2
    have d3 : ∀ q, (w.drewN q).cell? ⟨L, 3, none⟩ = _ := fun q => c3
    clear c1 c2 c3
    go_wp2
    go_quiet (fail)
    go_wp2
    all_goals
      go_meet
      refine ⟨?_, below_drewN (Below.refl _ _) _⟩
      have H1 := hst1.out
      have H2 := HSU.out
      have H3 : (if keep < 0 then (0 : Int) else keep) = max keep 0 := by split <;> omega
      simp only [H3] at *
      exact congrArg (Value.int .i64) (H1 _ (by omega))
  case rest =>
    obtain ⟨hs6, b1⟩ := hcut
    subst hs6
    have hHL := HL2.out
    have HC : Hid (Lg wc L g l) := hHL.kept (b1.block L hLt) (fun b hb => b1.block b (by obtain ⟨_, sv, _, ho⟩ := hHL; exact ho.lt hb))
    have e1 : wc.cell? ⟨L, 1, none⟩ = some (.int .i64 l.base) := (b1.cell (p := ⟨L, 1, none⟩) hLt).trans c1
    have e3 : wc.cell? ⟨L, 3, none⟩ = some (.int .i64 (l.sure : Int)) := (b1.cell (p := ⟨L, 3, none⟩) hLt).trans c3
    have hwn : IntKind.i64.wrap (IntKind.i64.wrap (IntKind.i64.wrap (l.base + l.sure) + st) - l.base) = ((l.sure + st : Nat) : Int) := by
      have := HSU.out
      rw [wrap_cut _ _ _ (by omega) (by omega)]
      omega
    have hwn' : IntKind.i64.wrap (wrap64 (wrap64 (l.base + l.sure) + st) - l.base) = ((l.sure + st : Nat) : Int) := by rw [wrap64_eq, wrap64_eq]; exact hwn
    have CC : ∀ W at_, Lg W L g l → IntKind.i64.wrap (at_ - l.base) = ((l.sure + st : Nat) : Int) → Calls Try.prog 48 #[.pointer (some ⟨L, 0, none⟩), .int .i64 at_] W fun e w' => (∃ v, e = .returned v) ∧ Lg w' L g { l with bytes := l.bytes.take (l.sure + st), sure := l.sure } ∧ Chg (fun k => k = L) W w' := fun W at_ hW hat => by
      have := HSU.out
      have h := cut_any L g l at_ (l.sure + st) W hW (by omega) hat
      rw [show min l.sure (l.sure + st) = l.sure by omega] at h
      exact h
    have HCC : Hid (∀ W at_, Lg W L g l → IntKind.i64.wrap (at_ - l.base) = ((l.sure + st : Nat) : Int) → Calls Try.prog 48 #[.pointer (some ⟨L, 0, none⟩), .int .i64 at_] W fun e w' => (∃ v, e = .returned v) ∧ Lg w' L g { l with bytes := l.bytes.take (l.sure + st), sure := l.sure } ∧ Chg (fun k => k = L) W w') := CC
    have HWN : Hid (IntKind.i64.wrap (IntKind.i64.wrap (IntKind.i64.wrap (l.base + l.sure) + st) - l.base) = ((l.sure + st : Nat) : Int)) := hwn
    clear CC hwn hwn' hw hw' c1 c2 c3 hst1 hHL
    go_upto_region 1 with fail
    go_cut [20] from 20 (fun _ wx => Lg wx L g { l with bytes := l.bytes.take (l.sure + st), sure := l.sure } ∧ Chg (fun k => k = L) wc wx)
    case first =>
      have CC1 := HCC.out wc.drew (IntKind.i64.wrap (IntKind.i64.wrap (l.base + l.sure) + st)) (show Lg wc.drew L g l from HC.out) HWN.out
      have e1' : wc.drew.cell? ⟨L, 1, none⟩ = some (.int .i64 l.base) := e1
      have e3' : wc.drew.cell? ⟨L, 3, none⟩ = some (.int .i64 (l.sure : Int)) := e3
      go_region_with (go_at_call 48; refine CC1.mono ?_; rintro e w5 ⟨⟨v5, rfl⟩, h5, hc5⟩)
      all_goals
        go_wp2
        go_meet
        exact ⟨h5, ⟨hc5.os, hc5.tape, hc5.output, hc5.size, hc5.block⟩⟩
    case rest =>
      obtain ⟨hL5, hC5⟩ := hcut
      have HL5 : Hid (Lg wc L g { l with bytes := l.bytes.take (l.sure + st), sure := l.sure }) := hL5
      have HC5 : Hid (Chg (fun k => k = L ∨ some k = g) w wc) := (chg_of_below b1).trans hC5 (fun _ _ e => e) (fun _ _ e => .inl e)
      have SY := fun W l' (h : Lg W L g l') => lsync_any L g l' W h
      clear HCC HWN e1 e3 b1 HC hC5
      by_cases ht : torn = true ∧ 0 < st
      · obtain ⟨rfl, hs0⟩ := ht
        obtain ⟨-, sv, hh, ho⟩ := hL5
        dsimp only at hh ho
        obtain ⟨n, hn⟩ : ∃ n, l.sure + st = n + 1 := ⟨l.sure + st - 1, by omega⟩
        have hlen : (l.bytes.take (l.sure + st)).length = n + 1 := by have := HSU.out; simp; omega
        rcases id ho with ⟨-, e0, -⟩ | ⟨b, o, cap, cur, rfl, hg, h3, h4, h5, h6, h7⟩
        · rw [e0] at hlen; simp at hlen
        have HO : Hid (Ob wc (.slice (some ⟨b, o, none⟩) (l.bytes.take (l.sure + st)).length cap) g (l.bytes.take (l.sure + st))) := ho
        obtain ⟨c, hc⟩ : ∃ c, c = (l.bytes.take (l.sure + st))[n] := ⟨_, rfl⟩
        have k0 : wc.cell? ⟨b, o + n, none⟩ = some (.int .u8 (c.toNat : Int)) := by rw [hc]; exact bl_cell h3 _ _ (h7 n (by omega))
        have k2 : wc.cell? ⟨L, 2, none⟩ = some (.slice (some ⟨b, o, none⟩) (n + 1) cap) := by rw [← hlen]; exact bl_cell hh 2 _ rfl
        have hfr := bl_open h3 (o + n)
        have hfl := flip_eq c
        have hlt : n < n + 1 := by omega
        have hwn : IntKind.i64.wrap (((n + 1 : Nat) : Int) - 1) = (n : Int) := by have := HSU.out; rw [IntKind.wrap_i64]; omega
        have hs0' : (0 : Int) < (st : Int) := by omega
        have FIN : ∀ W, W.heap[L]? = wc.heap[L]? → Ob W (.slice (some ⟨b, o, none⟩) (l.bytes.take (l.sure + st)).length cap) g ((l.bytes.take (l.sure + st)).set n (flip c)) → Lg W L g { l with bytes := (l.bytes.take (l.sure + st)).set n (flip c), sure := l.sure } := fun W e1 e2 => by
          obtain ⟨ok5, sv5, q5, -⟩ := HL5.out
          rw [hh] at q5
          cases q5
          exact ⟨⟨ok5.m1, ok5.m2, ok5.b1, ok5.b2, by have := ok5.len; simpa using this, by have := ok5.sure; simpa using this⟩, _, e1.trans hh, e2⟩
        have HF : Hid (∀ W, W.heap[L]? = wc.heap[L]? → Ob W (.slice (some ⟨b, o, none⟩) (l.bytes.take (l.sure + st)).length cap) g ((l.bytes.take (l.sure + st)).set n (flip c)) → Lg W L g { l with bytes := (l.bytes.take (l.sure + st)).set n (flip c), sure := l.sure }) := FIN
        have HLB : Hid (b ≠ L) := fun e => ob_ne hh ho (by decide) (by rw [hg, e])
        have HG : Hid (g = some b) := hg
        have HE : Hid (l.crash keep true = { l with bytes := (l.bytes.take (l.sure + st)).set n (flip c), sure := (l.bytes.take (l.sure + st)).length }) := by
          unfold Hid Lo.crash Lo.left
          rw [← HST.out, if_pos ⟨rfl, hs0⟩]
          have e : (l.bytes.take (l.sure + st)).modify ((l.bytes.take (l.sure + st)).length - 1) flip = (l.bytes.take (l.sure + st)).set n (flip c) := by
            rw [hlen, Nat.add_sub_cancel, List.modify_eq_set, hc, List.getElem?_eq_getElem (by omega)]
            rfl
          rw [e, List.length_set]
        have HLEN : Hid ((l.bytes.take (l.sure + st)).length = n + 1) := hlen
        clear FIN hn hlen hh ho h3 h4 h5 h6 h7 hc hs0 hg
        generalize l.bytes.take (l.sure + st) = bs at *
        go_upto_region 3 with fail
        have k0' : wc.drew.cell? ⟨b, o + n, none⟩ = some (.int .u8 (c.toNat : Int)) := k0
        have k2' : wc.drew.cell? ⟨L, 2, none⟩ = some (.slice (some ⟨b, o, none⟩) (n + 1) cap) := k2
        have hfr' : wc.drew.frozen? ⟨b, o + n, none⟩ = false := hfr
        have BIG : Hid (Lg (wc.drew.setCell ⟨b, o + n, none⟩ (.int .u8 ((flip c).toNat : Int))) L g { l with bytes := bs.set n (flip c), sure := l.sure } ∧ Chg (fun k => k = L ∨ some k = g) w (wc.drew.setCell ⟨b, o + n, none⟩ (.int .u8 ((flip c).toNat : Int)))) := by
          refine ⟨HF.out _ (Below.heap_setCell _ _ _ L (fun e => HLB.out e.symm)) (Ob.set_at (w := wc.drew) HO.out n (by rw [HLEN.out]; omega) (flip c)), ?_⟩
          have HCd : Chg (fun k => k = L ∨ some k = g) w wc.drew := ⟨HC5.out.os, HC5.out.tape, HC5.out.output, HC5.out.size, HC5.out.block⟩
          exact HCd.trans (S' := fun k => k = b) (chg_set _ _ _ _) (fun _ _ e => e) (fun k _ e => .inr (by rw [e, HG.out]))
        obtain ⟨m, hm⟩ : ∃ m, m = n + 1 := ⟨_, rfl⟩
        have hnm : n < m := by omega
        rw [← hm] at k2' hwn
        have hwn2 : wrap64 ((m : Int) - 1) = (n : Int) := by rw [wrap64_eq]; exact hwn
        have HM : Hid (m = n + 1) := hm
        clear hm hlt
        clear k0 k2 hfr HF HO HC5 HL5 SY HL2 HSU
        go_region_with (fail)
        all_goals
          have SY1 := lsync_any L g _ ((wc.setCell ⟨b, o + n, none⟩ (.int .u8 ((flip c).toNat : Int))).drew) BIG.out.1
          go_wp2_with (go_at_call 46; refine SY1.mono ?_; rintro e w6 ⟨⟨v6, rfl⟩, h6, hc6⟩)
          go_end0
          have hE := HE.out
          rw [← List.length_set (i := n) (a := flip c)] at hE
          exact ⟨⟨_, rfl⟩, by rw [hE]; exact h6, BIG.out.2.trans hc6 (fun _ _ e => e) (fun _ _ e => .inl e)⟩
      · have HE : Hid (l.crash keep torn = { l with bytes := l.bytes.take (l.sure + st), sure := (l.bytes.take (l.sure + st)).length }) := by
          unfold Hid Lo.crash Lo.left
          rw [← HST.out, if_neg ht]
        have SY1 := lsync_any L g _ wc HL5.out
        clear hL5 SY HL2
        have FINI : ∀ W v, Lg W L g { l with bytes := l.bytes.take (l.sure + st), sure := (l.bytes.take (l.sure + st)).length } → Chg (fun k => k = L) wc W → (∃ v', Ending.returned v = .returned v') ∧ Lg W L g (l.crash keep torn) ∧ Chg (fun k => k = L ∨ some k = g) w W := fun W v h6 hc6 =>
          ⟨⟨_, rfl⟩, by rw [HE.out]; exact h6, HC5.out.trans hc6 (fun _ _ e => e) (fun _ _ e => .inl e)⟩
        have HFI : Hid (∀ W v, Lg W L g { l with bytes := l.bytes.take (l.sure + st), sure := (l.bytes.take (l.sure + st)).length } → Chg (fun k => k = L) wc W → (∃ v', Ending.returned v = .returned v') ∧ Lg W L g (l.crash keep torn) ∧ Chg (fun k => k = L ∨ some k = g) w W) := FINI
        clear FINI HSU
        cases torn with
        | false =>
          go_wp2_with (go_at_call 46; refine SY1.mono ?_; rintro e w6 ⟨⟨v6, rfl⟩, h6, hc6⟩)
          go_end0
          exact HFI.out _ _ h6 hc6
        | true =>
          have hs : st = 0 := Nat.eq_zero_of_not_pos (fun h => ht ⟨rfl, h⟩)
          have hs' : ¬ (0 : Int) < (st : Int) := by omega
          clear ht
          have Hs : Hid (st = 0) := hs
          clear hs
          go_wp2_with (go_at_call 46; refine SY1.mono ?_; rintro e w6 ⟨⟨v6, rfl⟩, h6, hc6⟩)
          go_end0
          exact HFI.out _ _ h6 hc6
end Go.Proofs.Ytecgjfghofpjcaa
