/-
  The contracts of codec.takeSum and codec.Unrecord: what each call tells of any bytes.
-/
import Derived.Test.YtonjjbmjholkjaaGreatDoorTexts
import Derived.BigQuiet
namespace Go.Proofs.YtonjjbmjholkjaaGreatDoor
open Go.RowKit

theorem Rd.drewN {w : World} {ao : Option Addr} {n cap : Nat} {bs : List UInt8} (h : Rd w ao n cap bs) (q : Nat) : Rd (w.drewN q) ao n cap bs := by
  obtain ⟨h1, h2, h3, h4, h5⟩ := h
  refine ⟨h1, h2, h3, h4, fun hn => ?_⟩
  obtain ⟨b, off, hao, hc⟩ := h5 hn
  exact ⟨b, off, hao, fun i hi => by simpa using hc i hi⟩

theorem below_drewN {B : Nat} {a b : World} (h : Below B a b) (n : Nat) : Below B a (b.drewN n) := ⟨h.os, h.tape, h.output, h.size, h.block⟩

/-! ### a sum out of eight bytes -/
def joinStep (s : BitVec 64) (x : UInt8) : BitVec 64 := (s <<< 8) ||| BitVec.ofNat 64 x.toNat
def join (l : List UInt8) : BitVec 64 := l.foldl joinStep 0
theorem join_snoc (l : List UInt8) (x : UInt8) : join (l ++ [x]) = joinStep (join l) x := by simp [join]

theorem or_word (a b : BitVec 64) : bits .or .u64 (a.toNat : Int) (b.toNat : Int) = ((a ||| b).toNat : Int) := by
  rw [u64_or_nat _ _ a.isLt b.isLt, BitVec.toNat_or]
theorem join_fact (u : BitVec 64) (x : UInt8) : bits .or .u64 (IntKind.u64.wrap ((u.toNat : Int) * 256)) (IntKind.u64.wrap (x.toNat : Int)) = ((joinStep u x).toNat : Int) := by
  have := shl_word u 8
  rw [show ((2 ^ 8 : Nat) : Int) = 256 from rfl] at this
  rw [this, byte_word, or_word]
  rfl
theorem joinStep_nat (u : BitVec 64) (x : UInt8) (h : u.toNat < 72057594037927936) : (joinStep u x).toNat = u.toNat * 256 + x.toNat := by
  have hx : x.toNat < 256 := x.toNat_lt
  unfold joinStep
  rw [BitVec.toNat_or, BitVec.toNat_shiftLeft, BitVec.toNat_ofNat, Nat.shiftLeft_eq, Nat.mod_eq_of_lt (by omega), Nat.mod_eq_of_lt (by omega), nat_join 8 _ _ (by omega) (by omega)]

theorem join8 (a b c d e f g h : UInt8) : (join [a, b, c, d, e, f, g, h]).toNat = ((((((a.toNat * 256 + b.toNat) * 256 + c.toNat) * 256 + d.toNat) * 256 + e.toNat) * 256 + f.toNat) * 256 + g.toNat) * 256 + h.toNat := by
  have ha : a.toNat < 256 := a.toNat_lt
  have hb : b.toNat < 256 := b.toNat_lt
  have hc : c.toNat < 256 := c.toNat_lt
  have hd : d.toNat < 256 := d.toNat_lt
  have he : e.toNat < 256 := e.toNat_lt
  have hf : f.toNat < 256 := f.toNat_lt
  have hg : g.toNat < 256 := g.toNat_lt
  have e0 : (0 : BitVec 64).toNat = 0 := rfl
  show (joinStep (joinStep (joinStep (joinStep (joinStep (joinStep (joinStep (joinStep 0 a) b) c) d) e) f) g) h).toNat = _
  have h1 := joinStep_nat 0 a (by rw [e0]; decide)
  rw [e0] at h1
  generalize joinStep 0 a = s1 at *
  have h2 := joinStep_nat s1 b (by omega)
  generalize joinStep s1 b = s2 at *
  have h3 := joinStep_nat s2 c (by omega)
  generalize joinStep s2 c = s3 at *
  have h4 := joinStep_nat s3 d (by omega)
  generalize joinStep s3 d = s4 at *
  have h5 := joinStep_nat s4 e (by omega)
  generalize joinStep s4 e = s5 at *
  have h6 := joinStep_nat s5 f (by omega)
  generalize joinStep s5 f = s6 at *
  have h7 := joinStep_nat s6 g (by omega)
  generalize joinStep s6 g = s7 at *
  rw [joinStep_nat s7 h (by omega), h7, h6, h5, h4, h3, h2, h1]
  omega

theorem sumByte_nat (s : BitVec 64) (k : Nat) : (sumByte s k).toNat = s.toNat / 2 ^ (8 * k) % 256 := by
  unfold sumByte
  rw [UInt8.toNat_ofNat', BitVec.toNat_ushiftRight, Nat.shiftRight_eq_div_pow]

theorem join_eight (s : BitVec 64) : join (eight s) = s := by
  apply BitVec.eq_of_toNat_eq
  show (join [sumByte s 7, sumByte s 6, sumByte s 5, sumByte s 4, sumByte s 3, sumByte s 2, sumByte s 1, sumByte s 0]).toNat = _
  rw [join8]
  simp only [sumByte_nat]
  have := s.isLt
  omega

theorem eight_join (l : List UInt8) (h : l.length = 8) : eight (join l) = l := by
  match l, h with
  | [a, b, c, d, e, f, g, h], _ =>
    have hn := join8 a b c d e f g h
    have ha : a.toNat < 256 := a.toNat_lt
    have hb : b.toNat < 256 := b.toNat_lt
    have hc : c.toNat < 256 := c.toNat_lt
    have hd : d.toNat < 256 := d.toNat_lt
    have he : e.toNat < 256 := e.toNat_lt
    have hf : f.toNat < 256 := f.toNat_lt
    have hg : g.toNat < 256 := g.toNat_lt
    have hh : h.toNat < 256 := h.toNat_lt
    generalize join [a, b, c, d, e, f, g, h] = s at hn
    have t7 : sumByte s 7 = a := UInt8.toNat_inj.1 (by rw [sumByte_nat]; omega)
    have t6 : sumByte s 6 = b := UInt8.toNat_inj.1 (by rw [sumByte_nat]; omega)
    have t5 : sumByte s 5 = c := UInt8.toNat_inj.1 (by rw [sumByte_nat]; omega)
    have t4 : sumByte s 4 = d := UInt8.toNat_inj.1 (by rw [sumByte_nat]; omega)
    have t3 : sumByte s 3 = e := UInt8.toNat_inj.1 (by rw [sumByte_nat]; omega)
    have t2 : sumByte s 2 = f := UInt8.toNat_inj.1 (by rw [sumByte_nat]; omega)
    have t1 : sumByte s 1 = g := UInt8.toNat_inj.1 (by rw [sumByte_nat]; omega)
    have t0 : sumByte s 0 = h := UInt8.toNat_inj.1 (by rw [sumByte_nat]; omega)
    show [sumByte s 7, sumByte s 6, sumByte s 5, sumByte s 4, sumByte s 3, sumByte s 2, sumByte s 1, sumByte s 0] = _
    rw [t7, t6, t5, t4, t3, t2, t1, t0]

set_option maxHeartbeats 400000 in
theorem takeSum_any (b off n cap : Nat) (bs : List UInt8) (w : World) (h : Rd w (some ⟨b, off, none⟩) n cap bs) (h8 : 8 ≤ n) :
    Calls Tryz.prog 69 #[.slice (some ⟨b, off, none⟩) n cap] w fun e w' => e = .returned (.int .u64 ((join (bs.take 8)).toNat : Int)) ∧ w' = w := by
  obtain ⟨h1, h2, h3, h4, h5⟩ := h
  unfold maxLen at h3
  obtain ⟨b', off', hao, hc⟩ := h5 (by omega)
  cases hao
  have hcap : ¬ cap = 0 := by omega
  have h8c : (8 : Int) ≤ (cap : Int) := by omega
  clear h4 h5
  go_enter Tryz.func69, Tryz.ntmps69
  go_wp2
  go_loop [3, 9] (fun r i => ∃ (k : Nat) (u : BitVec 64), k ≤ 8 ∧ i = .int .i64 k ∧ r = .int .u64 (u.toNat : Int) ∧ Hid (u = join (bs.take k))) (fun _ i => 8 - (intOf i).toNat)
  case atStart => exact ⟨0, 0, Nat.zero_le _, rfl, rfl, rfl⟩
  case round =>
    obtain ⟨k, u, hk, rfl, rfl, hu⟩ := hrel
    by_cases hlt : k < 8
    · have hck := hc k (by omega)
      have hs : bs.take (k + 1) = bs.take k ++ [bs[k]] := by rw [List.take_succ_eq_append_getElem (by omega)]
      have hcr : Hid (join (bs.take (k + 1)) = joinStep u bs[k]) := by rw [hs, join_snoc, ← hu.out]; rfl
      clear hs hc hu
      generalize bs[k] = x at hck hcr
      have e1 := join_fact u x
      generalize joinStep u x = u' at hcr e1
      go_wp2
      go_round
      case rel => exact ⟨k + 1, u', by omega, by go_num, rfl, hcr.out.symm⟩
      case measure => simp [intOf]; omega
    · clear hc
      have hk8 : k = 8 := by omega
      have hu' := hu.out
      rw [hk8] at hu'
      have HU : Hid (u = join (bs.take 8)) := hu'
      clear hk8 hu hu'
      go_wp2
      go_ret
      exact ⟨ret_int (congrArg (fun z : BitVec 64 => (z.toNat : Int)) HU.out), rfl⟩

/-- What is in the record that bytes begin with, how many bytes it has, which error. -/
def takeR (bs : List UInt8) : List UInt8 × Nat × Nat :=
  if (takeL bs).2.2 ≠ 0 then ([], 0, (takeL bs).2.2)
  else if bs.length - (takeL bs).2.1 < (takeL bs).1 + 8 then ([], 0, 20)
  else if crc ((bs.drop (takeL bs).2.1).take (takeL bs).1) ≠ join ((bs.drop ((takeL bs).2.1 + (takeL bs).1)).take 8) then ([], 0, 22)
  else ((bs.drop (takeL bs).2.1).take (takeL bs).1, (takeL bs).2.1 + (takeL bs).1 + 8, 0)

theorem word_ne (a b : BitVec 64) (h : a ≠ b) : ((a.toNat : Int) != (b.toNat : Int)) = true := by
  rw [bne_iff_ne]
  intro e
  exact h (BitVec.eq_of_toNat_eq (by omega))

theorem Tab.drewN {w : World} (h : Tab w) (q : Nat) : Tab (w.drewN q) := fun k hk => by simpa using h k hk

theorem sum_same (ao : Option Addr) (n cap : Nat) (bs : List UInt8) (w : World) (hT : Tab w) (h : Rd w ao n cap bs) :
    Calls Tryz.prog 50 #[.slice ao n cap] w fun e w' => e = .returned (.int .u64 ((crc bs).toNat : Int)) ∧ w' = w :=
  (sum_any ao n cap bs w hT h).mono fun _ _ ⟨h1, h2⟩ => ⟨h1, h2.symm⟩

set_option maxRecDepth 20000 in
set_option maxHeartbeats 1000000 in
theorem unrecord_any (ao : Option Addr) (n cap : Nat) (bs : List UInt8) (w : World) (hT : Tab w) (h : Rd w ao n cap bs) :
    Calls Tryz.prog 39 #[.slice ao n cap] w fun e w' => ∃ v, e = .returned (.tuple #[v, .int .i64 ((takeR bs).2.1 : Int), .int .i64 ((takeR bs).2.2 : Int)]) ∧ Own w' w.heap.size v (takeR bs).1 ∧ Below w.heap.size w w' := by
  have hcall := takeLength_any ao n cap bs w h
  have hsz := takeL_size bs
  have hR : takeR bs = if (takeL bs).2.2 ≠ 0 then ([], 0, (takeL bs).2.2) else if bs.length - (takeL bs).2.1 < (takeL bs).1 + 8 then ([], 0, 20)
    else if crc ((bs.drop (takeL bs).2.1).take (takeL bs).1) ≠ join ((bs.drop ((takeL bs).2.1 + (takeL bs).1)).take 8) then ([], 0, 22)
    else ((bs.drop (takeL bs).2.1).take (takeL bs).1, (takeL bs).2.1 + (takeL bs).1 + 8, 0) := rfl
  generalize takeR bs = t at hR
  generalize (takeL bs).1 = m at hcall hR hsz
  generalize (takeL bs).2.1 = k at hcall hR hsz
  generalize (takeL bs).2.2 = er at hcall hR hsz
  have HC : Hid (Calls Tryz.prog 68 #[.slice ao n cap] w fun e w' => e = .returned (.tuple #[.int .i64 (m : Int), .int .i64 (k : Int), .int .i64 (er : Int)]) ∧ w = w') := hcall
  clear hcall
  have hn := h.2.2.1
  have hnc := h.2.1
  have hbl := h.1
  unfold maxLen at hn
  by_cases he : er = 0
  · subst he
    obtain ⟨hk0, hkn, hm1⟩ := hsz rfl
    clear hsz
    rw [if_neg (by simp)] at hR
    by_cases hlt : bs.length - k < m + 8
    · rw [if_pos hlt] at hR
      subst hR
      clear h
      have hlt' : (n : Int) - (k : Int) < (m : Int) + 8 := by omega
      go_enter Tryz.func39, Tryz.ntmps39
      go_wp2_with (go_at_call 68; refine HC.out.mono ?_; rintro e w' ⟨rfl, rfl⟩)
      go_ret3
      exact ⟨_, rfl, World.ownsRow_nil _ _ _ _, Below.refl _ _⟩
    · rw [if_neg hlt] at hR
      have hlt' : ¬ (n : Int) - (k : Int) < (m : Int) + 8 := by omega
      obtain ⟨b, off, rfl, _⟩ := h.2.2.2.2 (by omega)
      have hc1 : ¬ cap = k := by omega
      have hc2 : ¬ cap = k + m := by omega
      have q1 := h.cut k m (by omega)
      have q2 := h.cut (k + m) (n - (k + m)) (by omega)
      rw [List.take_of_length_le (by simp; omega)] at q2
      have Q2 : Hid (Rd w (some ⟨b, off + (k + m), none⟩) (n - (k + m)) (cap - (k + m)) (bs.drop (k + m))) := q2
      clear q2
      generalize hin : (bs.drop k).take m = inn at q1 hR
      have hs8 : Hid (8 ≤ n - (k + m)) := by show 8 ≤ n - (k + m); omega
      have hz : (0 : Int) ≤ (k : Int) + (m : Int) := by omega
      have hkm : k + m - k = m := by omega
      have hz2 : (k : Int) + (m : Int) ≤ (n : Int) := by omega
      have hHT : Hid (Tab w) := hT
      clear h hT
      by_cases hs : crc inn ≠ join ((bs.drop (k + m)).take 8)
      · rw [if_pos hs] at hR
        subst hR
        have hne := word_ne _ _ hs
        clear hs hin
        generalize hj : join ((bs.drop (k + m)).take 8) = sj at hne
        have HTS : Hid (∀ q, Calls Tryz.prog 69 #[.slice (some ⟨b, off + (k + m), none⟩) (n - (k + m)) (cap - (k + m))] (w.drewN q) fun e w' => e = .returned (.int .u64 (sj.toNat : Int)) ∧ w' = w.drewN q) := fun q => by
          rw [← hj]; exact takeSum_any b (off + (k + m)) _ _ (bs.drop (k + m)) _ (Q2.out.drewN q) hs8.out
        clear hj
        go_enter Tryz.func39, Tryz.ntmps39
        go_wp2_with (go_at_call 68; refine HC.out.mono ?_; rintro e w' ⟨rfl, rfl⟩)
        have hwr : IntKind.i64.wrap ((k : Int) + (m : Int)) = (k : Int) + (m : Int) := by rw [IntKind.wrap_i64]; omega
        have htn : ((k : Int) + (m : Int)).toNat = k + m := by omega
        go_quiet (first | (go_at_call 50; exact Calls.quiet_of_same (sum_same _ _ _ inn _ (hHT.out.drewN _) (q1.drewN _))) | (go_at_call 69; exact Calls.quiet_of_same (HTS.out _)))
        go_wp2
        go_ret3
        exact ⟨_, rfl, World.ownsRow_nil _ _ _ _, below_drewN (Below.refl _ _) nq⟩
      · rw [if_neg hs] at hR
        subst hR
        have hs' : join ((bs.drop (k + m)).take 8) = crc inn := by
          by_cases h : crc inn = join ((bs.drop (k + m)).take 8)
          · exact h.symm
          · exact absurd h hs
        have hil : inn.length = m := q1.1
        clear hs hin
        generalize hj : crc inn = sj at hs'
        have HTS : Hid (∀ q, Calls Tryz.prog 69 #[.slice (some ⟨b, off + (k + m), none⟩) (n - (k + m)) (cap - (k + m))] (w.drewN q) fun e w' => e = .returned (.int .u64 (sj.toNat : Int)) ∧ w' = w.drewN q) := fun q => by
          rw [← hs']; exact takeSum_any b (off + (k + m)) _ _ (bs.drop (k + m)) _ (Q2.out.drewN q) hs8.out
        have HSM : Hid (∀ q, Calls Tryz.prog 50 #[.slice (some ⟨b, off + k, none⟩) m (cap - k)] (w.drewN q) fun e w' => e = .returned (.int .u64 (sj.toNat : Int)) ∧ w' = w.drewN q) := fun q => by
          rw [← hj]; exact sum_same _ _ _ inn _ (hHT.out.drewN _) (q1.drewN _)
        obtain ⟨i0, hi, hz0, hz1, hz3⟩ := info_parts Tryz.info5
        clear hs' hj
        have HIL : Hid (inn.length = m) := hil
        clear hil
        go_enter Tryz.func39, Tryz.ntmps39
        go_wp2_with (go_at_call 68; refine HC.out.mono ?_; rintro e w' ⟨rfl, rfl⟩)
        have hwr : IntKind.i64.wrap ((k : Int) + (m : Int)) = (k : Int) + (m : Int) := by rw [IntKind.wrap_i64]; omega
        have htn : ((k : Int) + (m : Int)).toNat = k + m := by omega
        go_quiet (first | (go_at_call 50; exact Calls.quiet_of_same (HSM.out _)) | (go_at_call 69; exact Calls.quiet_of_same (HTS.out _)))
        simp only [hkm]
        go_wp2_with (at_builtin; refine wpList_append_from rfl _ _ 22 22 rfl w.heap.size 5 i0 (.int .u8 0) 1 1 Tryz.underlying22 hi hz0 hz1 hz3 rfl _ 0 [] rfl (World.ownsRow_nil _ _ _ _) _ m (bv inn) rfl (src_of_rd Tryz.underlying22 (q1.drewN nq)) (by unfold maxLen; omega) (by omega) (Nat.le_refl _) ?_)
        intro v1 w1 ho1 hgrow
        have B1 : Below w.heap.size w w1 := (below_drewN (Below.refl _ _) nq).grown hgrow (Nat.le_refl _) (fun k hk => by cases hk)
        have hO : Own w1 w.heap.size v1 inn := own_of ho1
        clear ho1 hgrow q1
        go_wp2
        go_ret3
        exact ⟨_, ret_three rfl (by rfl) rfl, hO, B1⟩
  · rw [if_pos he] at hR
    subst hR
    clear hsz h
    have he2 : ((er : Int) != 0) = true := by simp; omega
    clear he
    go_enter Tryz.func39, Tryz.ntmps39
    go_wp2_with (go_at_call 68; refine HC.out.mono ?_; rintro e w' ⟨rfl, rfl⟩)
    go_ret3
    exact ⟨_, rfl, World.ownsRow_nil _ _ _ _, Below.refl _ _⟩
end Go.Proofs.YtonjjbmjholkjaaGreatDoor
