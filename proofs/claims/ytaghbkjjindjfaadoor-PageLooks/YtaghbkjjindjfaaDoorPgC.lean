/-
  The contracts of page's smallest functions: cut, takeNumber, putNumber, putSum, holding, bytes.Equal, and what a page's bytes in a block of their own are.
-/
import Derived.Test.YtaghbkjjindjfaaDoorPgM
import Derived.WalkKit
import Derived.WalkSpells
import Derived.WalkLawsBesides
import Derived.BigQuiet
import Derived.Deep.QuietTactic
import Derived.Maps.AppendAt
namespace Go.Proofs.YtaghbkjjindjfaaDoor
open Go.RowKit

/-- The bytes xs lie in the block g of their own. -/
def Pb (w : World) (g : Nat) (xs : List UInt8) : Prop := w.heap[g]? = some (.cells (bv xs).toArray 5 (0, 0))
theorem Pb.lt {w : World} {g : Nat} {xs : List UInt8} (h : Pb w g xs) : g < w.heap.size := (Array.getElem?_eq_some_iff.1 h).1
theorem Pb.cell {w : World} {g : Nat} {xs : List UInt8} (h : Pb w g xs) (i : Nat) (hi : i < xs.length) : w.cell? ⟨g, i, none⟩ = some (.int .u8 (xs[i].toNat : Int)) := by
  rw [cell_of_row w g i _ 5 (0, 0) h]
  simpa using bv_at xs i hi
theorem Pb.frozen {w : World} {g : Nat} {xs : List UInt8} (h : Pb w g xs) (i : Nat) : w.frozen? ⟨g, i, none⟩ = false := by
  simp [World.frozen?, show w.heap[g]? = _ from h]
theorem Pb.set {w : World} {g : Nat} {xs : List UInt8} (h : Pb w g xs) (i : Nat) (c : UInt8) : Pb (w.setCell ⟨g, i, none⟩ (.int .u8 (c.toNat : Int))) g (xs.set i c) := by
  obtain ⟨hlt, hk⟩ := Array.getElem?_eq_some_iff.1 h
  show (w.heap.modify g _)[g]? = _
  rw [Array.getElem?_eq_getElem (by rw [Array.size_modify]; exact hlt), Array.getElem_modify_self, hk]
  simp [bv, List.map_set]
theorem Pb.later {w w' : World} {g : Nat} {xs : List UInt8} (h : Pb w g xs) {B : Nat} (hb : Below B w w') (hB : g < B) : Pb w' g xs := by
  unfold Pb; rw [hb.block g hB]; exact h
theorem Pb.rd {w : World} {g : Nat} {xs : List UInt8} (h : Pb w g xs) (o n cap : Nat) (hn : o + n ≤ xs.length) (hc : n ≤ cap) (hm : cap ≤ maxLen) : Rd w (some ⟨g, o, none⟩) n cap ((xs.drop o).take n) := by
  refine ⟨by simp; omega, hc, hm, (fun e => by cases e), fun _ => ⟨g, o, rfl, fun i hi => ?_⟩⟩
  simp at hi
  rw [h.cell (o + i) (by omega)]
  simp
theorem Pb.own {w : World} {g base : Nat} {xs : List UInt8} (h : Pb w g xs) (hb : base ≤ g) (hl : xs.length ≤ maxLen) : Own w base (.slice (some ⟨g, 0, none⟩) xs.length xs.length) xs := by
  refine ⟨by simp [bv], .inr ⟨g, xs.length, _, rfl, hb, h, Nat.le_refl _, hl, by simp [bv], by rw [← bv_length xs, Nat.mul_one]; simp⟩⟩
theorem grownBy_set (W : World) (b i : Nat) (v : Value) : W.grownBy (W.setCell ⟨b, i, none⟩ v) (some b) :=
  ⟨rfl, rfl, rfl, by simp [World.setCell], fun k _ hk => Below.heap_setCell _ _ _ k (fun e => hk (by rw [e]))⟩
theorem grownBy_refl (W : World) (r : Option Nat) : W.grownBy W r := ⟨rfl, rfl, rfl, Nat.le_refl _, fun _ _ _ => rfl⟩
theorem below_of_grown {w w' : World} {g : Nat} (h : w.grownBy w' (some g)) (hg : g ≤ w.heap.size) {B : Nat} {w0 : World} (hb : Below B w0 w) (hB : B ≤ g) : Below B w0 w' :=
  hb.grown h (by omega) (fun k e => by cases e; exact hB)
theorem splice_two (xs : List UInt8) (o : Nat) (a b : UInt8) (h : o + 2 ≤ xs.length) : (xs.set o a).set (o + 1) b = splice xs o [a, b] := by
  apply List.ext_getElem
  · simp [splice]; omega
  · intro i h1 h2
    simp only [splice, List.getElem_set, List.getElem_append, List.length_take, List.getElem_take]
    by_cases e : i < o
    · have : min o xs.length = o := by omega
      simp [this, e, show o + 1 ≠ i by omega, show o ≠ i by omega]
    · have hm : min o xs.length = o := by omega
      rw [dif_neg (by omega)]
      by_cases e0 : i = o
      · subst e0; simp [hm]
      · by_cases e1 : i = o + 1
        · subst e1; simp [hm]
        · obtain ⟨j, rfl⟩ : ∃ j, i = o + 2 + j := ⟨i - o - 2, by omega⟩
          rw [if_neg (by omega), if_neg (by omega)]
          rw [dif_neg (by simp; omega)]
          simp [hm, show o + 2 + j - o - 2 = j by omega]

set_option maxHeartbeats 400000 in
theorem cut_any (b off n cap fr sz : Nat) (w : World) (_hn : n ≤ cap) (hc : cap ≤ maxLen) (hf : fr + sz ≤ cap) :
    Calls Tryd.prog 39 #[.slice (some ⟨b, off, none⟩) n cap, .int .i64 (fr : Int), .int .i64 (sz : Int)] w fun e w' => e = .returned (.slice (some ⟨b, if sz = 0 then off else off + fr, none⟩) sz sz) ∧ w = w' := by
  unfold maxLen at hc
  have h1 : IntKind.i64.wrap ((fr : Int) + (sz : Int)) = ((fr + sz : Nat) : Int) := by rw [IntKind.wrap_i64]; omega
  have h2 : (0 : Int) ≤ (fr : Int) := by omega
  have h3 : (fr : Int) ≤ ((fr + sz : Nat) : Int) := by omega
  have h4 : ((fr + sz : Nat) : Int) ≤ (cap : Int) := by omega
  go_enter Tryd.func39, Tryd.ntmps39
  go_wp2
  all_goals go_ret
  · obtain rfl : sz = 0 := by omega
    exact ⟨rfl, rfl⟩
  · try rw [if_neg (by assumption)]
    exact ⟨rfl, rfl⟩

theorem or_two (x y : UInt8) : bits .or .i64 ((x.toNat : Int) * 256) (y.toNat : Int) = ((256 * x.toNat + y.toNat : Nat) : Int) := by
  have hx := x.toNat_lt
  have hy := y.toNat_lt
  have e : (x.toNat : Int) * 256 = ((x.toNat * 256 : Nat) : Int) := by omega
  rw [e]
  show IntKind.i64.wrap ((BitVec.ofInt 64 ((x.toNat * 256 : Nat) : Int) ||| BitVec.ofInt 64 (y.toNat : Int)).toNat : Int) = _
  rw [BitVec.toNat_or, ofInt_u64 _ (by omega), ofInt_u64 _ (by omega), nat_join 8 _ _ (by omega) (by omega), IntKind.wrap_i64]
  omega

set_option maxHeartbeats 400000 in
theorem takeNumber_any (b o : Nat) (x y : UInt8) (w : World) (h0 : w.cell? ⟨b, o, none⟩ = some (.int .u8 (x.toNat : Int))) (h1 : w.cell? ⟨b, o + 1, none⟩ = some (.int .u8 (y.toNat : Int))) :
    Calls Tryd.prog 38 #[.slice (some ⟨b, o, none⟩) 2 2] w fun e w' => e = .returned (.int .i64 ((256 * x.toNat + y.toNat : Nat) : Int)) ∧ Below w.heap.size w w' := by
  have g0 : ∀ q, (w.drewN q).cell? ⟨b, o, none⟩ = some (.int .u8 (x.toNat : Int)) := fun q => h0
  have g1 : ∀ q, (w.drewN q).cell? ⟨b, o + 1, none⟩ = some (.int .u8 (y.toNat : Int)) := fun q => h1
  have hb := or_two x y
  have hx := x.toNat_lt
  have hy := y.toNat_lt
  have hw2 : wrap64 (y.toNat : Int) = (y.toNat : Int) := by unfold wrap64; omega
  have hw : IntKind.i64.wrap ((x.toNat : Int) * 256) = (x.toNat : Int) * 256 := by rw [IntKind.wrap_i64]; omega
  clear h0 h1
  go_enter Tryd.func38, Tryd.ntmps38
  go_wp2
  go_quiet (fail)
  go_wp2
  go_ret
  exact ⟨ret_int (by omega), below_drewN (Below.refl _ _) _⟩

theorem content_size : (Tryd.prog.info? 49).map (·.size) = some 2 := by kernel_rfl
set_option maxHeartbeats 400000 in
theorem holding_any (ao : Option Addr) (n cap : Nat) (w : World) :
    Calls Tryd.prog 34 #[.slice ao n cap] w fun e w' => e = .returned (.agg #[.bool true, .slice ao n cap]) ∧ Below w.heap.size w w' := by
  go_enter Tryd.func34, Tryd.ntmps34
  go_wp2
  refine bodyPost_ret (results_cell_row rfl _ _ w.heap.size 49 _ (0, 0) _ rfl (heap_alloc_new w _) Tryd.underlying49 rfl content_size) rfl ?_
  exact ⟨rfl, (Below.refl _ _).alloc (Nat.le_refl _) _⟩

theorem byte_hi (m : Nat) (_h : m < 65536) : (m : Int) / 256 = ((UInt8.ofNat (m / 256)).toNat : Int) := by
  rw [UInt8.toNat_ofNat']; omega
theorem byte_lo (m : Nat) : (m : Int) % 256 = ((UInt8.ofNat (m % 256)).toNat : Int) := by
  rw [UInt8.toNat_ofNat']; omega

set_option maxHeartbeats 400000 in
theorem putNumber_any (g o m : Nat) (xs : List UInt8) (w : World) (h : Pb w g xs) (ho : o + 2 ≤ xs.length) (hm : m < 65536) :
    Calls Tryd.prog 41 #[.slice (some ⟨g, o, none⟩) 2 2, .int .i64 (m : Int)] w fun e w' => (∃ v, e = .returned v) ∧ Pb w' g (splice xs o (two m)) ∧ w.grownBy w' (some g) := by
  have c0 := h.cell o (by omega)
  have c1 := h.cell (o + 1) (by omega)
  have f0 := h.frozen o
  have f1 := h.frozen (o + 1)
  go_enter Tryd.func41, Tryd.ntmps41
  go_wp2
  go_end0
  refine ⟨⟨_, rfl⟩, ?_, (grownBy_set w g o _).trans (grownBy_set _ g (o + 1) _)⟩
  rw [byte_hi m hm, byte_lo m]
  have := (h.set o (UInt8.ofNat (m / 256))).set (o + 1) (UInt8.ofNat (m % 256))
  rw [splice_two xs o _ _ ho] at this
  exact this

set_option maxHeartbeats 400000 in
theorem equal_any (ao ap : Option Addr) (n cap m cap' : Nat) (xs ys : List UInt8) (w : World) (h : Rd w ao n cap xs) (h' : Rd w ap m cap' ys) :
    Calls Tryd.prog 40 #[.slice ao n cap, .slice ap m cap'] w fun e w' => e = .returned (.bool (xs == ys)) ∧ w = w' := by
  have q1 := run_string_of (P := Tryd.prog) 22 9 5 Tryd.underlying22 Tryd.underlying5 Tryd.underlying9 h
  have q2 := run_string_of (P := Tryd.prog) 22 9 5 Tryd.underlying22 Tryd.underlying5 Tryd.underlying9 h'
  clear h h'
  go_enter Tryd.func40, Tryd.ntmps40
  go_wp2
  go_ret
  exact ⟨rfl, rfl⟩

def sumAtK (s : BitVec 64) (k : Nat) : UInt8 := sumByte s (7 - k)
theorem splice_set (xs ys : List UInt8) (o k : Nat) (c : UInt8) (h : o + k < xs.length) (hk : ys.length = k) : (splice xs o ys).set (o + k) c = splice xs o (ys ++ [c]) := by
  subst hk
  unfold splice
  have e : xs.drop (o + ys.length) = xs[o + ys.length] :: xs.drop (o + ys.length + 1) := (List.drop_eq_getElem_cons h)
  rw [e]
  have e2 : xs.take o ++ (ys ++ xs[o + ys.length] :: xs.drop (o + ys.length + 1)) = (xs.take o ++ ys) ++ xs[o + ys.length] :: xs.drop (o + ys.length + 1) := by simp
  rw [e2, List.set_append_right _ _ (by simp; omega)]
  simp [show min o xs.length = o by omega, Nat.add_assoc]

set_option maxHeartbeats 1000000 in
theorem putSum_any (g o : Nat) (s : BitVec 64) (xs : List UInt8) (w : World) (h : Pb w g xs) (ho : o + 8 ≤ xs.length) :
    Calls Tryd.prog 42 #[.slice (some ⟨g, o, none⟩) 8 8, .int .u64 (s.toNat : Int)] w fun e w' => (∃ v, e = .returned v) ∧ Pb w' g (splice xs o (eight s)) ∧ w.grownBy w' (some g) := by
  go_enter Tryd.func42, Tryd.ntmps42
  go_wp2
  go_loopw [7] (fun i wr => ∃ (k : Nat), k ≤ 8 ∧ i = .int .i64 k ∧ Hid (Pb wr g (splice xs o ((eight s).take k))) ∧ w.grownBy wr (some g)) (fun i _ => 8 - (intOf i).toNat)
  case atStart => exact ⟨0, by omega, rfl, by simp only [List.take_zero, splice, List.length_nil, Nat.add_zero, List.nil_append, List.take_append_drop]; exact h, grownBy_refl w _⟩
  case round =>
    obtain ⟨k, hk, rfl, hp, hbl⟩ := hrel
    by_cases hlt : k < 8
    · have hl : (splice xs o ((eight s).take k)).length = xs.length := length_splice _ _ _ (by simp [eight_length]; omega)
      have c0 := hp.out.cell (o + k) (by omega)
      have f0 := hp.out.frozen (o + k)
      go_wp2
      have e1 : (s.toNat : Int) / 2 ^ (8 * (7 - k)) % 256 = ((sumByte s (7 - k)).toNat : Int) := by
        have := sumByte_is s (8 - k) (by omega)
        rw [show 8 * (8 - k) - 8 = 8 * (7 - k) from by omega, show 8 - k - 1 = 7 - k from by omega] at this
        exact this
      have e2 : (eight s).take (k + 1) = (eight s).take k ++ [sumByte s (7 - k)] := by
        have := eight_take s (8 - k) (by omega) (by omega)
        rw [show 8 - (8 - k) = k from by omega, show 8 - k - 1 = 7 - k from by omega] at this
        exact this.symm
      have hp2 := hp.out.set (o + k) (sumByte s (7 - k))
      rw [splice_set _ _ _ _ _ (by omega) (by simp [eight_length]; omega), ← e2, ← e1] at hp2
      exact ⟨⟨k + 1, by omega, by go_num, hp2, hbl.trans (grownBy_set _ g (o + k) _)⟩, by simp [intOf]; omega⟩
    · obtain rfl : k = 8 := by omega
      go_wp2
      go_end0
      refine ⟨⟨_, rfl⟩, ?_, hbl⟩
      have := hp.out
      rwa [show (eight s).take 8 = eight s from rfl] at this
end Go.Proofs.YtaghbkjjindjfaaDoor
