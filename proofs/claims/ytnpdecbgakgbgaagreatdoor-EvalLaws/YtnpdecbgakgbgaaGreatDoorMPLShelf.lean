/-
  The document's Digits: the digits of a number.
  The contracts of the document's Power and Right, as the statements call them.
  The document's Print: the text of any decimal.
  The library's contracts laid at this program: strconv.Itoa, strings.Clone; HasSuffix, TrimSuffix, Index and Contains at one point.
-/
import Derived.Test.YtnpdecbgakgbgaaGreatDoorDArith
import Derived.Laws.IdiomStrings
import Derived.Deep.RegionHeld2
import Derived.Test.YtnpdecbgakgbgaaGreatDoorMODStr
import Derived.Shelf.Strconv.Itoa3
import Derived.Shelf.Strconv.Clone
import Derived.Ground.NamesProg
import Derived.Shelf.Lay
namespace Go.Proofs.YtnpdecbgakgbgaaGreatDoor
open Go.RowKit
attribute [local go_sem] cell?_more frozen?_more setCell_more more_lt more_more more_drew more_drewN setCell_drewN alloc_drewN

/-- The digits of a number, the first one first. -/
def digs (u : Nat) : List UInt8 := if h : u < 10 then [UInt8.ofNat (48 + u)] else digs (u / 10) ++ [UInt8.ofNat (48 + u % 10)]
  termination_by u
  decreasing_by omega
theorem digs_small (u : Nat) (h : u < 10) : digs u = [UInt8.ofNat (48 + u)] := by rw [digs, dif_pos h]
theorem digs_big (u : Nat) (h : ¬ u < 10) : digs u = digs (u / 10) ++ [UInt8.ofNat (48 + u % 10)] := by rw [digs, dif_neg h]

theorem digs_len (k : Nat) : ∀ u, u < 10 ^ (k + 1) → (digs u).length ≤ k + 1 := by
  induction k with
  | zero => intro u h; rw [digs_small u (by simpa using h)]; simp
  | succ k ih =>
    intro u h
    by_cases h9 : u < 10
    · rw [digs_small u h9]; simp
    · rw [digs_big u h9, List.length_append]
      have := ih (u / 10) (by rw [Nat.pow_succ] at h; omega)
      simp; omega
theorem ba_app (a b : List UInt8) : (⟨a.toArray⟩ : ByteArray) ++ ⟨b.toArray⟩ = ⟨(a ++ b).toArray⟩ := by
  apply ByteArray.ext
  simp
theorem ba_cons (y : UInt8) (t : List UInt8) : (⟨#[y]⟩ : ByteArray) ++ ⟨t.toArray⟩ = ⟨(y :: t).toArray⟩ := ba_app [y] t

/-- One sign as a text. -/
theorem str_one (V : World) (n : Nat) (y : UInt8) : (convert 150 9 (.slice (some ⟨V.heap.size, 0, none⟩) 1 1)).run Tryz.prog ((V.alloc (.cells #[.int .u8 (y.toNat : Int)] 5)).drewN n) = .ok (.string ⟨#[y]⟩) ((V.alloc (.cells #[.int .u8 (y.toNat : Int)] 5)).drewN n) := by
  refine run_convert_bytes_back _ 150 9 5 ⟨V.heap.size, 0, none⟩ 1 [y] Tryz.underlying150 Tryz.underlying5 Tryz.underlying9 fun j hj => ?_
  rw [Addr.add_lit]
  match j, hj with
  | 0, _ => rw [World.cell?_drewN, World.cell?_alloc_at _ _ _ _ rfl]; rfl

end Go.Proofs.YtnpdecbgakgbgaaGreatDoor

namespace Go.Proofs.YtnpdecbgakgbgaaGreatDoor
open Go.RowKit

set_option maxHeartbeats 1000000 in
theorem power_any (k : Nat) (w : World) (hk : k < 13) : Calls Tryz.prog 139 #[.int .i64 (k : Int)] w fun e w' => e = .returned (.int .i64 ((10 ^ k : Nat) : Int)) ∧ w = w' := by
  go_enter Tryz.func139, Tryz.ntmps139
  go_wp2
  go_loop [3, 4] (fun p i => ∃ j q : Nat, i = .int .i64 (j : Int) ∧ p = .int .i64 (q : Int) ∧ j ≤ k ∧ Hid (q = 10 ^ j)) (fun _ i => k - (intOf i).toNat)
  case atStart => exact ⟨0, 1, rfl, rfl, Nat.zero_le _, rfl⟩
  case round =>
    obtain ⟨j, q, rfl, rfl, hj, hq⟩ := hrel
    by_cases hlt : j < k
    · have hb : q ≤ 1000000000000 := by
        rw [hq.out]
        have : 10 ^ j ≤ 10 ^ 12 := Nat.pow_le_pow_right (by decide) (by omega)
        omega
      have e1 : IntKind.i64.wrap (10 * (q : Int)) = ((10 * q : Nat) : Int) := by rw [IntKind.wrap_i64]; omega
      have hq' : Hid (10 * q = 10 ^ (j + 1)) := (by rw [hq.out, Nat.pow_succ, Nat.mul_comm] : 10 * q = 10 ^ (j + 1))
      obtain ⟨q2, hq2⟩ : ∃ q2, q2 = 10 * q := ⟨_, rfl⟩
      rw [← hq2] at e1
      have HQ : Hid (q2 = 10 ^ (j + 1)) := (by rw [hq2]; exact hq'.out : q2 = 10 ^ (j + 1))
      clear hb hq2 hq' hq
      go_wp2
      go_round
      case rel => exact ⟨j + 1, q2, by go_num, rfl, by omega, HQ⟩
      case measure => simp [intOf]; omega
    · obtain rfl : j = k := by omega
      clear hk hj
      go_wp2
      go_ret
      exact ⟨ret_int (by rw [hq.out]; simp), rfl⟩

set_option maxHeartbeats 400000 in
theorem refRight_any (u s : Int) (w : World) : Calls Tryz.prog 123 #[dv u s] w fun e w' => e = .returned (.bool (rightS s)) ∧ Grew w w' := by
  go_enter Tryz.func123, Tryz.ntmps123
  go_wp2
  all_goals go_ret
  all_goals refine ⟨ret_bool ?_, by repeat (first | exact Grew.refl _ | apply Grew.drew | apply Grew.drewN | apply Grew.alloc | apply Grew.more)⟩
  all_goals rw [Bool.eq_iff_iff, rightS_iff]
  all_goals simp
  all_goals omega
end Go.Proofs.YtnpdecbgakgbgaaGreatDoor

namespace Go.Proofs.YtnpdecbgakgbgaaGreatDoor
open Go.RowKit
attribute [local go_sem] cell?_more frozen?_more setCell_more more_lt more_more more_drew more_drewN setCell_drewN alloc_drewN

/-- How long a text is. -/
def strLen : Value → Nat
  | .string b => b.size
  | _ => 0
/-- Digits with as many noughts ahead that more than s are there. -/
def pad (s : Nat) (l : List UInt8) : List UInt8 := List.replicate (s + 1 - l.length) 48 ++ l
theorem pad_more (s : Nat) (l : List UInt8) (h : l.length ≤ s) : pad s (48 :: l) = pad s l := by
  unfold pad
  rw [List.length_cons, show s + 1 - l.length = (s + 1 - (l.length + 1)) + 1 by omega, List.replicate_succ']
  simp
theorem pad_done (s : Nat) (l : List UInt8) (h : s < l.length) : pad s l = l := by
  unfold pad
  rw [show s + 1 - l.length = 0 by omega]; rfl
theorem pad_len (s : Nat) (l : List UInt8) : (pad s l).length = max (s + 1) l.length := by
  unfold pad
  rw [List.length_append, List.length_replicate]; omega
theorem ba_nil (t : List UInt8) : (⟨#[]⟩ : ByteArray) ++ ⟨t.toArray⟩ = ⟨([] ++ t).toArray⟩ := ba_app [] t
theorem cut_text (P T : List UInt8) (m : Nat) : (⟨P.toArray⟩ : ByteArray) ++ (ByteArray.mk T.toArray).extract 0 m ++ ⟨#[46]⟩ ++ (ByteArray.mk T.toArray).extract m T.length = ⟨(P ++ (T.take m ++ 46 :: T.drop m)).toArray⟩ := by
  apply ByteArray.ext
  simp [ByteArray.data_extract]
  exact List.take_of_length_le (by simp)
/-- The text of units of a scale. -/
def dtext (u : Int) (s : Nat) : List UInt8 :=
  (if u < 0 then [45] else []) ++ (if s = 0 then pad 0 (digs u.natAbs) else (pad s (digs u.natAbs)).take ((pad s (digs u.natAbs)).length - s) ++ 46 :: (pad s (digs u.natAbs)).drop ((pad s (digs u.natAbs)).length - s))

end Go.Proofs.YtnpdecbgakgbgaaGreatDoor

namespace Go.Proofs.YtnpdecbgakgbgaaGreatDoor
open Go.RowKit Go.Shelf

shelf_lay LaysM.n171 Nm 171 at Tryz as Tryz.laysItoa
shelf_lay LaysM.n316 Nm 316 at Tryz as Tryz.laysClone

/-- The library's table of powers of ten. -/
def Ptab (w : World) : Prop := Lib.TabIs Tryz.prog w "internal/strconv.uint64pow10" .u64 Lib.pow10Tab
theorem Ptab.later {w w' : World} (h : Ptab w) (hb : Below w.heap.size w w') : Ptab w' := by
  unfold Ptab Lib.TabIs World.var? at *
  cases hg : Tryz.prog.globalNamed "internal/strconv.uint64pow10" with
  | none => rw [hg] at h; cases h
  | some g =>
    rw [hg] at h
    simp only [Option.bind_some] at h ⊢
    have hlt : g < w.heap.size := by
      rcases Nat.lt_or_ge g w.heap.size with h' | h'
      · exact h'
      · rw [Array.getElem?_eq_none h'] at h; cases h
    rw [hb.block g hlt]
    exact h

theorem dec_digs (u : Nat) : Lib.decDigits u = digs u := by
  induction u using Nat.strongRecOn with
  | ind u ih =>
    by_cases h : u < 10
    · rw [Lib.decDigits, dif_pos h, digs_small u h]
    · rw [Lib.decDigits, dif_neg h, digs_big u h, ih (u / 10) (by omega)]
theorem itoa_text (n : Int) : Lib.itoa n = dtext n 0 := by
  unfold Lib.itoa dtext
  have e : pad 0 (digs n.natAbs) = digs n.natAbs := by
    refine pad_done 0 _ ?_
    by_cases h : n.natAbs < 10
    · rw [digs_small _ h]; simp
    · rw [digs_big _ h]; simp
  rw [if_pos rfl, e]
  split
  · rw [dec_digs]; rfl
  · rw [dec_digs, show n.toNat = n.natAbs by omega]; rfl

theorem grow_more (l : List Obj) : ∀ (w : World), Sort.grow w l.toArray = more w l := by
  induction l with
  | nil => intro w; simp [Sort.grow, more]
  | cons o l ih =>
    intro w
    rw [more, ← ih]
    unfold Sort.grow World.alloc
    simp
theorem itoa_any (n : Int) (w : World) (h0 : -9223372036854775808 ≤ n) (h1 : n ≤ 9223372036854775807) (hP : Ptab w) : Calls Tryz.prog 146 #[.int .i64 n] w fun e w' => e = .returned (.string ⟨(dtext n 0).toArray⟩) ∧ Grew w w' := by
  rw [← itoa_text]
  refine (Any.strconv_Itoa Tryz.laysItoa n h0 h1 w hP).mono ?_
  rintro e w' ⟨rfl, k, os, rfl⟩
  refine ⟨rfl, os.toList, k, ?_⟩
  have h := grow_more os.toList (w.drewN k)
  rw [Array.toArray_toList] at h
  rw [h, more_drewN]

theorem clone_any (B : ByteArray) (w : World) (h : B.size ≤ 140737488351232) : Calls Tryz.prog 30 #[.string B] w fun e w' => e = .returned (.string B) ∧ Below w.heap.size w w' := by
  have C : ∀ W, Calls Tryz.prog 81 #[.string B] W fun e w' => e = .returned (.string B) ∧ Below W.heap.size W w' := fun W => Any.stringslite_Clone Tryz.laysClone B W (by omega)
  go_enter Tryz.func30, Tryz.ntmps30
  go_wp2_with (go_at_call 81; refine (C _).mono ?_; rintro e w' ⟨rfl, hb⟩)
  go_ret
  exact ⟨rfl, hb⟩

theorem suffix_one (l : List UInt8) (w : World) (hl : l.length ≤ 9223372036854775806) : Calls Tryz.prog 292 #[.string ⟨l.toArray⟩, .string ⟨#[46]⟩] w fun e w' => e = .returned (.bool (decide (l.getLast? = some 46))) ∧ w = w' := by
  rcases List.eq_nil_or_concat l with rfl | ⟨m, c, rfl⟩
  · go_enter Tryz.func292, Tryz.ntmps292
    go_wp2
    go_ret
    exact ⟨rfl, rfl⟩
  · have hs : (ByteArray.mk (m ++ [c]).toArray).size = m.length + 1 := by show (m ++ [c]).length = _; simp
    have e : decide ((m ++ [c]).getLast? = some 46) = decide (c = 46) := by simp
    rw [List.concat_eq_append, e]
    have hx : (((ByteArray.mk (m ++ [c]).toArray).extract m.length (m.length + 1)).toList == [46]) = decide (c = 46) := by
      rw [ba_extract, ByteArray.toList_eq]
      show (((m ++ [c]).take (m.length + 1)).drop m.length == [46]) = _
      rw [List.take_of_length_le (by simp), List.drop_left' rfl]
      by_cases h : c = 46 <;> simp [h]
    have h1 : ((m.length + 1 : Nat) : Int) = (m.length : Int) + 1 := by omega
    have h2 : (1 : Int) ≤ (m.length : Int) + 1 := by omega
    have h3 : m.length ≤ 9223372036854775805 := by simp at hl; omega
    generalize decide (c = 46) = b at *
    generalize ByteArray.mk (m ++ [c]).toArray = B at *
    generalize m.length = n at *
    clear e hl
    go_enter Tryz.func292, Tryz.ntmps292
    go_wp2
    go_ret
    exact ⟨rfl, rfl⟩

end Go.Proofs.YtnpdecbgakgbgaaGreatDoor
