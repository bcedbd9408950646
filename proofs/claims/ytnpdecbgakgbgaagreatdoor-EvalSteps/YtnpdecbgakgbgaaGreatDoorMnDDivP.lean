/-
  The listed table of powers as the walks ask for it.
  Points of the plane with whole coordinates as numbers: the nearest quotient, the rest and their sizes. Nothing of the program is in it.
  The contract of the document's Good: whether a text is good UTF-8, as the library's ValidString tells it.
  The contracts of the document's Right and Same.
  Truth on both sides, and the walk of DatumTruths.
  math/bits.LeadingZeros64 by the library's contract, laid at this program; what is known of the number of bits.
  Plain facts on a division of two words by a word, moved up: the names that the walk of math/bits.Div64 gives its numbers. Nothing of the program is in it.
-/
import Derived.Test.YtnpdecbgakgbgaaGreatDoorMkVCmp
import Derived.Test.YtnpdecbgakgbgaaGreatDoorVCmp2
import Derived.WalkKit
import Derived.Test.YtnpdecbgakgbgaaGreatDoorProg
import Derived.WalkMore
import Derived.WalkSpells
import Derived.WalkLawsBesides
import Derived.RowKit
import Derived.Below
import Derived.Laws.RangeAny
import Derived.Lib.TrimUEq
import Derived.Lib.ValidLaws
import Derived.Lib.OthersKept
import Derived.Laws.IdiomStrings
import Derived.Test.YtnpdecbgakgbgaaGreatDoorMiJumps
import Derived.Test.YtnpdecbgakgbgaaGreatDoorMeDWide3
import Derived.Shelf.Small.Bits
import Derived.Laws.BitsAllLaws
import Derived.Laws.Bits64b
namespace Go.Proofs.YtnpdecbgakgbgaaGreatDoor
open Go.ChangeShapes Go.WideShapes Go.ChangeAt Go.WideMaps Go.WideElems Go.RowKit Go.Shelf Go.Lib

def powN : List Int := [1, 10, 100, 1000, 10000, 100000, 1000000, 10000000, 100000000, 1000000000, 10000000000, 100000000000, 1000000000000]
theorem pow_cells : ∀ k : Nat, k < 13 → (powN.map (Value.int .i64)).toArray[k]? = some (.int .i64 ((10 ^ k : Nat) : Int)) := by
  intro k hk
  match k, hk with
  | 0, _ => rfl
  | 1, _ => rfl
  | 2, _ => rfl
  | 3, _ => rfl
  | 4, _ => rfl
  | 5, _ => rfl
  | 6, _ => rfl
  | 7, _ => rfl
  | 8, _ => rfl
  | 9, _ => rfl
  | 10, _ => rfl
  | 11, _ => rfl
  | 12, _ => rfl

theorem pw_of {W : World} (h : VarReads Tryz.prog W "longstop/decimal.powers" Rows.laid_longstop_decimal_powers) : Pw W := by
  have gP : Tryz.prog.globalNamed "longstop/decimal.powers" = some 1 := by kernel_rfl
  have tP : (Tryz.prog.globals[1]?).map (·.type) = some 187 := by kernel_rfl
  have e : (Rows.laid_longstop_decimal_powers : DataW Unit) = Lib.tabData .i64 powN := by kernel_rfl
  rw [e] at h
  obtain ⟨g, t, cs, fuel, p, hg, hty, hvar, hd⟩ := h
  obtain rfl := Option.some.inj (gP.symm.trans hg)
  obtain rfl := Option.some.inj (tP.symm.trans hty)
  have hcs := Lib.cells_of_tab Tryz.underlying187 Tryz.underlying3 (by kernel_rfl) (by kernel_rfl) hd
  intro k hk
  have hc := World.var?_cell hg hvar k
  rw [hc, ← pow_cells k hk]
  have : cs = (powN.map (Value.int .i64)).toArray := by
    rw [← Array.toArray_toList (xs := cs), hcs]
  rw [this]
end Go.Proofs.YtnpdecbgakgbgaaGreatDoor

namespace Go.Proofs.YtnpdecbgakgbgaaGreatDoor.Ga

theorem mul_bdp {x u A B : Int} (hA : 0 ≤ A) (x1 : -A ≤ x) (x2 : x ≤ A) (u1 : -B ≤ u) (u2 : u ≤ B) : -(A * B) ≤ x * u ∧ x * u ≤ A * B := by
  have hB : 0 ≤ B := by omega
  have h1 : (x * u).natAbs ≤ A.natAbs * B.natAbs := by rw [Int.natAbs_mul]; exact Nat.mul_le_mul (by omega) (by omega)
  have h2 : ((A.natAbs * B.natAbs : Nat) : Int) = A * B := by rw [Int.natCast_mul, Int.natAbs_of_nonneg hA, Int.natAbs_of_nonneg hB]
  omega

/-- The nearest whole number, of two as near the greater one. -/
def nst (o u : Int) : Int := (2 * o + u) / (2 * u)

theorem nst_bd (o n : Int) (hn : 0 < n) : 2 * (n * nst o n) ≤ 2 * o + n ∧ 2 * o < 2 * (n * nst o n) + n := by
  unfold nst
  have h1 := Int.mul_ediv_add_emod (2 * o + n) (2 * n)
  have h2 := Int.emod_nonneg (2 * o + n) (show 2 * n ≠ 0 by omega)
  have h3 := Int.emod_lt_of_pos (2 * o + n) (show 0 < 2 * n by omega)
  rw [Int.mul_assoc] at h1
  omega
/-- An exact quotient is told as it is. -/
theorem nst_exact (c n : Int) (hn : 0 < n) : nst (n * c) n = c := by
  obtain ⟨h1, h2⟩ := nst_bd (n * c) n hn
  generalize nst (n * c) n = q at *
  have h3 : n * (q - c) = n * q - n * c := Int.mul_sub n q c
  rcases Int.lt_trichotomy q c with h | h | h
  · have : n * (q - c) ≤ n * (-1) := Int.mul_le_mul_of_nonneg_left (by omega) (by omega)
    omega
  · exact h
  · have : n * 1 ≤ n * (q - c) := Int.mul_le_mul_of_nonneg_left (by omega) (by omega)
    omega

theorem sq_le {r A : Int} (hA : 0 ≤ A) (h : r * r ≤ A * A) : -A ≤ r ∧ r ≤ A := by
  have h1 : r.natAbs * r.natAbs ≤ A.natAbs * A.natAbs := by
    have e1 := Int.natAbs_mul_self (a := r)
    have e2 := Int.natAbs_mul_self (a := A)
    have : ((r.natAbs * r.natAbs : Nat) : Int) ≤ ((A.natAbs * A.natAbs : Nat) : Int) := by rw [e1, e2]; exact h
    exact_mod_cast this
  have := Nat.mul_self_le_mul_self_iff.1 h1
  omega
theorem sq_nn (r : Int) : 0 ≤ r * r := by
  have e1 := Int.natAbs_mul_self (a := r)
  have : 0 ≤ ((r.natAbs * r.natAbs : Nat) : Int) := Int.natCast_nonneg _
  push_cast at this
  omega
theorem norm_zero {u v : Int} (h : u * u + v * v = 0) : u = 0 ∧ v = 0 := by
  have h1 := sq_nn u
  have h2 := sq_nn v
  have a := sq_le (r := u) (A := 0) (by decide) (by omega)
  have b := sq_le (r := v) (A := 0) (by decide) (by omega)
  omega
theorem norm_pos {u v : Int} (h : ¬ (u = 0 ∧ v = 0)) : 0 < u * u + v * v := by
  have h1 := sq_nn u
  have h2 := sq_nn v
  rcases Int.lt_or_le 0 (u * u + v * v) with h' | h'
  · exact h'
  · exact absurd (norm_zero (u := u) (v := v) (by omega)) h

/-- The quotient of two points and the rest. -/
def qX (x y u v : Int) : Int := nst (x * u + y * v) (u * u + v * v)
def qY (x y u v : Int) : Int := nst (y * u - x * v) (u * u + v * v)
def rX (x y u v : Int) : Int := x - (u * qX x y u v - v * qY x y u v)
def rY (x y u v : Int) : Int := y - (u * qY x y u v + v * qX x y u v)

/-- The rest's norm is at most half of the divisor's. -/
theorem rest_half (x y u v : Int) (h : 0 < u * u + v * v) : 2 * (rX x y u v * rX x y u v + rY x y u v * rY x y u v) ≤ u * u + v * v := by
  obtain ⟨a1, a2⟩ := nst_bd (x * u + y * v) (u * u + v * v) h
  obtain ⟨b1, b2⟩ := nst_bd (y * u - x * v) (u * u + v * v) h
  unfold rX rY
  rw [show nst (x * u + y * v) (u * u + v * v) = qX x y u v from rfl] at a1 a2
  rw [show nst (y * u - x * v) (u * u + v * v) = qY x y u v from rfl] at b1 b2
  generalize qX x y u v = c at *
  generalize qY x y u v = d at *
  have m1 := mul_bdp (x := 2 * ((x * u + y * v) - (u * u + v * v) * c)) (u := 2 * ((x * u + y * v) - (u * u + v * v) * c)) (A := u * u + v * v) (B := u * u + v * v) (by omega) (by omega) (by omega) (by omega) (by omega)
  have m2 := mul_bdp (x := 2 * ((y * u - x * v) - (u * u + v * v) * d)) (u := 2 * ((y * u - x * v) - (u * u + v * v) * d)) (A := u * u + v * v) (B := u * u + v * v) (by omega) (by omega) (by omega) (by omega) (by omega)
  have id : 2 * ((x * u + y * v) - (u * u + v * v) * c) * (2 * ((x * u + y * v) - (u * u + v * v) * c)) + 2 * ((y * u - x * v) - (u * u + v * v) * d) * (2 * ((y * u - x * v) - (u * u + v * v) * d))
      = (u * u + v * v) * (4 * ((x - (u * c - v * d)) * (x - (u * c - v * d)) + (y - (u * d + v * c)) * (y - (u * d + v * c)))) := by grind
  have k : (u * u + v * v) * (4 * ((x - (u * c - v * d)) * (x - (u * c - v * d)) + (y - (u * d + v * c)) * (y - (u * d + v * c)))) ≤ (u * u + v * v) * (2 * (u * u + v * v)) := by
    rw [← id]
    have : (u * u + v * v) * (2 * (u * u + v * v)) = (u * u + v * v) * (u * u + v * v) + (u * u + v * v) * (u * u + v * v) := by grind
    omega
  have := Int.le_of_mul_le_mul_left k h
  omega

theorem unit_cases {u v : Int} (h : u * u + v * v = 1) : (u = 1 ∧ v = 0) ∨ (u = -1 ∧ v = 0) ∨ (u = 0 ∧ v = 1) ∨ (u = 0 ∧ v = -1) := by
  have h1 := sq_nn u
  have h2 := sq_nn v
  have a := sq_le (r := u) (A := 1) (by decide) (by omega)
  have b := sq_le (r := v) (A := 1) (by decide) (by omega)
  have ha : u = -1 ∨ u = 0 ∨ u = 1 := by omega
  have hb : v = -1 ∨ v = 0 ∨ v = 1 := by omega
  rcases ha with rfl | rfl | rfl <;> rcases hb with rfl | rfl | rfl <;> simp_all

theorem quo_bd1 (o n A : Int) (hn : 0 < n) (h1 : -(A * n) ≤ o) (h2 : o ≤ A * n) : -A ≤ nst o n ∧ nst o n ≤ A := by
  obtain ⟨a1, a2⟩ := nst_bd o n hn
  generalize nst o n = c at *
  constructor
  · rcases Int.lt_or_le c (-A) with h | h
    · have : n * c ≤ n * (-A - 1) := Int.mul_le_mul_of_nonneg_left (by omega) (by omega)
      have e : n * (-A - 1) = -(A * n) - n := by grind
      omega
    · exact h
  · rcases Int.lt_or_le A c with h | h
    · have : n * (A + 1) ≤ n * c := Int.mul_le_mul_of_nonneg_left (by omega) (by omega)
      have e : n * (A + 1) = A * n + n := by grind
      omega
    · exact h

/-- The quotient and the rest of two points that may be may be. -/
theorem quo_ok (x y u v : Int) (hx : -1048576 ≤ x ∧ x ≤ 1048576) (hy : -1048576 ≤ y ∧ y ≤ 1048576) (h : 0 < u * u + v * v) :
    (-1048576 ≤ qX x y u v ∧ qX x y u v ≤ 1048576) ∧ (-1048576 ≤ qY x y u v ∧ qY x y u v ≤ 1048576) := by
  by_cases h1 : u * u + v * v = 1
  · unfold qX qY
    rw [h1]
    rcases unit_cases h1 with ⟨rfl, rfl⟩ | ⟨rfl, rfl⟩ | ⟨rfl, rfl⟩ | ⟨rfl, rfl⟩ <;> unfold nst <;> omega
  · have mx := mul_bdp (A := 1048576) (B := 1048576) (by decide) hx.1 hx.2 hx.1 hx.2
    have my := mul_bdp (A := 1048576) (B := 1048576) (by decide) hy.1 hy.2 hy.1 hy.2
    have id : (x * u + y * v) * (x * u + y * v) + (y * u - x * v) * (y * u - x * v) = (x * x + y * y) * (u * u + v * v) := by grind
    have s1 := sq_nn (x * u + y * v)
    have s2 := sq_nn (y * u - x * v)
    have hb : (x * x + y * y) * (u * u + v * v) ≤ (1048576 * (u * u + v * v)) * (1048576 * (u * u + v * v)) := by
      have e1 : (x * x + y * y) * (u * u + v * v) ≤ 2199023255552 * (u * u + v * v) := Int.mul_le_mul_of_nonneg_right (by omega) (by omega)
      have e2 : 2199023255552 * (u * u + v * v) ≤ (1099511627776 * (u * u + v * v)) * (u * u + v * v) := by
        have : 2 * (1099511627776 * (u * u + v * v)) ≤ (u * u + v * v) * (1099511627776 * (u * u + v * v)) := Int.mul_le_mul_of_nonneg_right (by omega) (by omega)
        have e : (u * u + v * v) * (1099511627776 * (u * u + v * v)) = (1099511627776 * (u * u + v * v)) * (u * u + v * v) := Int.mul_comm _ _
        omega
      have e3 : (1048576 * (u * u + v * v)) * (1048576 * (u * u + v * v)) = (1099511627776 * (u * u + v * v)) * (u * u + v * v) := by grind
      omega
    have k1 := sq_le (r := x * u + y * v) (A := 1048576 * (u * u + v * v)) (by omega) (by omega)
    have k2 := sq_le (r := y * u - x * v) (A := 1048576 * (u * u + v * v)) (by omega) (by omega)
    exact ⟨quo_bd1 _ _ 1048576 h k1.1 k1.2, quo_bd1 _ _ 1048576 h k2.1 k2.2⟩

theorem rest_ok (x y u v : Int) (hu : -1048576 ≤ u ∧ u ≤ 1048576) (hv : -1048576 ≤ v ∧ v ≤ 1048576) (h : 0 < u * u + v * v) :
    (-1048576 ≤ rX x y u v ∧ rX x y u v ≤ 1048576) ∧ (-1048576 ≤ rY x y u v ∧ rY x y u v ≤ 1048576) := by
  have hh := rest_half x y u v h
  have mu := mul_bdp (A := 1048576) (B := 1048576) (by decide) hu.1 hu.2 hu.1 hu.2
  have mv := mul_bdp (A := 1048576) (B := 1048576) (by decide) hv.1 hv.2 hv.1 hv.2
  have s1 := sq_nn (rX x y u v)
  have s2 := sq_nn (rY x y u v)
  exact ⟨sq_le (A := 1048576) (by decide) (by omega), sq_le (A := 1048576) (by decide) (by omega)⟩
end Go.Proofs.YtnpdecbgakgbgaaGreatDoor.Ga

namespace Go.Proofs.YtnpdecbgakgbgaaGreatDoor
open Go.RowKit

theorem bad_rune (l : List UInt8) (hne : l ≠ []) (hr : (Lib.decodeL l).1 = 65533) : (Lib.decodeL l).2 = 1 ↔ (l.length < 3 ∨ l.take 3 ≠ [239, 191, 189]) := by
  rw [Lib.decodeL_N] at hr ⊢
  have b0 := (l.getD 0 0).toNat_lt
  have b1 := (l.getD 1 0).toNat_lt
  have b2 := (l.getD 2 0).toNat_lt
  have b3 := (l.getD 3 0).toNat_lt
  have key : l.take 3 = [239, 191, 189] ↔ (3 ≤ l.length ∧ (l.getD 0 0).toNat = 239 ∧ (l.getD 1 0).toNat = 191 ∧ (l.getD 2 0).toNat = 189) := by
    match l with
    | [] => simp
    | [a] => simp
    | [a, b] => simp
    | a :: b :: c :: l =>
      simp only [List.take_succ_cons, List.take_zero, List.cons.injEq, and_true, List.length_cons, List.getD_cons_zero, List.getD_cons_succ]
      constructor
      · rintro ⟨rfl, rfl, rfl⟩; exact ⟨by omega, rfl, rfl, rfl⟩
      · rintro ⟨_, h0, h1, h2⟩; exact ⟨UInt8.toNat_inj.1 h0, UInt8.toNat_inj.1 h1, UInt8.toNat_inj.1 h2⟩
  rw [Ne, key]
  have hl : 0 < l.length := List.length_pos_iff.2 hne
  generalize (l.getD 0 0).toNat = a at *
  generalize (l.getD 1 0).toNat = b at *
  generalize (l.getD 2 0).toNat = c at *
  generalize (l.getD 3 0).toNat = d at *
  generalize l.length = n at *
  clear key
  unfold Lib.decodeN at hr ⊢
  split at hr
  · rename_i h; exfalso; simp only at hr; omega
  rename_i h
  rw [if_neg h]
  split at hr
  · rename_i h'
    rw [if_pos h']
    split at hr
    · exfalso; simp only at hr; omega
    · rename_i h''; rw [if_neg h'']
      refine ⟨fun _ => ?_, fun _ => rfl⟩
      by_cases hn : 3 ≤ n ∧ a = 239 ∧ b = 191 ∧ c = 189
      · exfalso; obtain ⟨h4, rfl, rfl, rfl⟩ := hn; omega
      · exact .inr hn
  rename_i h'
  rw [if_neg h']
  split at hr
  · rename_i h2
    rw [if_pos h2]
    split at hr
    · rename_i h''; rw [if_pos h'']
      simp only at hr
      refine ⟨fun h => by simp at h, fun h => ?_⟩
      exfalso
      rcases h with h | h
      · omega
      · exact h ⟨by omega, by omega, by omega, by omega⟩
    · rename_i h''; rw [if_neg h'']
      refine ⟨fun _ => ?_, fun _ => rfl⟩
      by_cases hn : 3 ≤ n ∧ a = 239 ∧ b = 191 ∧ c = 189
      · exfalso; obtain ⟨h4, rfl, rfl, rfl⟩ := hn; omega
      · exact .inr hn
  rename_i h2
  rw [if_neg h2]
  split at hr
  · rename_i h3
    rw [if_pos h3]
    split at hr
    · exfalso; simp only at hr; omega
    · rename_i h''; rw [if_neg h'']
      refine ⟨fun _ => ?_, fun _ => rfl⟩
      by_cases hn : 3 ≤ n ∧ a = 239 ∧ b = 191 ∧ c = 189
      · exfalso; obtain ⟨h4, rfl, rfl, rfl⟩ := hn; omega
      · exact .inr hn
  rename_i h3
  rw [if_neg h3]
  refine ⟨fun _ => ?_, fun _ => rfl⟩
  by_cases hn : 3 ≤ n ∧ a = 239 ∧ b = 191 ∧ c = 189
  · exfalso; obtain ⟨h4, rfl, rfl, rfl⟩ := hn; omega
  · exact .inr hn

theorem extract3 (s : ByteArray) (pos : Nat) (_h : pos + 3 ≤ s.size) : (s.extract pos (pos + 3)).toList = (s.data.toList.drop pos).take 3 := by
  rw [ByteArray.toList_eq]
  simp [ByteArray.data_extract]

set_option maxHeartbeats 1000000 in
theorem good_any (s : ByteArray) (w : World) (hs : s.size ≤ 140737488351232) : Calls Tryz.prog 77 #[.string s] w fun e w' => e = .returned (.bool (Lib.validD s.data.toList)) ∧ Below w.heap.size w w' := by
  obtain ⟨V, hV⟩ : ∃ V, V = Lib.validD s.data.toList := ⟨_, rfl⟩
  rw [← hV]
  have hsz : s.data.toList.length = s.size := rfl
  have bel : ∀ pos, Below w.heap.size w (w.iter s pos) := fun pos => (Below.refl _ w).alloc (Nat.le_refl _) _
  go_enter Tryz.func77, Tryz.ntmps77
  go_wp2
  go_loopw [7] (fun _ wr => ∃ pos : Nat, wr = w.iter s pos ∧ pos ≤ s.size ∧ Hid (Lib.validD (s.data.toList.drop pos) = V)) (fun _ wr => s.size - wr.iterPos w.heap.size)
  case atStart => exact ⟨0, rfl, Nat.zero_le _, hV.symm⟩
  case round =>
    obtain ⟨pos, rfl, hp0, HV⟩ := hrel
    by_cases hp : pos < s.size
    · have hne : s.data.toList.drop pos ≠ [] := by
        intro h
        have := congrArg List.length h
        simp at this
        omega
      have hdd := Lib.decodeL_drop s pos
      have hst := Lib.validD_step _ hne
      have hwd := Lib.decodeL_width (s.data.toList.drop pos)
      have hle := Lib.decodeL_le _ hne
      rw [List.length_drop, hsz] at hle
      have hbr := bad_rune _ hne
      have hdl : (s.data.toList.drop pos).length = s.size - pos := by simp
      have hnx : ∀ ty, (Instr.next (.pointer (some ⟨w.heap.size, 0, none⟩)) true ty).run Tryz.prog (w.iter s pos) = _ := fun ty => run_next_any w s pos ty hp
      rw [hdd] at hst hwd hle hbr
      rw [List.drop_drop] at hst
      generalize Utf8.decode s pos = d at *
      obtain ⟨c, n⟩ := d
      simp only at hnx hst hwd hle hbr
      by_cases hc : c = 65533
      · subst hc
        by_cases h3 : s.size < pos + 3
        · have h3' : (s.size : Int) < (pos : Int) + 3 := by omega
          have HF : Hid (V = false) := by
            show V = false
            rw [← HV.out, hst, if_pos ⟨rfl, (hbr rfl).2 (.inl (by omega))⟩]
          clear hdd hst hbr hV HV hne hdl
          go_wp2
          go_ret
          exact ⟨by rw [HF.out]; rfl, bel _⟩
        · have h3' : ¬ (s.size : Int) < (pos : Int) + 3 := by omega
          have h3n : pos + 3 ≤ s.size := by omega
          have h3z : (pos : Int) + 3 ≤ (s.size : Int) := by omega
          have hx := extract3 s pos h3n
          by_cases he : (s.data.toList.drop pos).take 3 = [239, 191, 189]
          · have hx' : ((s.extract pos (pos + 3)).toList == [239, 191, 189]) = true := by rw [hx, he]; rfl
            have hn1 : n ≠ 1 := fun h => by
              rcases (hbr rfl).1 h with h | h
              · omega
              · exact h he
            have HV' : Hid (Lib.validD (s.data.toList.drop (pos + n)) = V) := by
              show _ = _
              rw [← HV.out, hst, if_neg (fun h => hn1 h.2)]
            clear hdd hst hbr hV HV hne hdl hx he
            go_wp2
            go_roundw
            case rel => exact ⟨pos + n, rfl, by omega, HV'⟩
            case measure => simp; omega
          · have hx' : ((s.extract pos (pos + 3)).toList == [239, 191, 189]) = false := by rw [hx]; exact beq_eq_false_iff_ne.2 he
            have HF : Hid (V = false) := by
              show V = false
              rw [← HV.out, hst, if_pos ⟨rfl, (hbr rfl).2 (.inr he)⟩]
            clear hdd hst hbr hV HV hne hdl hx he
            go_wp2
            go_ret
            exact ⟨by rw [HF.out]; rfl, bel _⟩
      · have hc' : ((c : Int) == 65533) = false := by rw [beq_eq_false_iff_ne]; omega
        have HV' : Hid (Lib.validD (s.data.toList.drop (pos + n)) = V) := by
          show _ = _
          rw [← HV.out, hst, if_neg (fun h => hc h.1)]
        clear hdd hst hbr hV HV hne hdl hc
        go_wp2
        go_roundw
        case rel => exact ⟨pos + n, rfl, by omega, HV'⟩
        case measure => simp; omega
    · have hnx : ∀ ty, (Instr.next (.pointer (some ⟨w.heap.size, 0, none⟩)) true ty).run Tryz.prog (w.iter s pos) = _ := fun ty => run_next_end w s pos ty hp
      have HF : Hid (V = true) := by
        show V = true
        rw [← HV.out, List.drop_eq_nil_of_le (by omega)]
        rfl
      clear hV HV
      go_wp2
      go_ret
      exact ⟨by rw [HF.out]; rfl, bel _⟩
end Go.Proofs.YtnpdecbgakgbgaaGreatDoor

namespace Go.Proofs.YtnpdecbgakgbgaaGreatDoor
open Go.RowKit Go.Shelf
attribute [local go_sem] cell?_more frozen?_more setCell_more more_lt more_more more_drew more_drewN setCell_drewN alloc_drewN

theorem emptyE (b : ByteArray) : b.toList.isEmpty = (b.data.toList == []) := by
  rw [Lib.toList_data]
  cases b.data.toList <;> rfl

theorem rpoint_any (x y : Int) (w : World) : Calls Tryz.prog 75 #[dv x y] w fun e w' => e = .returned (.bool (ok1 x && ok1 y)) ∧ Grew w w' := by
  go_enter Tryz.func75, Tryz.ntmps75
  go_wp2
  all_goals go_ret
  all_goals refine ⟨ret_bool ?_, (by repeat (first | exact Grew.refl _ | apply Grew.drew | apply Grew.drewN | apply Grew.alloc | apply Grew.more))⟩
  all_goals simp_all [ok1]
  all_goals try omega

set_option maxHeartbeats 1000000 in
theorem rright_0 (n m : Int) (b : ByteArray) (w : World) : Calls Tryz.prog 26 #[va 0 n m b] w fun e w' => e = .returned (.bool (vrt 0 n m b)) ∧ Below w.heap.size w w' := by
  go_enter Tryz.func26, Tryz.ntmps26
  go_wp2
  all_goals go_ret
  all_goals refine ⟨ret_bool ?_, Grew.below (by repeat (first | exact Grew.refl _ | apply Grew.drew | apply Grew.drewN | apply Grew.alloc | apply Grew.more))⟩
  all_goals simp_all [vrt, vft, emptyE]

set_option maxHeartbeats 1000000 in
theorem rright_1 (n m : Int) (b : ByteArray) (w : World) : Calls Tryz.prog 26 #[va 1 n m b] w fun e w' => e = .returned (.bool (vrt 1 n m b)) ∧ Below w.heap.size w w' := by
  go_enter Tryz.func26, Tryz.ntmps26
  go_wp2
  all_goals go_ret
  all_goals refine ⟨ret_bool ?_, Grew.below (by repeat (first | exact Grew.refl _ | apply Grew.drew | apply Grew.drewN | apply Grew.alloc | apply Grew.more))⟩
  all_goals simp_all [vrt, vft, emptyE]

set_option maxHeartbeats 1000000 in
theorem rright_2 (n m : Int) (b : ByteArray) (w : World) : Calls Tryz.prog 26 #[va 2 n m b] w fun e w' => e = .returned (.bool (vrt 2 n m b)) ∧ Below w.heap.size w w' := by
  go_enter Tryz.func26, Tryz.ntmps26
  go_wp2
  all_goals go_ret
  all_goals refine ⟨ret_bool ?_, Grew.below (by repeat (first | exact Grew.refl _ | apply Grew.drew | apply Grew.drewN | apply Grew.alloc | apply Grew.more))⟩
  all_goals simp [vrt, vft, emptyE, rightS]
  all_goals first | omega | (simp_all; try omega)

set_option maxHeartbeats 1000000 in
theorem rright_4 (n m : Int) (b : ByteArray) (w : World) : Calls Tryz.prog 26 #[va 4 n m b] w fun e w' => e = .returned (.bool (vrt 4 n m b)) ∧ Below w.heap.size w w' := by
  go_enter Tryz.func26, Tryz.ntmps26
  go_wp2
  all_goals go_ret
  all_goals refine ⟨ret_bool ?_, Grew.below (by repeat (first | exact Grew.refl _ | apply Grew.drew | apply Grew.drewN | apply Grew.alloc | apply Grew.more))⟩
  all_goals simp_all [vrt, vft, emptyE]

set_option maxHeartbeats 1000000 in
theorem rright_5 (n m : Int) (b : ByteArray) (w : World) : Calls Tryz.prog 26 #[va 5 n m b] w fun e w' => e = .returned (.bool (vrt 5 n m b)) ∧ Below w.heap.size w w' := by
  have R := fun W => rpoint_any n m W
  have hv : vrt 5 n m b = ((ok1 n && ok1 m) && (b.data.toList == [])) := by simp [vrt, vft, Bool.and_comm]
  rw [hv]
  generalize (ok1 n && ok1 m) = g at *
  clear hv
  cases g
  all_goals
    go_enter Tryz.func26, Tryz.ntmps26
    go_wp2_with (go_at_call 75; refine (R _).mono ?_; rintro e w1 ⟨rfl, os1, n1, rfl⟩)
    all_goals go_ret
    all_goals refine ⟨ret_bool ?_, Grew.below (by repeat (first | exact Grew.refl _ | apply Grew.drew | apply Grew.drewN | apply Grew.alloc | apply Grew.more))⟩
    all_goals simp [emptyE]

set_option maxHeartbeats 1000000 in
theorem rright_3 (n m : Int) (b : ByteArray) (w : World) : Calls Tryz.prog 26 #[va 3 n m b] w fun e w' => e = .returned (.bool (vrt 3 n m b)) ∧ Below w.heap.size w w' := by
  by_cases hn : n = 0
  · subst hn
    by_cases hm : m = 0
    · subst hm
      by_cases hb : b.size ≤ 256
      · have V := fun W => good_any b W (by omega)
        have hv : vrt 3 0 0 b = Lib.validD b.data.toList := by simp [vrt, vft, hb]
        rw [hv]
        have hb' : (b.size : Int) ≤ 256 := by omega
        generalize Lib.validD b.data.toList = g at *
        clear hv hb
        go_enter Tryz.func26, Tryz.ntmps26
        go_wp2_with (go_at_call 77; refine (V _).mono ?_; rintro e w1 ⟨rfl, bb1⟩)
        all_goals go_ret
        all_goals exact ⟨rfl, below_trans (Grew.below (by repeat (first | exact Grew.refl _ | apply Grew.drew | apply Grew.drewN | apply Grew.alloc | apply Grew.more))) bb1⟩
      · have hv : vrt 3 0 0 b = false := by simp [vrt, vft, hb]
        rw [hv]
        have hb' : ¬ (b.size : Int) ≤ 256 := by omega
        clear hv hb
        go_enter Tryz.func26, Tryz.ntmps26
        go_wp2
        all_goals go_ret
        all_goals exact ⟨rfl, Grew.below (by repeat (first | exact Grew.refl _ | apply Grew.drew | apply Grew.drewN | apply Grew.alloc | apply Grew.more))⟩
    · have hv : vrt 3 0 m b = false := by simp [vrt, hm]
      have hm' : (m == 0) = false := by simpa using hm
      rw [hv]
      clear hv hm
      go_enter Tryz.func26, Tryz.ntmps26
      go_wp2
      all_goals go_ret
      all_goals exact ⟨rfl, Grew.below (by repeat (first | exact Grew.refl _ | apply Grew.drew | apply Grew.drewN | apply Grew.alloc | apply Grew.more))⟩
  · have hv : vrt 3 n m b = false := by simp [vrt, hn]
    have hn' : (n == 0) = false := by simpa using hn
    rw [hv]
    clear hv hn
    go_enter Tryz.func26, Tryz.ntmps26
    go_wp2
    all_goals go_ret
    all_goals exact ⟨rfl, Grew.below (by repeat (first | exact Grew.refl _ | apply Grew.drew | apply Grew.drewN | apply Grew.alloc | apply Grew.more))⟩

set_option maxHeartbeats 1000000 in
theorem rright_o (k : Int) (n m : Int) (b : ByteArray) (w : World) (h0 : k ≠ 0) (h1 : k ≠ 1) (h2 : k ≠ 2) (h3 : k ≠ 3) (h4 : k ≠ 4) (h5 : k ≠ 5) : Calls Tryz.prog 26 #[va k n m b] w fun e w' => e = .returned (.bool (vrt k n m b)) ∧ Below w.heap.size w w' := by
  have c0 : (k == 0) = false := by simpa using h0
  have c1 : (k == 1) = false := by simpa using h1
  have c2 : (k == 2) = false := by simpa using h2
  have c3 : (k == 3) = false := by simpa using h3
  have c4 : (k == 4) = false := by simpa using h4
  have c5 : (k == 5) = false := by simpa using h5
  have hv : vrt k n m b = false := by simp [vrt, vft, h0, h1, h2, h3, h4, h5]
  rw [hv]
  clear hv
  go_enter Tryz.func26, Tryz.ntmps26
  go_wp2
  all_goals go_ret
  all_goals exact ⟨rfl, Grew.below (by repeat (first | exact Grew.refl _ | apply Grew.drew | apply Grew.drewN | apply Grew.alloc | apply Grew.more))⟩

/-- The document's Right says what the program's does. -/
theorem rright_any (k n m : Int) (b : ByteArray) (w : World) : Calls Tryz.prog 26 #[va k n m b] w fun e w' => e = .returned (.bool (vrt k n m b)) ∧ Below w.heap.size w w' := by
  by_cases h0 : k = 0
  · subst h0; exact rright_0 n m b w
  by_cases h1 : k = 1
  · subst h1; exact rright_1 n m b w
  by_cases h2 : k = 2
  · subst h2; exact rright_2 n m b w
  by_cases h3 : k = 3
  · subst h3; exact rright_3 n m b w
  by_cases h4 : k = 4
  · subst h4; exact rright_4 n m b w
  by_cases h5 : k = 5
  · subst h5; exact rright_5 n m b w
  exact rright_o k n m b w h0 h1 h2 h3 h4 h5

set_option maxHeartbeats 1000000 in
theorem rsame_any (k n m : Int) (b : ByteArray) (k' n' m' : Int) (b' : ByteArray) (w : World) :
    Calls Tryz.prog 19 #[va k n m b, va k' n' m' b'] w fun e w' => e = .returned (.bool (k == k' && (n == n' && (m == m' && b.toList == b'.toList)))) ∧ Grew w w' := by
  go_enter Tryz.func19, Tryz.ntmps19
  go_wp2
  all_goals go_ret
  all_goals refine ⟨ret_bool ?_, (by repeat (first | exact Grew.refl _ | apply Grew.drew | apply Grew.drewN | apply Grew.alloc | apply Grew.more))⟩
  all_goals simp_all

end Go.Proofs.YtnpdecbgakgbgaaGreatDoor

namespace Go.Proofs.YtnpdecbgakgbgaaGreatDoor
open Go.RowKit Go.Shelf
attribute [local go_sem] cell?_more frozen?_more setCell_more more_lt more_more more_drew more_drewN setCell_drewN alloc_drewN

/-- Are two values the same? -/
def eqv (k n m : Int) (b : ByteArray) (k' n' m' : Int) (b' : ByteArray) : Bool := k == k' && (n == n' && (m == m' && b.toList == b'.toList))
theorem eqVb (k n m k' n' m' : Int) (b b' : ByteArray) (w : World) : (Op.equalIn 10000 30 (va k n m b) (va k' n' m' b')).run Tryz.prog w = .ok (eqv k n m b k' n' m' b') w := eqVa k n m k' n' m' b b' w
attribute [local go_sem high] eqVb

/-- The truth that a value stands for, and whether it stands for one. -/
def truN (k n m : Int) (b : ByteArray) : Int := if vrt k n m b = true ∧ k = 4 then n else 2
def truB (k n m : Int) (b : ByteArray) : Bool := vrt k n m b && (k == 0 || k == 4)

set_option maxHeartbeats 2000000 in
theorem rtruth_any (k n m : Int) (b : ByteArray) (w : World) :
    Calls Tryz.prog 41 #[va k n m b] w fun e w' => e = .returned (.tuple #[.int .i64 (truN k n m b), .bool (truB k n m b)]) ∧ Below w.heap.size w w' := by
  have bx := Box.new w k n m b.data.toList
  have R := rright_any k n m b (w.alloc (.cells #[.int .i64 k, .int .i64 n, .int .i64 m, .string b] 30))
  have Bw : Below w.heap.size w (w.alloc (.cells #[.int .i64 k, .int .i64 n, .int .i64 m, .string b] 30)) := (Below.refl _ _).alloc (Nat.le_refl _) _
  unfold truN truB
  generalize vrt k n m b = g at *
  cases g
  · rw [if_neg (by simp), Bool.false_and]
    go_enter Tryz.func41, Tryz.ntmps41
    go_upto_region 1 with fail
    go_wp2_with fail
    refine R.mono ?_
    rintro e w1 ⟨rfl, b1⟩
    have B1 := below_trans Bw b1
    have bx1 := bx.later b1
    obtain ⟨c0, c1, c2, c3⟩ := bx1.at4
    simp only at c0 c1 c2 c3
    clear R bx bx1 b1 Bw
    go_wp2
    all_goals go_ret2
    all_goals exact ⟨rfl, B1⟩
  · rw [Bool.true_and]
    by_cases h0 : k = 0
    · subst h0
      rw [if_neg (by omega), show ((0 : Int) == 0 || (0 : Int) == 4) = true by decide]
      go_enter Tryz.func41, Tryz.ntmps41
      go_upto_region 1 with fail
      go_wp2_with fail
      refine R.mono ?_
      rintro e w1 ⟨rfl, b1⟩
      have B1 := below_trans Bw b1
      have bx1 := bx.later b1
      obtain ⟨c0, c1, c2, c3⟩ := bx1.at4
      simp only at c0 c1 c2 c3
      clear R bx bx1 b1 Bw
      go_wp2
      all_goals go_ret2
      all_goals exact ⟨rfl, B1⟩
    · have d0 : (k == 0) = false := by simpa using h0
      by_cases h4 : k = 4
      · subst h4
        rw [if_pos ⟨rfl, rfl⟩, show ((4 : Int) == 0 || (4 : Int) == 4) = true by decide]
        clear h0 d0
        go_enter Tryz.func41, Tryz.ntmps41
        go_upto_region 1 with fail
        go_wp2_with fail
        refine R.mono ?_
        rintro e w1 ⟨rfl, b1⟩
        have B1 := below_trans Bw b1
        have bx1 := bx.later b1
        obtain ⟨c0, c1, c2, c3⟩ := bx1.at4
        simp only at c0 c1 c2 c3
        clear R bx bx1 b1 Bw
        go_wp2
        all_goals go_ret2
        all_goals exact ⟨rfl, B1⟩
      · have d4 : (k == 4) = false := by simpa using h4
        rw [if_neg (fun h => h4 h.2), d0, d4, Bool.false_or]
        have n0 : (k != 0) = true := by simpa using h0
        have n4 : (k != 4) = true := by simpa using h4
        clear h0 h4
        go_enter Tryz.func41, Tryz.ntmps41
        go_upto_region 1 with fail
        go_wp2_with fail
        refine R.mono ?_
        rintro e w1 ⟨rfl, b1⟩
        have B1 := below_trans Bw b1
        have bx1 := bx.later b1
        obtain ⟨c0, c1, c2, c3⟩ := bx1.at4
        simp only at c0 c1 c2 c3
        clear R bx bx1 b1 Bw
        go_wp2
        all_goals go_ret2
        all_goals exact ⟨rfl, B1⟩

theorem tru_cases (k n m : Int) (b : ByteArray) :
    (eqv k n m b 0 0 0 ⟨#[]⟩ = true → truN k n m b = 2 ∧ truB k n m b = true) ∧
    (eqv k n m b 4 1 0 ⟨#[]⟩ = true → truN k n m b = 1 ∧ truB k n m b = true) ∧
    (eqv k n m b 4 0 0 ⟨#[]⟩ = true → truN k n m b = 0 ∧ truB k n m b = true) ∧
    (eqv k n m b 0 0 0 ⟨#[]⟩ = false → eqv k n m b 4 1 0 ⟨#[]⟩ = false → eqv k n m b 4 0 0 ⟨#[]⟩ = false → truN k n m b = 2 ∧ truB k n m b = false) := by
  unfold eqv
  rw [toList_nil]
  unfold truN truB vrt vft
  generalize b.data.toList = l
  refine ⟨?_, ?_, ?_, ?_⟩
  · intro h
    simp only [Bool.and_eq_true, beq_iff_eq] at h
    obtain ⟨rfl, rfl, rfl, rfl⟩ := h
    simp
  · intro h
    simp only [Bool.and_eq_true, beq_iff_eq] at h
    obtain ⟨rfl, rfl, rfl, rfl⟩ := h
    simp
  · intro h
    simp only [Bool.and_eq_true, beq_iff_eq] at h
    obtain ⟨rfl, rfl, rfl, rfl⟩ := h
    simp
  · intro h1 h2 h3
    by_cases h0 : k = 0
    · subst h0
      simp at h1 ⊢
      intro a b c
      exact h1 a b c
    · by_cases h4 : k = 4
      · subst h4
        simp at h2 h3
        simp
        by_cases hm : m = 0 ∧ l = []
        · obtain ⟨rfl, rfl⟩ := hm
          simp at h2 h3 ⊢
          exact ⟨fun h => by omega, h3, h2⟩
        · simp only [not_and] at hm
          constructor
          · intro h g; exact absurd g (hm h)
          · intro h g; exact absurd g (hm h)
      · simp [h0, h4]

set_option maxHeartbeats 2000000 in
theorem truth_any (k n m : Int) (b : ByteArray) (w : World) :
    Calls Tryz.prog 91 #[va k n m b] w fun e w' => e = .returned (.tuple #[.int .i64 (truN k n m b), .bool (truB k n m b)]) ∧ Grew w w' := by
  obtain ⟨t1, t2, t3, t4⟩ := tru_cases k n m b
  have O2 : ∀ W, Calls Tryz.prog 90 #[.int .i64 2] W fun e w' => e = .returned (va 0 0 0 ⟨#[]⟩) ∧ Grew W w' := fun W => of_any 2 W
  have O1 : ∀ W, Calls Tryz.prog 90 #[.int .i64 1] W fun e w' => e = .returned (va 4 1 0 ⟨#[]⟩) ∧ Grew W w' := fun W => of_any 1 W
  have O0 : ∀ W, Calls Tryz.prog 90 #[.int .i64 0] W fun e w' => e = .returned (va 4 0 0 ⟨#[]⟩) ∧ Grew W w' := fun W => of_any 0 W
  cases h2 : eqv k n m b 0 0 0 ⟨#[]⟩
  · cases h1 : eqv k n m b 4 1 0 ⟨#[]⟩
    · cases h0 : eqv k n m b 4 0 0 ⟨#[]⟩
      · obtain ⟨e1, e2⟩ := t4 h2 h1 h0
        rw [e1, e2]
        clear t1 t2 t3 t4 e1 e2
        go_enter Tryz.func91, Tryz.ntmps91
        go_wp2_with (first
          | (go_at_call_of 90 (Value.int IntKind.i64 2); refine (O2 _).mono ?_; rintro e w1 ⟨rfl, os1, n1, rfl⟩)
          | (go_at_call_of 90 (Value.int IntKind.i64 1); refine (O1 _).mono ?_; rintro e w1 ⟨rfl, os1, n1, rfl⟩)
          | (go_at_call_of 90 (Value.int IntKind.i64 0); refine (O0 _).mono ?_; rintro e w1 ⟨rfl, os1, n1, rfl⟩))
        all_goals go_ret2
        all_goals exact ⟨rfl, (by repeat (first | assumption | exact Grew.refl _ | apply Grew.drew | apply Grew.drewN | apply Grew.alloc | apply Grew.more))⟩
      · obtain ⟨e1, e2⟩ := t3 h0
        rw [e1, e2]
        clear t1 t2 t3 t4 e1 e2
        go_enter Tryz.func91, Tryz.ntmps91
        go_wp2_with (first
          | (go_at_call_of 90 (Value.int IntKind.i64 2); refine (O2 _).mono ?_; rintro e w1 ⟨rfl, os1, n1, rfl⟩)
          | (go_at_call_of 90 (Value.int IntKind.i64 1); refine (O1 _).mono ?_; rintro e w1 ⟨rfl, os1, n1, rfl⟩)
          | (go_at_call_of 90 (Value.int IntKind.i64 0); refine (O0 _).mono ?_; rintro e w1 ⟨rfl, os1, n1, rfl⟩))
        all_goals go_ret2
        all_goals exact ⟨rfl, (by repeat (first | assumption | exact Grew.refl _ | apply Grew.drew | apply Grew.drewN | apply Grew.alloc | apply Grew.more))⟩
    · obtain ⟨e1, e2⟩ := t2 h1
      rw [e1, e2]
      clear t1 t2 t3 t4 e1 e2
      go_enter Tryz.func91, Tryz.ntmps91
      go_wp2_with (first
        | (go_at_call_of 90 (Value.int IntKind.i64 2); refine (O2 _).mono ?_; rintro e w1 ⟨rfl, os1, n1, rfl⟩)
        | (go_at_call_of 90 (Value.int IntKind.i64 1); refine (O1 _).mono ?_; rintro e w1 ⟨rfl, os1, n1, rfl⟩)
        | (go_at_call_of 90 (Value.int IntKind.i64 0); refine (O0 _).mono ?_; rintro e w1 ⟨rfl, os1, n1, rfl⟩))
      all_goals go_ret2
      all_goals exact ⟨rfl, (by repeat (first | assumption | exact Grew.refl _ | apply Grew.drew | apply Grew.drewN | apply Grew.alloc | apply Grew.more))⟩
  · obtain ⟨e1, e2⟩ := t1 h2
    rw [e1, e2]
    clear t1 t2 t3 t4 e1 e2
    go_enter Tryz.func91, Tryz.ntmps91
    go_wp2_with (first
      | (go_at_call_of 90 (Value.int IntKind.i64 2); refine (O2 _).mono ?_; rintro e w1 ⟨rfl, os1, n1, rfl⟩)
      | (go_at_call_of 90 (Value.int IntKind.i64 1); refine (O1 _).mono ?_; rintro e w1 ⟨rfl, os1, n1, rfl⟩)
      | (go_at_call_of 90 (Value.int IntKind.i64 0); refine (O0 _).mono ?_; rintro e w1 ⟨rfl, os1, n1, rfl⟩))
    all_goals go_ret2
    all_goals exact ⟨rfl, (by repeat (first | assumption | exact Grew.refl _ | apply Grew.drew | apply Grew.drewN | apply Grew.alloc | apply Grew.more))⟩

theorem tnot_tand (a b : Int) : tor (tnot a) (tnot b) = tnot (tand a b) := by
  unfold tor tnot tand
  by_cases h0 : a = 0 <;> by_cases h1 : a = 1 <;> by_cases g0 : b = 0 <;> by_cases g1 : b = 1 <;> simp_all
theorem vof_va (a : Int) : ∃ k n m b, vof a = va k n m b := by
  unfold vof
  split
  · exact ⟨_, _, _, _, rfl⟩
  · exact ⟨_, _, _, _, rfl⟩

end Go.Proofs.YtnpdecbgakgbgaaGreatDoor

namespace Go.Proofs.YtnpdecbgakgbgaaGreatDoor
open Go.RowKit Go.Shelf

def ren : Ren := ⟨fun | 129 => 243 | 134 => 228 | n => n, fun | 3 => 3 | 4 => 4 | 5 => 5 | 9 => 9 | 46 => 220 | 53 => 137 | n => n, fun n => n⟩

theorem lays134 : Lays.n134 Tryz.prog ren := {
  mixed := by kernel_rfl
  f129 := by kernel_rfl
  f134 := by kernel_rfl
  t3 := by kernel_rfl
  a3 := fun _ => by kernel_rfl
  z3 := fun _ => by kernel_rfl
  v3 := fun _ => by kernel_rfl
  t4 := by kernel_rfl
  a4 := fun _ => by kernel_rfl
  z4 := fun _ => by kernel_rfl
  v4 := fun _ => by kernel_rfl
  t5 := by kernel_rfl
  a5 := fun _ => by kernel_rfl
  z5 := fun _ => by kernel_rfl
  v5 := fun _ => by kernel_rfl
  t9 := by kernel_rfl
  a9 := fun _ => by kernel_rfl
  z9 := fun _ => by kernel_rfl
  v9 := fun _ => by kernel_rfl
  t46 := by kernel_rfl
  a46 := fun _ => by kernel_rfl
  z46 := fun _ => by kernel_rfl
  v46 := fun _ => by kernel_rfl
  t53 := by kernel_rfl
  a53 := fun _ => by kernel_rfl
  z53 := fun _ => by kernel_rfl
  v53 := fun _ => by kernel_rfl }

theorem bitLen_bounds : ∀ (k x : Nat), x ≤ k → 0 < x → x < 2 ^ 64 → 0 < Lib.bitLen x ∧ 2 ^ (Lib.bitLen x - 1) ≤ x ∧ x < 2 ^ Lib.bitLen x := by
  intro k
  induction k with
  | zero => intro x h h0 _; omega
  | succ k ih =>
    intro x h h0 h64
    rw [Lib.bitLen_half x (by omega) h64]
    by_cases h1 : x = 1
    · subst h1
      decide
    · obtain ⟨a, b, c⟩ := ih (x / 2) (by omega) (by omega) (by omega)
      generalize Lib.bitLen (x / 2) = m at *
      obtain ⟨j, rfl⟩ : ∃ j, m = j + 1 := ⟨m - 1, by omega⟩
      refine ⟨by omega, ?_, ?_⟩
      · rw [show 1 + (j + 1) - 1 = j + 1 by omega, Nat.pow_succ]
        rw [show j + 1 - 1 = j by omega] at b
        omega
      · rw [show 1 + (j + 1) = (j + 1) + 1 by omega, Nat.pow_succ]
        omega

/-- How far a word may be moved up: what is known of it. -/
theorem lead_any (y : Nat) (w : World) (h0 : 0 < y) (h1 : y < 18446744073709551616) :
    Calls Tryz.prog 228 #[.int .u64 (y : Int)] w fun e w' => ∃ s : Nat, e = .returned (.int .i64 (s : Int)) ∧ s < 64 ∧ 9223372036854775808 ≤ y * 2 ^ s ∧ y * 2 ^ s < 18446744073709551616 ∧ w = w' := by
  refine (Any.bits_LeadingZeros64 lays134 (y : Int) w (by omega) (by omega)).mono ?_
  rintro e w' ⟨rfl, rfl⟩
  rw [Int.toNat_natCast]
  obtain ⟨a, b, c⟩ := bitLen_bounds y y (Nat.le_refl _) h0 h1
  have l := Lib.bitLen_le y 64 (by decide) h1
  generalize Lib.bitLen y = m at *
  refine ⟨64 - m, by congr 2; omega, by omega, ?_, ?_, rfl⟩
  · have e : 2 ^ (m - 1) * 2 ^ (64 - m) = 9223372036854775808 := by rw [← Nat.pow_add, show m - 1 + (64 - m) = 63 by omega]
    rw [← e]
    exact Nat.mul_le_mul_right _ b
  · have e : 2 ^ m * 2 ^ (64 - m) = 18446744073709551616 := by rw [← Nat.pow_add, show m + (64 - m) = 64 by omega]
    rw [← e]
    exact Nat.mul_lt_mul_of_pos_right c (Nat.pow_pos (by decide))
end Go.Proofs.YtnpdecbgakgbgaaGreatDoor

namespace Go.Proofs.YtnpdecbgakgbgaaGreatDoor
open Go.RowKit

theorem cast_mul_pow (a s : Nat) : (a : Int) * 2 ^ s = ((a * 2 ^ s : Nat) : Int) := by simp
theorem or_up (a b s : Nat) (h : b < 2 ^ s) (h1 : a * 2 ^ s < 18446744073709551616) (hb : b < 18446744073709551616) : bits .or .u64 ((a * 2 ^ s : Nat) : Int) (b : Int) = ((a * 2 ^ s + b : Nat) : Int) := by
  rw [u64_or_nat _ _ h1 hb, Nat.mul_comm a, ← Nat.two_pow_add_eq_or_of_lt h a]

theorem div_names (hi lo y s : Nat) (hs : s < 64) (h1 : hi < y) (hl : lo < 18446744073709551616) (k1 : 9223372036854775808 ≤ y * 2 ^ s) (k2 : y * 2 ^ s < 18446744073709551616) :
    ∃ Y y1 y0 U V d1 d0 : Nat, IntKind.u64.wrap ((y : Int) * 2 ^ s) = (Y : Int) ∧ (Y : Int) / 4294967296 = (y1 : Int) ∧ bits .and .u64 (Y : Int) 4294967295 = (y0 : Int) ∧
      bits .or .u64 (IntKind.u64.wrap ((hi : Int) * 2 ^ s)) ((lo : Int) / 2 ^ (64 - s)) = (U : Int) ∧ IntKind.u64.wrap ((lo : Int) * 2 ^ s) = (V : Int) ∧ (V : Int) / 4294967296 = (d1 : Int) ∧ bits .and .u64 (V : Int) 4294967295 = (d0 : Int) ∧
      Y = y1 * 4294967296 + y0 ∧ y0 < 4294967296 ∧ d1 < 4294967296 ∧ d0 < 4294967296 ∧ y1 < 4294967296 ∧ 2147483648 ≤ y1 ∧ U < Y ∧ Y = y * 2 ^ s ∧ U * 18446744073709551616 + (d1 * 4294967296 + d0) = (hi * 18446744073709551616 + lo) * 2 ^ s := by
  have hp : 0 < 2 ^ s := Nat.pow_pos (by decide)
  have e64 : 2 ^ (64 - s) * 2 ^ s = 18446744073709551616 := by rw [← Nat.pow_add, show 64 - s + s = 64 by omega]
  have ed : lo * 2 ^ s / 18446744073709551616 = lo / 2 ^ (64 - s) := by rw [← e64, Nat.mul_div_mul_right _ _ hp]
  have hlt : lo / 2 ^ (64 - s) < 2 ^ s := by
    rw [Nat.div_lt_iff_lt_mul (Nat.pow_pos (by decide)), Nat.mul_comm, e64]; exact hl
  have hh : hi * 2 ^ s < 18446744073709551616 := Nat.lt_trans (Nat.mul_lt_mul_of_pos_right h1 hp) k2
  have hm := Nat.div_add_mod (lo * 2 ^ s) 18446744073709551616
  have hN : (hi * 2 ^ s + lo / 2 ^ (64 - s)) * 18446744073709551616 + lo * 2 ^ s % 18446744073709551616 = (hi * 18446744073709551616 + lo) * 2 ^ s := by
    rw [Nat.add_mul (hi * 2 ^ s), Nat.add_mul (hi * 18446744073709551616), ← ed]
    have : hi * 18446744073709551616 * 2 ^ s = hi * 2 ^ s * 18446744073709551616 := by rw [Nat.mul_right_comm]
    rw [this]
    generalize hi * 2 ^ s = A
    generalize lo * 2 ^ s = C at *
    omega
  have hup : (hi * 18446744073709551616 + lo) * 2 ^ s < y * 2 ^ s * 18446744073709551616 := by
    have : (hi * 18446744073709551616 + lo) * 2 ^ s < y * 18446744073709551616 * 2 ^ s := Nat.mul_lt_mul_of_pos_right (by omega) hp
    rwa [Nat.mul_right_comm] at this
  refine ⟨y * 2 ^ s, y * 2 ^ s / 4294967296, y * 2 ^ s % 4294967296, hi * 2 ^ s + lo / 2 ^ (64 - s), lo * 2 ^ s % 18446744073709551616, lo * 2 ^ s % 18446744073709551616 / 4294967296, lo * 2 ^ s % 18446744073709551616 % 4294967296, ?_⟩
  have cd : (lo : Int) / 2 ^ (64 - s) = ((lo / 2 ^ (64 - s) : Nat) : Int) := by simp
  rw [cast_mul_pow, cast_mul_pow, cast_mul_pow, cd]
  rw [show IntKind.u64.wrap ((hi * 2 ^ s : Nat) : Int) = ((hi * 2 ^ s : Nat) : Int) by rw [IntKind.wrap_u64]; omega]
  rw [show IntKind.u64.wrap ((y * 2 ^ s : Nat) : Int) = ((y * 2 ^ s : Nat) : Int) by rw [IntKind.wrap_u64]; omega]
  rw [or_up hi _ s hlt hh (Nat.lt_of_le_of_lt (Nat.div_le_self _ _) hl)]
  have mask : ∀ a : Nat, a < 18446744073709551616 → bits .and .u64 (a : Int) 4294967295 = ((a % 4294967296 : Nat) : Int) := by
    intro a ha
    have h := bits_and_u64_nat a 4294967295 ha (by omega)
    have e : a &&& 4294967295 = a % 4294967296 := Nat.and_two_pow_sub_one_eq_mod a 32
    rw [e] at h
    exact h
  refine ⟨rfl, by omega, mask _ k2, rfl, by rw [IntKind.wrap_u64]; omega, by omega, mask _ (by omega), by omega, by omega, by omega, by omega, by omega, by omega, ?_, rfl, ?_⟩
  · rw [← hN] at hup
    omega
  · rw [← hN]
    omega

/-- The names of a pass, at the loop's head. -/
theorem div_head (q r y1 y0 d : Nat) (hr : r < 4294967296) (hd : d < 4294967296) (hy1 : y1 < 4294967296) (hy0 : y0 < 4294967296) :
    ∃ b0 b g : Nat, IntKind.u64.wrap (4294967296 * (r : Int)) = (b0 : Int) ∧ IntKind.u64.wrap ((b0 : Int) + (d : Int)) = (b : Int) ∧ IntKind.u64.wrap ((r : Int) + (y1 : Int)) = (g : Int) ∧ b = 4294967296 * r + d ∧ g = r + y1 ∧
      (0 < q → q ≤ 4294967297 → ∃ p : Nat, IntKind.u64.wrap ((q : Int) - 1) = (p : Int) ∧ p = q - 1) ∧ (¬ 4294967296 ≤ q → ∃ a : Nat, IntKind.u64.wrap ((q : Int) * (y0 : Int)) = (a : Int) ∧ a = q * y0) := by
  refine ⟨4294967296 * r, 4294967296 * r + d, r + y1, by rw [IntKind.wrap_u64]; omega, by rw [IntKind.wrap_u64]; omega, by rw [IntKind.wrap_u64]; omega, rfl, rfl, ?_, ?_⟩
  · intro h h'
    exact ⟨q - 1, by rw [IntKind.wrap_u64]; omega, rfl⟩
  · intro h
    refine ⟨q * y0, ?_, rfl⟩
    have : q * y0 ≤ 4294967295 * 4294967295 := Nat.mul_le_mul (by omega) (by omega)
    rw [← Int.natCast_mul, IntKind.wrap_u64]
    omega

/-- What a quotient and a rest are at first. -/
theorem div_first (U d y1 y0 Y : Nat) (hY : Y = y1 * 4294967296 + y0) (hU : U < Y) (hd : d < 4294967296) (hy0 : y0 < 4294967296) (hy1 : y1 < 4294967296) (hy1' : 2147483648 ≤ y1) :
    ∃ q0 a0 r0 : Nat, IntKind.u64.wrap ((U : Int) / (y1 : Int)) = (q0 : Int) ∧ IntKind.u64.wrap ((q0 : Int) * (y1 : Int)) = (a0 : Int) ∧ IntKind.u64.wrap ((U : Int) - (a0 : Int)) = (r0 : Int) ∧ q0 ≤ 4294967297 ∧ r0 < 4294967296 ∧ DivInv U d y1 y0 q0 r0 := by
  have hdm := Nat.div_add_mod U y1
  have hq0 : U / y1 ≤ 4294967297 := by
    rw [Nat.div_le_iff_le_mul_add_pred (by omega)]; omega
  have hr0 : U % y1 < y1 := Nat.mod_lt U (by omega)
  have hI := div_start U d y1 y0 (by omega) hd
  rw [Nat.mul_comm] at hdm
  refine ⟨U / y1, U / y1 * y1, U % y1, ?_, ?_, ?_, hq0, by omega, hI⟩
  · rw [← Int.natCast_ediv, IntKind.wrap_u64]
    generalize U / y1 = m at *
    omega
  · rw [← Int.natCast_mul, IntKind.wrap_u64]
    generalize U / y1 * y1 = m at *
    omega
  · rw [IntKind.wrap_u64]
    generalize U / y1 * y1 = m at *
    omega

/-- What is left behind one digit. -/
theorem div_rest (U d y1 y0 Y q : Nat) (hY : Y = y1 * 4294967296 + y0) (hU : U < Y) (hY2 : Y < 18446744073709551616) (_hd : d < 4294967296) (hq : q = (U * 4294967296 + d) / (y1 * 4294967296 + y0)) :
    ∃ c1 c2 c3 T : Nat, IntKind.u64.wrap ((U : Int) * 4294967296) = (c1 : Int) ∧ IntKind.u64.wrap ((c1 : Int) + (d : Int)) = (c2 : Int) ∧ IntKind.u64.wrap ((q : Int) * (Y : Int)) = (c3 : Int) ∧ IntKind.u64.wrap ((c2 : Int) - (c3 : Int)) = (T : Int) ∧
      T = (U * 4294967296 + d) % Y ∧ T < Y := by
  rw [← hY] at hq
  have hdm := Nat.div_add_mod (U * 4294967296 + d) Y
  have hm := Nat.mod_lt (U * 4294967296 + d) (show 0 < Y by omega)
  rw [← hq, Nat.mul_comm] at hdm
  refine ⟨U * 4294967296 % 18446744073709551616, (U * 4294967296 + d) % 18446744073709551616, q * Y % 18446744073709551616, (U * 4294967296 + d) % Y, ?_, ?_, ?_, ?_, rfl, hm⟩
  · rw [IntKind.wrap_u64]; omega
  · rw [IntKind.wrap_u64]; omega
  · rw [← Int.natCast_mul, IntKind.wrap_u64]; omega
  · rw [IntKind.wrap_u64]
    generalize (U * 4294967296 + d) % Y = m at *
    generalize q * Y = A at *
    omega

/-- Both digits, and the rest moved down again. -/
theorem div_close (hi lo y s U d1 d0 y1 y0 Y T Q q c : Nat) (hY : Y = y1 * 4294967296 + y0) (hYs : Y = y * 2 ^ s) (hU : U < Y) (hd1 : d1 < 4294967296) (hd0 : d0 < 4294967296) (_hy : 0 < y) (hY2 : Y < 18446744073709551616)
    (hN : U * 18446744073709551616 + (d1 * 4294967296 + d0) = (hi * 18446744073709551616 + lo) * 2 ^ s) (hT : T = (U * 4294967296 + d1) % Y) (hQ : Q = (U * 4294967296 + d1) / (y1 * 4294967296 + y0))
    (hq : q = (T * 4294967296 + d0) / (y1 * 4294967296 + y0)) (hc : c = (T * 4294967296 + d0) % Y) :
    IntKind.u64.wrap (IntKind.u64.wrap ((Q : Int) * 4294967296) + (q : Int)) = (((hi * 18446744073709551616 + lo) / y : Nat) : Int) ∧ (c : Int) / 2 ^ s = (((hi * 18446744073709551616 + lo) % y : Nat) : Int) := by
  rw [← hY] at hQ hq
  have hYp : 0 < Y := by omega
  have h2 := div_two U d1 d0 Y hYp
  have hsh := div_shift (hi * 18446744073709551616 + lo) y s
  rw [← hT, ← hQ, ← hq, ← hc, hN, hYs, hsh.1] at h2
  have hTY : T < Y := by rw [hT]; exact Nat.mod_lt _ hYp
  have bQ : Q < 4294967296 := by rw [hQ]; exact digit_lt U d1 Y hU hd1
  have bq : q < 4294967296 := by rw [hq]; exact digit_lt T d0 Y hTY hd0
  refine ⟨?_, ?_⟩
  · rw [← h2.1, IntKind.wrap_u64, IntKind.wrap_u64]; omega
  · rw [← hsh.2, ← h2.2]; simp
theorem two_digits (Q q : Nat) (X : Int) (hQ : Q < 4294967296) (hq : q < 4294967296) (h : IntKind.u64.wrap (IntKind.u64.wrap ((Q : Int) * 4294967296) + (q : Int)) = X) :
    IntKind.u64.wrap ((Q : Int) * 4294967296 + (q : Int)) = X ∧ (Q : Int) * 4294967296 + (q : Int) = X := by
  simp only [IntKind.wrap_u64] at h ⊢
  omega
theorem digit_lt' (U d y1 y0 Y q : Nat) (hY : Y = y1 * 4294967296 + y0) (hU : U < Y) (hd : d < 4294967296) (hq : q = (U * 4294967296 + d) / (y1 * 4294967296 + y0)) : q < 4294967296 := by
  rw [hq, ← hY]; exact digit_lt U d Y hU hd
end Go.Proofs.YtnpdecbgakgbgaaGreatDoor
