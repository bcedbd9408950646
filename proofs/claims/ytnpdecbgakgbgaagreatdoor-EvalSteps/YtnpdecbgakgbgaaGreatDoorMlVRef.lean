/-
  The listed table of powers as the walks ask for it.
  Points of the plane with whole coordinates as numbers: the nearest quotient, the rest and their sizes. Nothing of the program is in it.
  The contract of the document's Good: whether a text is good UTF-8, as the library's ValidString tells it.
  The contracts of the document's Right and Same.
-/
import Derived.Test.YtnpdecbgakgbgaaGreatDoorMiVCmp
import Derived.Test.YtnpdecbgakgbgaaGreatDoorVCmp2
import Derived.WalkKit
import Derived.Test.YtnpdecbgakgbgaaGreatDoorProg
import Derived.WalkMore
import Derived.WalkSpells
import Derived.WalkLawsBesides
import Derived.RowKit
import Derived.Below
import Derived.Laws.RangeAny
import Derived.Lib.TrimUEq
import Derived.Lib.ValidLaws
import Derived.Lib.OthersKept
import Derived.Laws.IdiomStrings
import Derived.Test.YtnpdecbgakgbgaaGreatDoorMgJumps
namespace Go.Proofs.YtnpdecbgakgbgaaGreatDoor
open Go.ChangeShapes Go.WideShapes Go.ChangeAt Go.WideMaps Go.WideElems Go.RowKit Go.Shelf Go.Lib

def powN : List Int := [1, 10, 100, 1000, 10000, 100000, 1000000, 10000000, 100000000, 1000000000, 10000000000, 100000000000, 1000000000000]
theorem pow_cells : ∀ k : Nat, k < 13 → (powN.map (Value.int .i64)).toArray[k]? = some (.int .i64 ((10 ^ k : Nat) : Int)) := by
  intro k hk
  match k, hk with
  | 0, _ => rfl
  | 1, _ => rfl
  | 2, _ => rfl
  | 3, _ => rfl
  | 4, _ => rfl
  | 5, _ => rfl
  | 6, _ => rfl
  | 7, _ => rfl
  | 8, _ => rfl
  | 9, _ => rfl
  | 10, _ => rfl
  | 11, _ => rfl
  | 12, _ => rfl

theorem pw_of {W : World} (h : VarReads Tryz.prog W "longstop/decimal.powers" Rows.laid_longstop_decimal_powers) : Pw W := by
  have gP : Tryz.prog.globalNamed "longstop/decimal.powers" = some 1 := by kernel_rfl
  have tP : (Tryz.prog.globals[1]?).map (·.type) = some 187 := by kernel_rfl
  have e : (Rows.laid_longstop_decimal_powers : DataW Unit) = Lib.tabData .i64 powN := by kernel_rfl
  rw [e] at h
  obtain ⟨g, t, cs, fuel, p, hg, hty, hvar, hd⟩ := h
  obtain rfl := Option.some.inj (gP.symm.trans hg)
  obtain rfl := Option.some.inj (tP.symm.trans hty)
  have hcs := Lib.cells_of_tab Tryz.underlying187 Tryz.underlying3 (by kernel_rfl) (by kernel_rfl) hd
  intro k hk
  have hc := World.var?_cell hg hvar k
  rw [hc, ← pow_cells k hk]
  have : cs = (powN.map (Value.int .i64)).toArray := by
    rw [← Array.toArray_toList (xs := cs), hcs]
  rw [this]
end Go.Proofs.YtnpdecbgakgbgaaGreatDoor

namespace Go.Proofs.YtnpdecbgakgbgaaGreatDoor.Ga

theorem mul_bdp {x u A B : Int} (hA : 0 ≤ A) (x1 : -A ≤ x) (x2 : x ≤ A) (u1 : -B ≤ u) (u2 : u ≤ B) : -(A * B) ≤ x * u ∧ x * u ≤ A * B := by
  have hB : 0 ≤ B := by omega
  have h1 : (x * u).natAbs ≤ A.natAbs * B.natAbs := by rw [Int.natAbs_mul]; exact Nat.mul_le_mul (by omega) (by omega)
  have h2 : ((A.natAbs * B.natAbs : Nat) : Int) = A * B := by rw [Int.natCast_mul, Int.natAbs_of_nonneg hA, Int.natAbs_of_nonneg hB]
  omega

/-- The nearest whole number, of two as near the greater one. -/
def nst (o u : Int) : Int := (2 * o + u) / (2 * u)

theorem nst_bd (o n : Int) (hn : 0 < n) : 2 * (n * nst o n) ≤ 2 * o + n ∧ 2 * o < 2 * (n * nst o n) + n := by
  unfold nst
  have h1 := Int.mul_ediv_add_emod (2 * o + n) (2 * n)
  have h2 := Int.emod_nonneg (2 * o + n) (show 2 * n ≠ 0 by omega)
  have h3 := Int.emod_lt_of_pos (2 * o + n) (show 0 < 2 * n by omega)
  rw [Int.mul_assoc] at h1
  omega
/-- An exact quotient is told as it is. -/
theorem nst_exact (c n : Int) (hn : 0 < n) : nst (n * c) n = c := by
  obtain ⟨h1, h2⟩ := nst_bd (n * c) n hn
  generalize nst (n * c) n = q at *
  have h3 : n * (q - c) = n * q - n * c := Int.mul_sub n q c
  rcases Int.lt_trichotomy q c with h | h | h
  · have : n * (q - c) ≤ n * (-1) := Int.mul_le_mul_of_nonneg_left (by omega) (by omega)
    omega
  · exact h
  · have : n * 1 ≤ n * (q - c) := Int.mul_le_mul_of_nonneg_left (by omega) (by omega)
    omega

theorem sq_le {r A : Int} (hA : 0 ≤ A) (h : r * r ≤ A * A) : -A ≤ r ∧ r ≤ A := by
  have h1 : r.natAbs * r.natAbs ≤ A.natAbs * A.natAbs := by
    have e1 := Int.natAbs_mul_self (a := r)
    have e2 := Int.natAbs_mul_self (a := A)
    have : ((r.natAbs * r.natAbs : Nat) : Int) ≤ ((A.natAbs * A.natAbs : Nat) : Int) := by rw [e1, e2]; exact h
    exact_mod_cast this
  have := Nat.mul_self_le_mul_self_iff.1 h1
  omega
theorem sq_nn (r : Int) : 0 ≤ r * r := by
  have e1 := Int.natAbs_mul_self (a := r)
  have : 0 ≤ ((r.natAbs * r.natAbs : Nat) : Int) := Int.natCast_nonneg _
  push_cast at this
  omega
theorem norm_zero {u v : Int} (h : u * u + v * v = 0) : u = 0 ∧ v = 0 := by
  have h1 := sq_nn u
  have h2 := sq_nn v
  have a := sq_le (r := u) (A := 0) (by decide) (by omega)
  have b := sq_le (r := v) (A := 0) (by decide) (by omega)
  omega
theorem norm_pos {u v : Int} (h : ¬ (u = 0 ∧ v = 0)) : 0 < u * u + v * v := by
  have h1 := sq_nn u
  have h2 := sq_nn v
  rcases Int.lt_or_le 0 (u * u + v * v) with h' | h'
  · exact h'
  · exact absurd (norm_zero (u := u) (v := v) (by omega)) h

/-- The quotient of two points and the rest. -/
def qX (x y u v : Int) : Int := nst (x * u + y * v) (u * u + v * v)
def qY (x y u v : Int) : Int := nst (y * u - x * v) (u * u + v * v)
def rX (x y u v : Int) : Int := x - (u * qX x y u v - v * qY x y u v)
def rY (x y u v : Int) : Int := y - (u * qY x y u v + v * qX x y u v)

/-- The rest's norm is at most half of the divisor's. -/
theorem rest_half (x y u v : Int) (h : 0 < u * u + v * v) : 2 * (rX x y u v * rX x y u v + rY x y u v * rY x y u v) ≤ u * u + v * v := by
  obtain ⟨a1, a2⟩ := nst_bd (x * u + y * v) (u * u + v * v) h
  obtain ⟨b1, b2⟩ := nst_bd (y * u - x * v) (u * u + v * v) h
  unfold rX rY
  rw [show nst (x * u + y * v) (u * u + v * v) = qX x y u v from rfl] at a1 a2
  rw [show nst (y * u - x * v) (u * u + v * v) = qY x y u v from rfl] at b1 b2
  generalize qX x y u v = c at *
  generalize qY x y u v = d at *
  have m1 := mul_bdp (x := 2 * ((x * u + y * v) - (u * u + v * v) * c)) (u := 2 * ((x * u + y * v) - (u * u + v * v) * c)) (A := u * u + v * v) (B := u * u + v * v) (by omega) (by omega) (by omega) (by omega) (by omega)
  have m2 := mul_bdp (x := 2 * ((y * u - x * v) - (u * u + v * v) * d)) (u := 2 * ((y * u - x * v) - (u * u + v * v) * d)) (A := u * u + v * v) (B := u * u + v * v) (by omega) (by omega) (by omega) (by omega) (by omega)
  have id : 2 * ((x * u + y * v) - (u * u + v * v) * c) * (2 * ((x * u + y * v) - (u * u + v * v) * c)) + 2 * ((y * u - x * v) - (u * u + v * v) * d) * (2 * ((y * u - x * v) - (u * u + v * v) * d))
      = (u * u + v * v) * (4 * ((x - (u * c - v * d)) * (x - (u * c - v * d)) + (y - (u * d + v * c)) * (y - (u * d + v * c)))) := by grind
  have k : (u * u + v * v) * (4 * ((x - (u * c - v * d)) * (x - (u * c - v * d)) + (y - (u * d + v * c)) * (y - (u * d + v * c)))) ≤ (u * u + v * v) * (2 * (u * u + v * v)) := by
    rw [← id]
    have : (u * u + v * v) * (2 * (u * u + v * v)) = (u * u + v * v) * (u * u + v * v) + (u * u + v * v) * (u * u + v * v) := by grind
    omega
  have := Int.le_of_mul_le_mul_left k h
  omega

theorem unit_cases {u v : Int} (h : u * u + v * v = 1) : (u = 1 ∧ v = 0) ∨ (u = -1 ∧ v = 0) ∨ (u = 0 ∧ v = 1) ∨ (u = 0 ∧ v = -1) := by
  have h1 := sq_nn u
  have h2 := sq_nn v
  have a := sq_le (r := u) (A := 1) (by decide) (by omega)
  have b := sq_le (r := v) (A := 1) (by decide) (by omega)
  have ha : u = -1 ∨ u = 0 ∨ u = 1 := by omega
  have hb : v = -1 ∨ v = 0 ∨ v = 1 := by omega
  rcases ha with rfl | rfl | rfl <;> rcases hb with rfl | rfl | rfl <;> simp_all

theorem quo_bd1 (o n A : Int) (hn : 0 < n) (h1 : -(A * n) ≤ o) (h2 : o ≤ A * n) : -A ≤ nst o n ∧ nst o n ≤ A := by
  obtain ⟨a1, a2⟩ := nst_bd o n hn
  generalize nst o n = c at *
  constructor
  · rcases Int.lt_or_le c (-A) with h | h
    · have : n * c ≤ n * (-A - 1) := Int.mul_le_mul_of_nonneg_left (by omega) (by omega)
      have e : n * (-A - 1) = -(A * n) - n := by grind
      omega
    · exact h
  · rcases Int.lt_or_le A c with h | h
    · have : n * (A + 1) ≤ n * c := Int.mul_le_mul_of_nonneg_left (by omega) (by omega)
      have e : n * (A + 1) = A * n + n := by grind
      omega
    · exact h

/-- The quotient and the rest of two points that may be may be. -/
theorem quo_ok (x y u v : Int) (hx : -1048576 ≤ x ∧ x ≤ 1048576) (hy : -1048576 ≤ y ∧ y ≤ 1048576) (h : 0 < u * u + v * v) :
    (-1048576 ≤ qX x y u v ∧ qX x y u v ≤ 1048576) ∧ (-1048576 ≤ qY x y u v ∧ qY x y u v ≤ 1048576) := by
  by_cases h1 : u * u + v * v = 1
  · unfold qX qY
    rw [h1]
    rcases unit_cases h1 with ⟨rfl, rfl⟩ | ⟨rfl, rfl⟩ | ⟨rfl, rfl⟩ | ⟨rfl, rfl⟩ <;> unfold nst <;> omega
  · have mx := mul_bdp (A := 1048576) (B := 1048576) (by decide) hx.1 hx.2 hx.1 hx.2
    have my := mul_bdp (A := 1048576) (B := 1048576) (by decide) hy.1 hy.2 hy.1 hy.2
    have id : (x * u + y * v) * (x * u + y * v) + (y * u - x * v) * (y * u - x * v) = (x * x + y * y) * (u * u + v * v) := by grind
    have s1 := sq_nn (x * u + y * v)
    have s2 := sq_nn (y * u - x * v)
    have hb : (x * x + y * y) * (u * u + v * v) ≤ (1048576 * (u * u + v * v)) * (1048576 * (u * u + v * v)) := by
      have e1 : (x * x + y * y) * (u * u + v * v) ≤ 2199023255552 * (u * u + v * v) := Int.mul_le_mul_of_nonneg_right (by omega) (by omega)
      have e2 : 2199023255552 * (u * u + v * v) ≤ (1099511627776 * (u * u + v * v)) * (u * u + v * v) := by
        have : 2 * (1099511627776 * (u * u + v * v)) ≤ (u * u + v * v) * (1099511627776 * (u * u + v * v)) := Int.mul_le_mul_of_nonneg_right (by omega) (by omega)
        have e : (u * u + v * v) * (1099511627776 * (u * u + v * v)) = (1099511627776 * (u * u + v * v)) * (u * u + v * v) := Int.mul_comm _ _
        omega
      have e3 : (1048576 * (u * u + v * v)) * (1048576 * (u * u + v * v)) = (1099511627776 * (u * u + v * v)) * (u * u + v * v) := by grind
      omega
    have k1 := sq_le (r := x * u + y * v) (A := 1048576 * (u * u + v * v)) (by omega) (by omega)
    have k2 := sq_le (r := y * u - x * v) (A := 1048576 * (u * u + v * v)) (by omega) (by omega)
    exact ⟨quo_bd1 _ _ 1048576 h k1.1 k1.2, quo_bd1 _ _ 1048576 h k2.1 k2.2⟩

theorem rest_ok (x y u v : Int) (hu : -1048576 ≤ u ∧ u ≤ 1048576) (hv : -1048576 ≤ v ∧ v ≤ 1048576) (h : 0 < u * u + v * v) :
    (-1048576 ≤ rX x y u v ∧ rX x y u v ≤ 1048576) ∧ (-1048576 ≤ rY x y u v ∧ rY x y u v ≤ 1048576) := by
  have hh := rest_half x y u v h
  have mu := mul_bdp (A := 1048576) (B := 1048576) (by decide) hu.1 hu.2 hu.1 hu.2
  have mv := mul_bdp (A := 1048576) (B := 1048576) (by decide) hv.1 hv.2 hv.1 hv.2
  have s1 := sq_nn (rX x y u v)
  have s2 := sq_nn (rY x y u v)
  exact ⟨sq_le (A := 1048576) (by decide) (by omega), sq_le (A := 1048576) (by decide) (by omega)⟩
end Go.Proofs.YtnpdecbgakgbgaaGreatDoor.Ga

namespace Go.Proofs.YtnpdecbgakgbgaaGreatDoor
open Go.RowKit

theorem bad_rune (l : List UInt8) (hne : l ≠ []) (hr : (Lib.decodeL l).1 = 65533) : (Lib.decodeL l).2 = 1 ↔ (l.length < 3 ∨ l.take 3 ≠ [239, 191, 189]) := by
  rw [Lib.decodeL_N] at hr ⊢
  have b0 := (l.getD 0 0).toNat_lt
  have b1 := (l.getD 1 0).toNat_lt
  have b2 := (l.getD 2 0).toNat_lt
  have b3 := (l.getD 3 0).toNat_lt
  have key : l.take 3 = [239, 191, 189] ↔ (3 ≤ l.length ∧ (l.getD 0 0).toNat = 239 ∧ (l.getD 1 0).toNat = 191 ∧ (l.getD 2 0).toNat = 189) := by
    match l with
    | [] => simp
    | [a] => simp
    | [a, b] => simp
    | a :: b :: c :: l =>
      simp only [List.take_succ_cons, List.take_zero, List.cons.injEq, and_true, List.length_cons, List.getD_cons_zero, List.getD_cons_succ]
      constructor
      · rintro ⟨rfl, rfl, rfl⟩; exact ⟨by omega, rfl, rfl, rfl⟩
      · rintro ⟨_, h0, h1, h2⟩; exact ⟨UInt8.toNat_inj.1 h0, UInt8.toNat_inj.1 h1, UInt8.toNat_inj.1 h2⟩
  rw [Ne, key]
  have hl : 0 < l.length := List.length_pos_iff.2 hne
  generalize (l.getD 0 0).toNat = a at *
  generalize (l.getD 1 0).toNat = b at *
  generalize (l.getD 2 0).toNat = c at *
  generalize (l.getD 3 0).toNat = d at *
  generalize l.length = n at *
  clear key
  unfold Lib.decodeN at hr ⊢
  split at hr
  · rename_i h; exfalso; simp only at hr; omega
  rename_i h
  rw [if_neg h]
  split at hr
  · rename_i h'
    rw [if_pos h']
    split at hr
    · exfalso; simp only at hr; omega
    · rename_i h''; rw [if_neg h'']
      refine ⟨fun _ => ?_, fun _ => rfl⟩
      by_cases hn : 3 ≤ n ∧ a = 239 ∧ b = 191 ∧ c = 189
      · exfalso; obtain ⟨h4, rfl, rfl, rfl⟩ := hn; omega
      · exact .inr hn
  rename_i h'
  rw [if_neg h']
  split at hr
  · rename_i h2
    rw [if_pos h2]
    split at hr
    · rename_i h''; rw [if_pos h'']
      simp only at hr
      refine ⟨fun h => by simp at h, fun h => ?_⟩
      exfalso
      rcases h with h | h
      · omega
      · exact h ⟨by omega, by omega, by omega, by omega⟩
    · rename_i h''; rw [if_neg h'']
      refine ⟨fun _ => ?_, fun _ => rfl⟩
      by_cases hn : 3 ≤ n ∧ a = 239 ∧ b = 191 ∧ c = 189
      · exfalso; obtain ⟨h4, rfl, rfl, rfl⟩ := hn; omega
      · exact .inr hn
  rename_i h2
  rw [if_neg h2]
  split at hr
  · rename_i h3
    rw [if_pos h3]
    split at hr
    · exfalso; simp only at hr; omega
    · rename_i h''; rw [if_neg h'']
      refine ⟨fun _ => ?_, fun _ => rfl⟩
      by_cases hn : 3 ≤ n ∧ a = 239 ∧ b = 191 ∧ c = 189
      · exfalso; obtain ⟨h4, rfl, rfl, rfl⟩ := hn; omega
      · exact .inr hn
  rename_i h3
  rw [if_neg h3]
  refine ⟨fun _ => ?_, fun _ => rfl⟩
  by_cases hn : 3 ≤ n ∧ a = 239 ∧ b = 191 ∧ c = 189
  · exfalso; obtain ⟨h4, rfl, rfl, rfl⟩ := hn; omega
  · exact .inr hn

theorem extract3 (s : ByteArray) (pos : Nat) (_h : pos + 3 ≤ s.size) : (s.extract pos (pos + 3)).toList = (s.data.toList.drop pos).take 3 := by
  rw [ByteArray.toList_eq]
  simp [ByteArray.data_extract]

set_option maxHeartbeats 1000000 in
theorem good_any (s : ByteArray) (w : World) (hs : s.size ≤ 140737488351232) : Calls Tryz.prog 77 #[.string s] w fun e w' => e = .returned (.bool (Lib.validD s.data.toList)) ∧ Below w.heap.size w w' := by
  obtain ⟨V, hV⟩ : ∃ V, V = Lib.validD s.data.toList := ⟨_, rfl⟩
  rw [← hV]
  have hsz : s.data.toList.length = s.size := rfl
  have bel : ∀ pos, Below w.heap.size w (w.iter s pos) := fun pos => (Below.refl _ w).alloc (Nat.le_refl _) _
  go_enter Tryz.func77, Tryz.ntmps77
  go_wp2
  go_loopw [7] (fun _ wr => ∃ pos : Nat, wr = w.iter s pos ∧ pos ≤ s.size ∧ Hid (Lib.validD (s.data.toList.drop pos) = V)) (fun _ wr => s.size - wr.iterPos w.heap.size)
  case atStart => exact ⟨0, rfl, Nat.zero_le _, hV.symm⟩
  case round =>
    obtain ⟨pos, rfl, hp0, HV⟩ := hrel
    by_cases hp : pos < s.size
    · have hne : s.data.toList.drop pos ≠ [] := by
        intro h
        have := congrArg List.length h
        simp at this
        omega
      have hdd := Lib.decodeL_drop s pos
      have hst := Lib.validD_step _ hne
      have hwd := Lib.decodeL_width (s.data.toList.drop pos)
      have hle := Lib.decodeL_le _ hne
      rw [List.length_drop, hsz] at hle
      have hbr := bad_rune _ hne
      have hdl : (s.data.toList.drop pos).length = s.size - pos := by simp
      have hnx : ∀ ty, (Instr.next (.pointer (some ⟨w.heap.size, 0, none⟩)) true ty).run Tryz.prog (w.iter s pos) = _ := fun ty => run_next_any w s pos ty hp
      rw [hdd] at hst hwd hle hbr
      rw [List.drop_drop] at hst
      generalize Utf8.decode s pos = d at *
      obtain ⟨c, n⟩ := d
      simp only at hnx hst hwd hle hbr
      by_cases hc : c = 65533
      · subst hc
        by_cases h3 : s.size < pos + 3
        · have h3' : (s.size : Int) < (pos : Int) + 3 := by omega
          have HF : Hid (V = false) := by
            show V = false
            rw [← HV.out, hst, if_pos ⟨rfl, (hbr rfl).2 (.inl (by omega))⟩]
          clear hdd hst hbr hV HV hne hdl
          go_wp2
          go_ret
          exact ⟨by rw [HF.out]; rfl, bel _⟩
        · have h3' : ¬ (s.size : Int) < (pos : Int) + 3 := by omega
          have h3n : pos + 3 ≤ s.size := by omega
          have h3z : (pos : Int) + 3 ≤ (s.size : Int) := by omega
          have hx := extract3 s pos h3n
          by_cases he : (s.data.toList.drop pos).take 3 = [239, 191, 189]
          · have hx' : ((s.extract pos (pos + 3)).toList == [239, 191, 189]) = true := by rw [hx, he]; rfl
            have hn1 : n ≠ 1 := fun h => by
              rcases (hbr rfl).1 h with h | h
              · omega
              · exact h he
            have HV' : Hid (Lib.validD (s.data.toList.drop (pos + n)) = V) := by
              show _ = _
              rw [← HV.out, hst, if_neg (fun h => hn1 h.2)]
            clear hdd hst hbr hV HV hne hdl hx he
            go_wp2
            go_roundw
            case rel => exact ⟨pos + n, rfl, by omega, HV'⟩
            case measure => simp; omega
          · have hx' : ((s.extract pos (pos + 3)).toList == [239, 191, 189]) = false := by rw [hx]; exact beq_eq_false_iff_ne.2 he
            have HF : Hid (V = false) := by
              show V = false
              rw [← HV.out, hst, if_pos ⟨rfl, (hbr rfl).2 (.inr he)⟩]
            clear hdd hst hbr hV HV hne hdl hx he
            go_wp2
            go_ret
            exact ⟨by rw [HF.out]; rfl, bel _⟩
      · have hc' : ((c : Int) == 65533) = false := by rw [beq_eq_false_iff_ne]; omega
        have HV' : Hid (Lib.validD (s.data.toList.drop (pos + n)) = V) := by
          show _ = _
          rw [← HV.out, hst, if_neg (fun h => hc h.1)]
        clear hdd hst hbr hV HV hne hdl hc
        go_wp2
        go_roundw
        case rel => exact ⟨pos + n, rfl, by omega, HV'⟩
        case measure => simp; omega
    · have hnx : ∀ ty, (Instr.next (.pointer (some ⟨w.heap.size, 0, none⟩)) true ty).run Tryz.prog (w.iter s pos) = _ := fun ty => run_next_end w s pos ty hp
      have HF : Hid (V = true) := by
        show V = true
        rw [← HV.out, List.drop_eq_nil_of_le (by omega)]
        rfl
      clear hV HV
      go_wp2
      go_ret
      exact ⟨by rw [HF.out]; rfl, bel _⟩
end Go.Proofs.YtnpdecbgakgbgaaGreatDoor

namespace Go.Proofs.YtnpdecbgakgbgaaGreatDoor
open Go.RowKit Go.Shelf
attribute [local go_sem] cell?_more frozen?_more setCell_more more_lt more_more more_drew more_drewN setCell_drewN alloc_drewN

theorem emptyE (b : ByteArray) : b.toList.isEmpty = (b.data.toList == []) := by
  rw [Lib.toList_data]
  cases b.data.toList <;> rfl

theorem rpoint_any (x y : Int) (w : World) : Calls Tryz.prog 75 #[dv x y] w fun e w' => e = .returned (.bool (ok1 x && ok1 y)) ∧ Grew w w' := by
  go_enter Tryz.func75, Tryz.ntmps75
  go_wp2
  all_goals go_ret
  all_goals refine ⟨ret_bool ?_, (by repeat (first | exact Grew.refl _ | apply Grew.drew | apply Grew.drewN | apply Grew.alloc | apply Grew.more))⟩
  all_goals simp_all [ok1]
  all_goals try omega

set_option maxHeartbeats 1000000 in
theorem rright_0 (n m : Int) (b : ByteArray) (w : World) : Calls Tryz.prog 26 #[va 0 n m b] w fun e w' => e = .returned (.bool (vrt 0 n m b)) ∧ Below w.heap.size w w' := by
  go_enter Tryz.func26, Tryz.ntmps26
  go_wp2
  all_goals go_ret
  all_goals refine ⟨ret_bool ?_, Grew.below (by repeat (first | exact Grew.refl _ | apply Grew.drew | apply Grew.drewN | apply Grew.alloc | apply Grew.more))⟩
  all_goals simp_all [vrt, vft, emptyE]

set_option maxHeartbeats 1000000 in
theorem rright_1 (n m : Int) (b : ByteArray) (w : World) : Calls Tryz.prog 26 #[va 1 n m b] w fun e w' => e = .returned (.bool (vrt 1 n m b)) ∧ Below w.heap.size w w' := by
  go_enter Tryz.func26, Tryz.ntmps26
  go_wp2
  all_goals go_ret
  all_goals refine ⟨ret_bool ?_, Grew.below (by repeat (first | exact Grew.refl _ | apply Grew.drew | apply Grew.drewN | apply Grew.alloc | apply Grew.more))⟩
  all_goals simp_all [vrt, vft, emptyE]

set_option maxHeartbeats 1000000 in
theorem rright_2 (n m : Int) (b : ByteArray) (w : World) : Calls Tryz.prog 26 #[va 2 n m b] w fun e w' => e = .returned (.bool (vrt 2 n m b)) ∧ Below w.heap.size w w' := by
  go_enter Tryz.func26, Tryz.ntmps26
  go_wp2
  all_goals go_ret
  all_goals refine ⟨ret_bool ?_, Grew.below (by repeat (first | exact Grew.refl _ | apply Grew.drew | apply Grew.drewN | apply Grew.alloc | apply Grew.more))⟩
  all_goals simp [vrt, vft, emptyE, rightS]
  all_goals first | omega | (simp_all; try omega)

set_option maxHeartbeats 1000000 in
theorem rright_4 (n m : Int) (b : ByteArray) (w : World) : Calls Tryz.prog 26 #[va 4 n m b] w fun e w' => e = .returned (.bool (vrt 4 n m b)) ∧ Below w.heap.size w w' := by
  go_enter Tryz.func26, Tryz.ntmps26
  go_wp2
  all_goals go_ret
  all_goals refine ⟨ret_bool ?_, Grew.below (by repeat (first | exact Grew.refl _ | apply Grew.drew | apply Grew.drewN | apply Grew.alloc | apply Grew.more))⟩
  all_goals simp_all [vrt, vft, emptyE]

set_option maxHeartbeats 1000000 in
theorem rright_5 (n m : Int) (b : ByteArray) (w : World) : Calls Tryz.prog 26 #[va 5 n m b] w fun e w' => e = .returned (.bool (vrt 5 n m b)) ∧ Below w.heap.size w w' := by
  have R := fun W => rpoint_any n m W
  have hv : vrt 5 n m b = ((ok1 n && ok1 m) && (b.data.toList == [])) := by simp [vrt, vft, Bool.and_comm]
  rw [hv]
  generalize (ok1 n && ok1 m) = g at *
  clear hv
  cases g
  all_goals
    go_enter Tryz.func26, Tryz.ntmps26
    go_wp2_with (go_at_call 75; refine (R _).mono ?_; rintro e w1 ⟨rfl, os1, n1, rfl⟩)
    all_goals go_ret
    all_goals refine ⟨ret_bool ?_, Grew.below (by repeat (first | exact Grew.refl _ | apply Grew.drew | apply Grew.drewN | apply Grew.alloc | apply Grew.more))⟩
    all_goals simp [emptyE]

set_option maxHeartbeats 1000000 in
theorem rright_3 (n m : Int) (b : ByteArray) (w : World) : Calls Tryz.prog 26 #[va 3 n m b] w fun e w' => e = .returned (.bool (vrt 3 n m b)) ∧ Below w.heap.size w w' := by
  by_cases hn : n = 0
  · subst hn
    by_cases hm : m = 0
    · subst hm
      by_cases hb : b.size ≤ 256
      · have V := fun W => good_any b W (by omega)
        have hv : vrt 3 0 0 b = Lib.validD b.data.toList := by simp [vrt, vft, hb]
        rw [hv]
        have hb' : (b.size : Int) ≤ 256 := by omega
        generalize Lib.validD b.data.toList = g at *
        clear hv hb
        go_enter Tryz.func26, Tryz.ntmps26
        go_wp2_with (go_at_call 77; refine (V _).mono ?_; rintro e w1 ⟨rfl, bb1⟩)
        all_goals go_ret
        all_goals exact ⟨rfl, below_trans (Grew.below (by repeat (first | exact Grew.refl _ | apply Grew.drew | apply Grew.drewN | apply Grew.alloc | apply Grew.more))) bb1⟩
      · have hv : vrt 3 0 0 b = false := by simp [vrt, vft, hb]
        rw [hv]
        have hb' : ¬ (b.size : Int) ≤ 256 := by omega
        clear hv hb
        go_enter Tryz.func26, Tryz.ntmps26
        go_wp2
        all_goals go_ret
        all_goals exact ⟨rfl, Grew.below (by repeat (first | exact Grew.refl _ | apply Grew.drew | apply Grew.drewN | apply Grew.alloc | apply Grew.more))⟩
    · have hv : vrt 3 0 m b = false := by simp [vrt, hm]
      have hm' : (m == 0) = false := by simpa using hm
      rw [hv]
      clear hv hm
      go_enter Tryz.func26, Tryz.ntmps26
      go_wp2
      all_goals go_ret
      all_goals exact ⟨rfl, Grew.below (by repeat (first | exact Grew.refl _ | apply Grew.drew | apply Grew.drewN | apply Grew.alloc | apply Grew.more))⟩
  · have hv : vrt 3 n m b = false := by simp [vrt, hn]
    have hn' : (n == 0) = false := by simpa using hn
    rw [hv]
    clear hv hn
    go_enter Tryz.func26, Tryz.ntmps26
    go_wp2
    all_goals go_ret
    all_goals exact ⟨rfl, Grew.below (by repeat (first | exact Grew.refl _ | apply Grew.drew | apply Grew.drewN | apply Grew.alloc | apply Grew.more))⟩

set_option maxHeartbeats 1000000 in
theorem rright_o (k : Int) (n m : Int) (b : ByteArray) (w : World) (h0 : k ≠ 0) (h1 : k ≠ 1) (h2 : k ≠ 2) (h3 : k ≠ 3) (h4 : k ≠ 4) (h5 : k ≠ 5) : Calls Tryz.prog 26 #[va k n m b] w fun e w' => e = .returned (.bool (vrt k n m b)) ∧ Below w.heap.size w w' := by
  have c0 : (k == 0) = false := by simpa using h0
  have c1 : (k == 1) = false := by simpa using h1
  have c2 : (k == 2) = false := by simpa using h2
  have c3 : (k == 3) = false := by simpa using h3
  have c4 : (k == 4) = false := by simpa using h4
  have c5 : (k == 5) = false := by simpa using h5
  have hv : vrt k n m b = false := by simp [vrt, vft, h0, h1, h2, h3, h4, h5]
  rw [hv]
  clear hv
  go_enter Tryz.func26, Tryz.ntmps26
  go_wp2
  all_goals go_ret
  all_goals exact ⟨rfl, Grew.below (by repeat (first | exact Grew.refl _ | apply Grew.drew | apply Grew.drewN | apply Grew.alloc | apply Grew.more))⟩

/-- The document's Right says what the program's does. -/
theorem rright_any (k n m : Int) (b : ByteArray) (w : World) : Calls Tryz.prog 26 #[va k n m b] w fun e w' => e = .returned (.bool (vrt k n m b)) ∧ Below w.heap.size w w' := by
  by_cases h0 : k = 0
  · subst h0; exact rright_0 n m b w
  by_cases h1 : k = 1
  · subst h1; exact rright_1 n m b w
  by_cases h2 : k = 2
  · subst h2; exact rright_2 n m b w
  by_cases h3 : k = 3
  · subst h3; exact rright_3 n m b w
  by_cases h4 : k = 4
  · subst h4; exact rright_4 n m b w
  by_cases h5 : k = 5
  · subst h5; exact rright_5 n m b w
  exact rright_o k n m b w h0 h1 h2 h3 h4 h5

set_option maxHeartbeats 1000000 in
theorem rsame_any (k n m : Int) (b : ByteArray) (k' n' m' : Int) (b' : ByteArray) (w : World) :
    Calls Tryz.prog 19 #[va k n m b, va k' n' m' b'] w fun e w' => e = .returned (.bool (k == k' && (n == n' && (m == m' && b.toList == b'.toList)))) ∧ Grew w w' := by
  go_enter Tryz.func19, Tryz.ntmps19
  go_wp2
  all_goals go_ret
  all_goals refine ⟨ret_bool ?_, (by repeat (first | exact Grew.refl _ | apply Grew.drew | apply Grew.drewN | apply Grew.alloc | apply Grew.more))⟩
  all_goals simp_all

end Go.Proofs.YtnpdecbgakgbgaaGreatDoor
