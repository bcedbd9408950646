/-
  The contract of expr.Reserved: whether a text is one of the reserved words.
  Nodes of expressions: operands and named, and the comparison of two nodes.
  The library's contracts laid at this program: strconv.Itoa, strings.Clone; HasSuffix, TrimSuffix, Index and Contains at one point.
  The contracts of datum.Print and of what it calls, of datum.told and datum.toldNumber: values that a literal can be.
  The contracts of datum.toldNumber, datum.told and datum.Parse at the texts of literals.
  The contract of datum.Parse at the texts of literals.
  The contracts of the lexer's small functions: byteAt, isLetter, isDigit, fitsName, the library's IndexByte, pastBlanks.
-/
import Derived.Test.YtclhmmgdhagloaaGreatDoorChecked
import Derived.Test.YtclhmmgdhagloaaGreatDoorMeDWide3
import Derived.WalkKit
import Derived.WalkSpells
import Derived.WalkLawsBesides
import Derived.Laws.IdiomStrings
import Derived.Test.YtclhmmgdhagloaaGreatDoorVLogic
import Derived.Test.YtclhmmgdhagloaaGreatDoorVMath
import Derived.WalkMore
import Derived.Below
import Derived.BigRegion
import Derived.Test.YtclhmmgdhagloaaGreatDoorMhDText1
import Derived.Test.YtclhmmgdhagloaaGreatDoorMjDParse
import Derived.Shelf.Strconv.Itoa3
import Derived.Shelf.Strconv.Clone
import Derived.Ground.NamesProg
import Derived.Shelf.Lay
import Derived.Test.YtclhmmgdhagloaaGreatDoorMzVCmp
import Derived.Test.YtclhmmgdhagloaaGreatDoorVQuote
import Derived.Test.YtclhmmgdhagloaaGreatDoorDText5
import Derived.Test.YtclhmmgdhagloaaGreatDoorMlDDivP
import Derived.Test.YtclhmmgdhagloaaGreatDoorMaLJumps
namespace Go.Proofs.YtclhmmgdhagloaaGreatDoor
open Go.RowKit

/-- The reserved words. -/
def resW : List (List UInt8) := [[97, 110, 100], [111, 114], [110, 111, 116], [105, 115], [110, 117, 108, 108], [116, 114, 117, 101], [102, 97, 108, 115, 101], [115, 101, 108, 101, 99, 116], [100, 105, 115, 116, 105, 110, 99, 116], [102, 114, 111, 109], [119, 104, 101, 114, 101], [103, 114, 111, 117, 112], [98, 121], [104, 97, 118, 105, 110, 103], [111, 114, 100, 101, 114], [97, 115, 99], [100, 101, 115, 99], [108, 105, 109, 105, 116], [117, 110, 105, 111, 110], [97, 108, 108], [106, 111, 105, 110], [108, 101, 102, 116], [99, 114, 111, 115, 115], [111, 110], [97, 115], [105, 110, 115, 101, 114, 116], [105, 110, 116, 111], [118, 97, 108, 117, 101, 115], [117, 112, 100, 97, 116, 101], [115, 101, 116], [100, 101, 108, 101, 116, 101], [99, 114, 101, 97, 116, 101], [116, 97, 98, 108, 101], [100, 114, 111, 112], [112, 114, 105, 109, 97, 114, 121], [107, 101, 121], [117, 110, 105, 113, 117, 101], [99, 104, 101, 99, 107], [98, 101, 103, 105, 110], [99, 111, 109, 109, 105, 116], [114, 111, 108, 108, 98, 97, 99, 107]]
def resL (l : List UInt8) : Bool := resW.contains l

set_option maxRecDepth 20000 in
set_option maxHeartbeats 4000000 in
theorem reserved_any (B : ByteArray) (w : World) : Calls Tryz.prog 18 #[.string B] w fun e w' => e = .returned (.bool (resL B.toList)) ∧ w = w' := by
  obtain ⟨R, hR⟩ : ∃ R, R = resL B.toList := ⟨_, rfl⟩
  rw [← hR]
  have HR : Hid (R = resL B.toList) := hR
  clear hR
  go_enter Tryz.func18, Tryz.ntmps18
  go_wp2
  all_goals first
    | (rename_i h1 h2; exact absurd (h1.symm.trans h2) (by decide))
    | (rename_i h1 h2; exact absurd (h2.symm.trans h1) (by decide))
    | (go_ret
       refine ⟨?_, rfl⟩
       rw [HR.out]
       unfold resL resW
       simp only [List.contains_cons, List.contains_nil, Bool.false_or, Bool.true_or, Bool.or_self, *] <;> rfl)
end Go.Proofs.YtclhmmgdhagloaaGreatDoor

namespace Go.Proofs.YtclhmmgdhagloaaGreatDoor
open Go.RowKit
attribute [local go_sem] cell?_more frozen?_more setCell_more more_lt more_more more_drew more_drewN setCell_drewN alloc_drewN

/-- A node of whatever parts. -/
structure Nd where
  o : Int
  t : List UInt8
  n : List UInt8
  v : Va
  a : Int
abbrev ncs (x : Nd) : Array Value := #[.int .i64 x.o, .string ⟨x.t.toArray⟩, .string ⟨x.n.toArray⟩, .int .i64 x.v.k, .int .i64 x.v.n, .int .i64 x.v.m, .string ⟨x.v.b.toArray⟩, .int .i64 x.a]
abbrev ndv (x : Nd) : Value := .agg (ncs x)

/-- With how many expressions a node is done. -/
def opsN (x : Nd) : Int := if x.o = 19 then x.a else if 6 ≤ x.o then 2 else if 3 ≤ x.o then 1 else 0

theorem operands_any (x : Nd) (w : World) : Calls Tryz.prog 35 #[ndv x] w fun e w' => e = .returned (.int .i64 (opsN x)) ∧ Grew w w' := by
  obtain ⟨o, t, n, v, a⟩ := x
  unfold opsN
  simp only
  by_cases h1 : o = 19
  · subst h1
    rw [if_pos rfl]
    go_enter Tryz.func35, Tryz.ntmps35
    go_wp2
    go_ret
    exact ⟨rfl, (Grew.refl _).alloc _⟩
  rw [if_neg h1]
  have e1 : (o == 19) = false := by rw [beq_eq_false_iff_ne]; exact h1
  by_cases h2 : 6 ≤ o
  · rw [if_pos h2]
    go_enter Tryz.func35, Tryz.ntmps35
    go_wp2
    go_ret
    exact ⟨rfl, (Grew.refl _).alloc _⟩
  rw [if_neg h2]
  by_cases h3 : 3 ≤ o
  · rw [if_pos h3]
    go_enter Tryz.func35, Tryz.ntmps35
    go_wp2
    go_ret
    exact ⟨rfl, (Grew.refl _).alloc _⟩
  · rw [if_neg h3]
    go_enter Tryz.func35, Tryz.ntmps35
    go_wp2
    go_ret
    exact ⟨rfl, (Grew.refl _).alloc _⟩

/-- The zero value. -/
abbrev vz0 : Va := ⟨0, 0, 0, []⟩
/-- A node with just the parts that its Op names. -/
def namedN (x : Nd) : Nd := if x.o = 1 then ⟨1, [], [], x.v, 0⟩ else if x.o = 2 then ⟨2, x.t, x.n, vz0, 0⟩ else if x.o = 19 then ⟨19, [], x.n, vz0, x.a⟩ else ⟨x.o, [], [], vz0, 0⟩

set_option maxHeartbeats 4000000 in
theorem enamed_any (x : Nd) (w : World) : Calls Tryz.prog 58 #[ndv x] w fun e w' => e = .returned (ndv (namedN x)) ∧ Grew w w' := by
  obtain ⟨o, t, n, v, a⟩ := x
  unfold namedN
  simp only
  by_cases h1 : o = 1
  · subst h1
    rw [if_pos rfl]
    go_enter Tryz.func58, Tryz.ntmps58
    go_wp2
    refine bodyPost_ret_by (v := ndv ⟨1, [], [], v, 0⟩) ?_ rfl ⟨rfl, by repeat (first | exact Grew.refl _ | apply Grew.drew | apply Grew.drewN | apply Grew.alloc)⟩
    simp [results, Tryz.results58, go_sem]
  rw [if_neg h1]
  have e1 : (o == 1) = false := by rw [beq_eq_false_iff_ne]; exact h1
  by_cases h2 : o = 2
  · subst h2
    rw [if_pos rfl]
    go_enter Tryz.func58, Tryz.ntmps58
    go_wp2
    refine bodyPost_ret_by (v := ndv ⟨2, t, n, vz0, 0⟩) ?_ rfl ⟨rfl, by repeat (first | exact Grew.refl _ | apply Grew.drew | apply Grew.drewN | apply Grew.alloc)⟩
    simp [results, Tryz.results58, go_sem]
  rw [if_neg h2]
  have e2 : (o == 2) = false := by rw [beq_eq_false_iff_ne]; exact h2
  by_cases h3 : o = 19
  · subst h3
    rw [if_pos rfl]
    go_enter Tryz.func58, Tryz.ntmps58
    go_wp2
    refine bodyPost_ret_by (v := ndv ⟨19, [], n, vz0, a⟩) ?_ rfl ⟨rfl, by repeat (first | exact Grew.refl _ | apply Grew.drew | apply Grew.drewN | apply Grew.alloc)⟩
    simp [results, Tryz.results58, go_sem]
  · rw [if_neg h3]
    have e3 : (o == 19) = false := by rw [beq_eq_false_iff_ne]; exact h3
    go_enter Tryz.func58, Tryz.ntmps58
    go_wp2
    refine bodyPost_ret_by (v := ndv ⟨o, [], [], vz0, 0⟩) ?_ rfl ⟨rfl, by repeat (first | exact Grew.refl _ | apply Grew.drew | apply Grew.drewN | apply Grew.alloc)⟩
    simp [results, Tryz.results58, go_sem]

/-- Are two nodes the same, part by part? -/
def sameV0 (a b : Va) : Bool := a.k == b.k && (a.n == b.n && (a.m == b.m && a.b == b.b))
def sameN (x y : Nd) : Bool := x.o == y.o && (x.t == y.t && (x.n == y.n && (sameV0 x.v y.v && x.a == y.a)))

theorem eqNd_at (N : Nat) (k k' a a' vk vn vm vk' vn' vm' : Int) (b b' d d' c c' : ByteArray) (w : World) :
    (Op.equalIn (N + 3) 44 (.agg #[.int .i64 k, .string b, .string d, .int .i64 vk, .int .i64 vn, .int .i64 vm, .string c, .int .i64 a]) (.agg #[.int .i64 k', .string b', .string d', .int .i64 vk', .int .i64 vn', .int .i64 vm', .string c', .int .i64 a'])).run Tryz.prog w
      = .ok (k == k' && (b.toList == b'.toList && (d.toList == d'.toList && ((vk == vk' && (vn == vn' && (vm == vm' && c.toList == c'.toList))) && a == a')))) w := by
  have u3 := Tryz.underlying3
  have a3 := Tryz.isAgg3
  have z3 := Tryz.sizeOf3
  have u4 := Tryz.underlying9
  have a4 := Tryz.isAgg9
  have z4 := Tryz.sizeOf9
  have a5 := Tryz.isAgg42
  have hS : Tryz.prog.underlying 44 = some (.struct (Tryz.prog.fieldsOf 44)) := by kernel_rfl
  have hp : Tryz.prog.stoodInHeld 44 = false := by kernel_rfl
  rw [run_equalIn_agg w (N + 2) 44 _ _ hS hp]
  simp only [Program.fieldsOf, Tryz.underlying44]
  go_simp
  by_cases h1 : k = k'
  case neg => simp [h1]
  by_cases h2 : b.toList = b'.toList
  case neg => simp [h2]
  by_cases h2' : d.toList = d'.toList
  case neg => simp [h2']
  by_cases h3 : vk = vk'
  case neg => simp [h3]
  by_cases h4 : vn = vn'
  case neg => simp [h4]
  by_cases h5 : vm = vm'
  case neg => simp [h5]
  by_cases h6 : c.toList = c'.toList
  case neg => simp [h6]
  by_cases h7 : a = a' <;> simp [h1, h2, h2', h3, h4, h5, h6, h7]
theorem ba_eq0 (a b : List UInt8) : ((ByteArray.mk a.toArray).toList == (ByteArray.mk b.toArray).toList) = (a == b) := by
  rw [ByteArray.toList_eq, ByteArray.toList_eq]
theorem eqNd (x y : Nd) (w : World) : (Op.equalIn 10000 44 (ndv x) (ndv y)).run Tryz.prog w = .ok (sameN x y) w := by
  have := eqNd_at 9997 x.o y.o x.a y.a x.v.k x.v.n x.v.m y.v.k y.v.n y.v.m ⟨x.t.toArray⟩ ⟨y.t.toArray⟩ ⟨x.n.toArray⟩ ⟨y.n.toArray⟩ ⟨x.v.b.toArray⟩ ⟨y.v.b.toArray⟩ w
  rw [ba_eq0, ba_eq0, ba_eq0] at this
  exact this
end Go.Proofs.YtclhmmgdhagloaaGreatDoor

namespace Go.Proofs.YtclhmmgdhagloaaGreatDoor
open Go.RowKit Go.Shelf

shelf_lay LaysM.n171 Nm 171 at Tryz as Tryz.laysItoa
shelf_lay LaysM.n316 Nm 316 at Tryz as Tryz.laysClone

/-- The library's table of powers of ten. -/
def Ptab (w : World) : Prop := Lib.TabIs Tryz.prog w "internal/strconv.uint64pow10" .u64 Lib.pow10Tab
theorem Ptab.later {w w' : World} (h : Ptab w) (hb : Below w.heap.size w w') : Ptab w' := by
  unfold Ptab Lib.TabIs World.var? at *
  cases hg : Tryz.prog.globalNamed "internal/strconv.uint64pow10" with
  | none => rw [hg] at h; cases h
  | some g =>
    rw [hg] at h
    simp only [Option.bind_some] at h ⊢
    have hlt : g < w.heap.size := by
      rcases Nat.lt_or_ge g w.heap.size with h' | h'
      · exact h'
      · rw [Array.getElem?_eq_none h'] at h; cases h
    rw [hb.block g hlt]
    exact h

theorem clone_any (B : ByteArray) (w : World) (h : B.size ≤ 140737488351232) : Calls Tryz.prog 38 #[.string B] w fun e w' => e = .returned (.string B) ∧ Below w.heap.size w w' := by
  have C : ∀ W, Calls Tryz.prog 61 #[.string B] W fun e w' => e = .returned (.string B) ∧ Below W.heap.size W w' := fun W => Any.stringslite_Clone Tryz.laysClone B W (by omega)
  go_enter Tryz.func38, Tryz.ntmps38
  go_wp2_with (go_at_call 61; refine (C _).mono ?_; rintro e w' ⟨rfl, hb⟩)
  go_ret
  exact ⟨rfl, hb⟩

end Go.Proofs.YtclhmmgdhagloaaGreatDoor

namespace Go.Proofs.YtclhmmgdhagloaaGreatDoor
open Go.RowKit Go.Shelf
attribute [local go_sem] cell?_more frozen?_more setCell_more more_lt more_more more_drew more_drewN setCell_drewN alloc_drewN

/-- A Dec's text: with a point in every case. -/
def dpt (n m : Int) : List UInt8 := dtext n m.toNat ++ (if m = 0 then [46] else [])
/-- The text of an Int, a Dec or a Text. -/
def ptext (v : Va) : List UInt8 := if v.k = 1 then dtext v.n 0 else if v.k = 2 then dpt v.n v.m else quoL v.b

/-- What Print answers of an Int, a Dec or a Text. -/
def pv (v : Va) : List UInt8 := if vr v then ptext v else []

end Go.Proofs.YtclhmmgdhagloaaGreatDoor

namespace Go.Proofs.YtclhmmgdhagloaaGreatDoor
open Go.RowKit Go.Shelf
attribute [local go_sem] cell?_more frozen?_more setCell_more more_lt more_more more_drew more_drewN setCell_drewN alloc_drewN

/-- A text without a point at its end. -/
def trimP (t : List UInt8) : List UInt8 := if t.getLast? = some 46 then t.dropLast else t
/-- What toldNumber answers: a number and whether it is one. -/
def tnv (t : List UInt8) : Va × Bool :=
  match PR (trimP t) with
  | none => (⟨if (46 : UInt8) ∈ t then 2 else 1, 0, 0, []⟩, false)
  | some (b, n, s) => (⟨if (46 : UInt8) ∈ t then 2 else 1, nz (sval b n), fs (sval b n) (s : Int), []⟩, fits (sval b n))

/-- What told answers of a literal. -/
def tlv (t : List UInt8) : Va × Bool :=
  if t.head? = some 39 then (match unqL (t.drop 1) with | none => (⟨3, 0, 0, []⟩, false) | some b => (⟨3, 0, 0, b⟩, true)) else tnv t
end Go.Proofs.YtclhmmgdhagloaaGreatDoor

namespace Go.Proofs.YtclhmmgdhagloaaGreatDoor
open Go.RowKit Go.Shelf
attribute [local go_sem] cell?_more frozen?_more setCell_more more_lt more_more more_drew more_drewN setCell_drewN alloc_drewN

/-- The value of a literal's text; none: it is none. -/
def dpv (t : List UInt8) : Option Va := if (tlv t).2 = true ∧ pv (tlv t).1 = t then some (tlv t).1 else none
end Go.Proofs.YtclhmmgdhagloaaGreatDoor

namespace Go.Proofs.YtclhmmgdhagloaaGreatDoor
open Go.RowKit

/-- The byte at a place; 0 past the end. -/
def bat (l : List UInt8) (i : Nat) : UInt8 := l.getD i 0

theorem byteAt_any (l : List UInt8) (i : Nat) (w : World) : Calls Tryz.prog 131 #[.string ⟨l.toArray⟩, .int .i64 (i : Int)] w fun e w' => e = .returned (.int .u8 ((bat l i).toNat : Int)) ∧ w = w' := by
  have hs : (ByteArray.mk l.toArray).size = l.length := rfl
  by_cases h : i < l.length
  · have h1 : (i : Int) < (l.length : Int) := by omega
    have h2 : (0 : Int) ≤ (i : Int) := by omega
    have hg : ∀ h, (ByteArray.mk l.toArray)[i]'h = bat l i := fun h' => by
      show l[i] = _
      unfold bat
      simp [List.getD, h]
    generalize bat l i = c at *
    generalize ByteArray.mk l.toArray = B at *
    go_enter Tryz.func131, Tryz.ntmps131
    go_wp2
    go_ret
    exact ⟨rfl, rfl⟩
  · have h1 : ¬ (i : Int) < (l.length : Int) := by omega
    have hg : bat l i = 0 := by
      unfold bat
      rw [List.getD_eq_getElem?_getD, List.getElem?_eq_none (by omega)]
      rfl
    rw [hg]
    generalize ByteArray.mk l.toArray = B at *
    go_enter Tryz.func131, Tryz.ntmps131
    go_wp2
    go_ret
    exact ⟨rfl, rfl⟩

theorem isDigit_any (c : UInt8) (w : World) : Calls Tryz.prog 196 #[.int .u8 (c.toNat : Int)] w fun e w' => e = .returned (.bool (isD c)) ∧ w = w' := by
  have e : isD c = (decide ((48 : Int) ≤ (c.toNat : Int)) && decide ((c.toNat : Int) ≤ 57)) := by
    unfold isD
    have e1 : decide (48 ≤ c.toNat) = decide ((48 : Int) ≤ (c.toNat : Int)) := by simp; omega
    have e2 : decide (c.toNat ≤ 57) = decide ((c.toNat : Int) ≤ 57) := by simp; omega
    rw [e1, e2]
  rw [e]
  generalize (c.toNat : Int) = n
  by_cases h1 : (48 : Int) ≤ n
  · rw [decide_eq_true h1]
    go_enter Tryz.func196, Tryz.ntmps196
    go_wp2
    go_ret
    exact ⟨rfl, rfl⟩
  · rw [decide_eq_false h1]
    go_enter Tryz.func196, Tryz.ntmps196
    go_wp2
    go_ret
    exact ⟨rfl, rfl⟩

theorem isLetter_any (c : UInt8) (w : World) : Calls Tryz.prog 195 #[.int .u8 (c.toNat : Int)] w fun e w' => e = .returned (.bool (isL c)) ∧ w = w' := by
  have e : isL c = ((decide ((97 : Int) ≤ (c.toNat : Int)) && decide ((c.toNat : Int) ≤ 122)) || ((c.toNat : Int) == 95)) := by
    unfold isL
    have e1 : decide (97 ≤ c.toNat) = decide ((97 : Int) ≤ (c.toNat : Int)) := by simp; omega
    have e2 : decide (c.toNat ≤ 122) = decide ((c.toNat : Int) ≤ 122) := by simp; omega
    have e3 : decide (c.toNat = 95) = ((c.toNat : Int) == 95) := by
      by_cases h : c.toNat = 95
      · rw [h]; rfl
      · rw [decide_eq_false h]; symm; rw [beq_eq_false_iff_ne]; omega
    rw [e1, e2, e3]
  rw [e]
  generalize (c.toNat : Int) = n
  by_cases h1 : (97 : Int) ≤ n
  · rw [decide_eq_true h1]
    by_cases h2 : n ≤ 122
    · rw [decide_eq_true h2]
      go_enter Tryz.func195, Tryz.ntmps195
      go_wp2
      go_ret
      exact ⟨rfl, rfl⟩
    · rw [decide_eq_false h2]
      go_enter Tryz.func195, Tryz.ntmps195
      go_wp2
      go_ret
      exact ⟨rfl, rfl⟩
  · rw [decide_eq_false h1]
    go_enter Tryz.func195, Tryz.ntmps195
    go_wp2
    go_ret
    exact ⟨rfl, rfl⟩

theorem fitsName_any (B : ByteArray) (w : World) : Calls Tryz.prog 133 #[.string B] w fun e w' => e = .returned (.bool (decide (B.size ≤ 32))) ∧ w = w' := by
  have h : decide (B.size ≤ 32) = decide ((B.size : Int) ≤ 32) := by simp; omega
  rw [h]
  go_enter Tryz.func133, Tryz.ntmps133
  go_wp2
  go_ret
  exact ⟨rfl, rfl⟩

theorem ixb_at (B : ByteArray) (c : UInt8) (r : Int) (h : firstIdx B c = r) (w : World) : (callFunc 244 #[.string B, .int .u8 (c.toNat : Int)]).run Tryz.prog w = .ok (.value (.int .i64 r)) w := by
  rw [run_callFunc_extern Tryz.func244 (by kernel_rfl) (by kernel_rfl) (by kernel_rfl) (e := Extern.BytealgIndexByte.indexByte) (by kernel_rfl), run_indexByte_string]
  rw [show ((c.toNat : Int).toNat.toUInt8) = c by simp, h]
  rfl

theorem ixbLite_any (B : ByteArray) (c : UInt8) (w : World) : Calls Tryz.prog 194 #[.string B, .int .u8 (c.toNat : Int)] w fun e w' => e = .returned (.int .i64 (firstIdx B c)) ∧ w = w' := by
  have F := fun w => ixb_at B c _ rfl w
  generalize firstIdx B c = r at *
  generalize (c.toNat : Int) = n at *
  go_enter Tryz.func194, Tryz.ntmps194
  go_wp2
  go_ret
  exact ⟨rfl, rfl⟩

theorem indexByte_any (B : ByteArray) (c : UInt8) (w : World) : Calls Tryz.prog 130 #[.string B, .int .u8 (c.toNat : Int)] w fun e w' => e = .returned (.int .i64 (firstIdx B c)) ∧ w = w' := by
  have F := fun w => ixbLite_any B c w
  generalize firstIdx B c = r at *
  generalize (c.toNat : Int) = n at *
  go_enter Tryz.func130, Tryz.ntmps130
  go_wp2_with (go_at_call 194; refine (F _).mono ?_; rintro e w' ⟨rfl, rfl⟩)
  go_ret
  exact ⟨rfl, rfl⟩

theorem signs_idx (c : UInt8) : decide ((0 : Int) ≤ firstIdx ⟨#[40, 41, 44, 46, 59, 42, 43, 45, 47, 37, 61]⟩ c) = isS c := by
  have h : ∀ n : Nat, n < 256 → decide ((0 : Int) ≤ firstIdx ⟨#[40, 41, 44, 46, 59, 42, 43, 45, 47, 37, 61]⟩ n.toUInt8) = isS n.toUInt8 := by decide +kernel
  have := h c.toNat c.toNat_lt
  simpa using this

theorem bat_drop (l : List UInt8) (i : Nat) (h : i < l.length) : l.drop i = bat l i :: l.drop (i + 1) := by
  rw [List.drop_eq_getElem_cons h]
  unfold bat
  simp [List.getD, h]
theorem bat_out (l : List UInt8) (i : Nat) (h : l.length ≤ i) : bat l i = 0 := by
  unfold bat
  rw [List.getD_eq_getElem?_getD, List.getElem?_eq_none (by omega)]
  rfl

end Go.Proofs.YtclhmmgdhagloaaGreatDoor
