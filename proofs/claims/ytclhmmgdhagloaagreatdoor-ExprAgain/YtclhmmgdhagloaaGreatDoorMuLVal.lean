/-
  The contract of expr.Reserved: whether a text is one of the reserved words.
  Nodes of expressions: operands and named, and the comparison of two nodes.
  The library's contracts laid at this program: strconv.Itoa, strings.Clone; HasSuffix, TrimSuffix, Index and Contains at one point.
  The contracts of datum.Print and of what it calls, of datum.told and datum.toldNumber: values that a literal can be.
-/
import Derived.Test.YtclhmmgdhagloaaGreatDoorChecked
import Derived.Test.YtclhmmgdhagloaaGreatDoorMeDWide3
import Derived.WalkKit
import Derived.WalkSpells
import Derived.WalkLawsBesides
import Derived.Laws.IdiomStrings
import Derived.Test.YtclhmmgdhagloaaGreatDoorVLogic
import Derived.Test.YtclhmmgdhagloaaGreatDoorVMath
import Derived.WalkMore
import Derived.Below
import Derived.BigRegion
import Derived.Test.YtclhmmgdhagloaaGreatDoorMhDText1
import Derived.Test.YtclhmmgdhagloaaGreatDoorMjDText7
import Derived.Shelf.Strconv.Itoa3
import Derived.Shelf.Strconv.Clone
import Derived.Ground.NamesProg
import Derived.Shelf.Lay
import Derived.Test.YtclhmmgdhagloaaGreatDoorMrVCmp
import Derived.Test.YtclhmmgdhagloaaGreatDoorVQuote
import Derived.Test.YtclhmmgdhagloaaGreatDoorDParse
import Derived.Test.YtclhmmgdhagloaaGreatDoorDText5
import Derived.Test.YtclhmmgdhagloaaGreatDoorDText6
namespace Go.Proofs.YtclhmmgdhagloaaGreatDoor
open Go.RowKit

/-- The reserved words. -/
def resW : List (List UInt8) := [[97, 110, 100], [111, 114], [110, 111, 116], [105, 115], [110, 117, 108, 108], [116, 114, 117, 101], [102, 97, 108, 115, 101], [115, 101, 108, 101, 99, 116], [100, 105, 115, 116, 105, 110, 99, 116], [102, 114, 111, 109], [119, 104, 101, 114, 101], [103, 114, 111, 117, 112], [98, 121], [104, 97, 118, 105, 110, 103], [111, 114, 100, 101, 114], [97, 115, 99], [100, 101, 115, 99], [108, 105, 109, 105, 116], [117, 110, 105, 111, 110], [97, 108, 108], [106, 111, 105, 110], [108, 101, 102, 116], [99, 114, 111, 115, 115], [111, 110], [97, 115], [105, 110, 115, 101, 114, 116], [105, 110, 116, 111], [118, 97, 108, 117, 101, 115], [117, 112, 100, 97, 116, 101], [115, 101, 116], [100, 101, 108, 101, 116, 101], [99, 114, 101, 97, 116, 101], [116, 97, 98, 108, 101], [100, 114, 111, 112], [112, 114, 105, 109, 97, 114, 121], [107, 101, 121], [117, 110, 105, 113, 117, 101], [99, 104, 101, 99, 107], [98, 101, 103, 105, 110], [99, 111, 109, 109, 105, 116], [114, 111, 108, 108, 98, 97, 99, 107]]
def resL (l : List UInt8) : Bool := resW.contains l

set_option maxRecDepth 20000 in
set_option maxHeartbeats 4000000 in
theorem reserved_any (B : ByteArray) (w : World) : Calls Tryz.prog 18 #[.string B] w fun e w' => e = .returned (.bool (resL B.toList)) ∧ w = w' := by
  obtain ⟨R, hR⟩ : ∃ R, R = resL B.toList := ⟨_, rfl⟩
  rw [← hR]
  have HR : Hid (R = resL B.toList) := hR
  clear hR
  go_enter Tryz.func18, Tryz.ntmps18
  go_wp2
  all_goals first
    | (rename_i h1 h2; exact absurd (h1.symm.trans h2) (by decide))
    | (rename_i h1 h2; exact absurd (h2.symm.trans h1) (by decide))
    | (go_ret
       refine ⟨?_, rfl⟩
       rw [HR.out]
       unfold resL resW
       simp only [List.contains_cons, List.contains_nil, Bool.false_or, Bool.true_or, Bool.or_self, *] <;> rfl)
end Go.Proofs.YtclhmmgdhagloaaGreatDoor

namespace Go.Proofs.YtclhmmgdhagloaaGreatDoor
open Go.RowKit
attribute [local go_sem] cell?_more frozen?_more setCell_more more_lt more_more more_drew more_drewN setCell_drewN alloc_drewN

/-- A node of whatever parts. -/
structure Nd where
  o : Int
  t : List UInt8
  n : List UInt8
  v : Va
  a : Int
abbrev ncs (x : Nd) : Array Value := #[.int .i64 x.o, .string ⟨x.t.toArray⟩, .string ⟨x.n.toArray⟩, .int .i64 x.v.k, .int .i64 x.v.n, .int .i64 x.v.m, .string ⟨x.v.b.toArray⟩, .int .i64 x.a]
abbrev ndv (x : Nd) : Value := .agg (ncs x)

/-- With how many expressions a node is done. -/
def opsN (x : Nd) : Int := if x.o = 19 then x.a else if 6 ≤ x.o then 2 else if 3 ≤ x.o then 1 else 0

theorem operands_any (x : Nd) (w : World) : Calls Tryz.prog 35 #[ndv x] w fun e w' => e = .returned (.int .i64 (opsN x)) ∧ Grew w w' := by
  obtain ⟨o, t, n, v, a⟩ := x
  unfold opsN
  simp only
  by_cases h1 : o = 19
  · subst h1
    rw [if_pos rfl]
    go_enter Tryz.func35, Tryz.ntmps35
    go_wp2
    go_ret
    exact ⟨rfl, (Grew.refl _).alloc _⟩
  rw [if_neg h1]
  have e1 : (o == 19) = false := by rw [beq_eq_false_iff_ne]; exact h1
  by_cases h2 : 6 ≤ o
  · rw [if_pos h2]
    go_enter Tryz.func35, Tryz.ntmps35
    go_wp2
    go_ret
    exact ⟨rfl, (Grew.refl _).alloc _⟩
  rw [if_neg h2]
  by_cases h3 : 3 ≤ o
  · rw [if_pos h3]
    go_enter Tryz.func35, Tryz.ntmps35
    go_wp2
    go_ret
    exact ⟨rfl, (Grew.refl _).alloc _⟩
  · rw [if_neg h3]
    go_enter Tryz.func35, Tryz.ntmps35
    go_wp2
    go_ret
    exact ⟨rfl, (Grew.refl _).alloc _⟩

/-- The zero value. -/
abbrev vz0 : Va := ⟨0, 0, 0, []⟩
/-- A node with just the parts that its Op names. -/
def namedN (x : Nd) : Nd := if x.o = 1 then ⟨1, [], [], x.v, 0⟩ else if x.o = 2 then ⟨2, x.t, x.n, vz0, 0⟩ else if x.o = 19 then ⟨19, [], x.n, vz0, x.a⟩ else ⟨x.o, [], [], vz0, 0⟩

set_option maxHeartbeats 4000000 in
theorem enamed_any (x : Nd) (w : World) : Calls Tryz.prog 58 #[ndv x] w fun e w' => e = .returned (ndv (namedN x)) ∧ Grew w w' := by
  obtain ⟨o, t, n, v, a⟩ := x
  unfold namedN
  simp only
  by_cases h1 : o = 1
  · subst h1
    rw [if_pos rfl]
    go_enter Tryz.func58, Tryz.ntmps58
    go_wp2
    refine bodyPost_ret_by (v := ndv ⟨1, [], [], v, 0⟩) ?_ rfl ⟨rfl, by repeat (first | exact Grew.refl _ | apply Grew.drew | apply Grew.drewN | apply Grew.alloc)⟩
    simp [results, Tryz.results58, go_sem]
  rw [if_neg h1]
  have e1 : (o == 1) = false := by rw [beq_eq_false_iff_ne]; exact h1
  by_cases h2 : o = 2
  · subst h2
    rw [if_pos rfl]
    go_enter Tryz.func58, Tryz.ntmps58
    go_wp2
    refine bodyPost_ret_by (v := ndv ⟨2, t, n, vz0, 0⟩) ?_ rfl ⟨rfl, by repeat (first | exact Grew.refl _ | apply Grew.drew | apply Grew.drewN | apply Grew.alloc)⟩
    simp [results, Tryz.results58, go_sem]
  rw [if_neg h2]
  have e2 : (o == 2) = false := by rw [beq_eq_false_iff_ne]; exact h2
  by_cases h3 : o = 19
  · subst h3
    rw [if_pos rfl]
    go_enter Tryz.func58, Tryz.ntmps58
    go_wp2
    refine bodyPost_ret_by (v := ndv ⟨19, [], n, vz0, a⟩) ?_ rfl ⟨rfl, by repeat (first | exact Grew.refl _ | apply Grew.drew | apply Grew.drewN | apply Grew.alloc)⟩
    simp [results, Tryz.results58, go_sem]
  · rw [if_neg h3]
    have e3 : (o == 19) = false := by rw [beq_eq_false_iff_ne]; exact h3
    go_enter Tryz.func58, Tryz.ntmps58
    go_wp2
    refine bodyPost_ret_by (v := ndv ⟨o, [], [], vz0, 0⟩) ?_ rfl ⟨rfl, by repeat (first | exact Grew.refl _ | apply Grew.drew | apply Grew.drewN | apply Grew.alloc)⟩
    simp [results, Tryz.results58, go_sem]

/-- Are two nodes the same, part by part? -/
def sameV0 (a b : Va) : Bool := a.k == b.k && (a.n == b.n && (a.m == b.m && a.b == b.b))
def sameN (x y : Nd) : Bool := x.o == y.o && (x.t == y.t && (x.n == y.n && (sameV0 x.v y.v && x.a == y.a)))

theorem eqNd_at (N : Nat) (k k' a a' vk vn vm vk' vn' vm' : Int) (b b' d d' c c' : ByteArray) (w : World) :
    (Op.equalIn (N + 3) 44 (.agg #[.int .i64 k, .string b, .string d, .int .i64 vk, .int .i64 vn, .int .i64 vm, .string c, .int .i64 a]) (.agg #[.int .i64 k', .string b', .string d', .int .i64 vk', .int .i64 vn', .int .i64 vm', .string c', .int .i64 a'])).run Tryz.prog w
      = .ok (k == k' && (b.toList == b'.toList && (d.toList == d'.toList && ((vk == vk' && (vn == vn' && (vm == vm' && c.toList == c'.toList))) && a == a')))) w := by
  have u3 := Tryz.underlying3
  have a3 := Tryz.isAgg3
  have z3 := Tryz.sizeOf3
  have u4 := Tryz.underlying9
  have a4 := Tryz.isAgg9
  have z4 := Tryz.sizeOf9
  have a5 := Tryz.isAgg42
  have hS : Tryz.prog.underlying 44 = some (.struct (Tryz.prog.fieldsOf 44)) := by kernel_rfl
  have hp : Tryz.prog.stoodInHeld 44 = false := by kernel_rfl
  rw [run_equalIn_agg w (N + 2) 44 _ _ hS hp]
  simp only [Program.fieldsOf, Tryz.underlying44]
  go_simp
  by_cases h1 : k = k'
  case neg => simp [h1]
  by_cases h2 : b.toList = b'.toList
  case neg => simp [h2]
  by_cases h2' : d.toList = d'.toList
  case neg => simp [h2']
  by_cases h3 : vk = vk'
  case neg => simp [h3]
  by_cases h4 : vn = vn'
  case neg => simp [h4]
  by_cases h5 : vm = vm'
  case neg => simp [h5]
  by_cases h6 : c.toList = c'.toList
  case neg => simp [h6]
  by_cases h7 : a = a' <;> simp [h1, h2, h2', h3, h4, h5, h6, h7]
theorem ba_eq0 (a b : List UInt8) : ((ByteArray.mk a.toArray).toList == (ByteArray.mk b.toArray).toList) = (a == b) := by
  rw [ByteArray.toList_eq, ByteArray.toList_eq]
theorem eqNd (x y : Nd) (w : World) : (Op.equalIn 10000 44 (ndv x) (ndv y)).run Tryz.prog w = .ok (sameN x y) w := by
  have := eqNd_at 9997 x.o y.o x.a y.a x.v.k x.v.n x.v.m y.v.k y.v.n y.v.m ⟨x.t.toArray⟩ ⟨y.t.toArray⟩ ⟨x.n.toArray⟩ ⟨y.n.toArray⟩ ⟨x.v.b.toArray⟩ ⟨y.v.b.toArray⟩ w
  rw [ba_eq0, ba_eq0, ba_eq0] at this
  exact this
theorem sameN_eq {x y : Nd} : sameN x y = true ↔ x = y := by
  obtain ⟨xo, xt, xn, ⟨xk, xx, xm, xb⟩, xa⟩ := x
  obtain ⟨yo, yt, yn, ⟨yk, yx, ym, yb⟩, ya⟩ := y
  simp [sameN, sameV0]
end Go.Proofs.YtclhmmgdhagloaaGreatDoor

namespace Go.Proofs.YtclhmmgdhagloaaGreatDoor
open Go.RowKit Go.Shelf

shelf_lay LaysM.n171 Nm 171 at Tryz as Tryz.laysItoa
shelf_lay LaysM.n316 Nm 316 at Tryz as Tryz.laysClone

/-- The library's table of powers of ten. -/
def Ptab (w : World) : Prop := Lib.TabIs Tryz.prog w "internal/strconv.uint64pow10" .u64 Lib.pow10Tab
theorem Ptab.later {w w' : World} (h : Ptab w) (hb : Below w.heap.size w w') : Ptab w' := by
  unfold Ptab Lib.TabIs World.var? at *
  cases hg : Tryz.prog.globalNamed "internal/strconv.uint64pow10" with
  | none => rw [hg] at h; cases h
  | some g =>
    rw [hg] at h
    simp only [Option.bind_some] at h ⊢
    have hlt : g < w.heap.size := by
      rcases Nat.lt_or_ge g w.heap.size with h' | h'
      · exact h'
      · rw [Array.getElem?_eq_none h'] at h; cases h
    rw [hb.block g hlt]
    exact h

theorem dec_digs (u : Nat) : Lib.decDigits u = digs u := by
  induction u using Nat.strongRecOn with
  | ind u ih =>
    by_cases h : u < 10
    · rw [Lib.decDigits, dif_pos h, digs_small u h]
    · rw [Lib.decDigits, dif_neg h, digs_big u h, ih (u / 10) (by omega)]
theorem itoa_text (n : Int) : Lib.itoa n = dtext n 0 := by
  unfold Lib.itoa dtext
  have e : pad 0 (digs n.natAbs) = digs n.natAbs := by
    refine pad_done 0 _ ?_
    by_cases h : n.natAbs < 10
    · rw [digs_small _ h]; simp
    · rw [digs_big _ h]; simp
  rw [if_pos rfl, e]
  split
  · rw [dec_digs]; rfl
  · rw [dec_digs, show n.toNat = n.natAbs by omega]; rfl

theorem grow_more (l : List Obj) : ∀ (w : World), Sort.grow w l.toArray = more w l := by
  induction l with
  | nil => intro w; simp [Sort.grow, more]
  | cons o l ih =>
    intro w
    rw [more, ← ih]
    unfold Sort.grow World.alloc
    simp
theorem itoa_any (n : Int) (w : World) (h0 : -9223372036854775808 ≤ n) (h1 : n ≤ 9223372036854775807) (hP : Ptab w) : Calls Tryz.prog 116 #[.int .i64 n] w fun e w' => e = .returned (.string ⟨(dtext n 0).toArray⟩) ∧ Grew w w' := by
  rw [← itoa_text]
  refine (Any.strconv_Itoa Tryz.laysItoa n h0 h1 w hP).mono ?_
  rintro e w' ⟨rfl, k, os, rfl⟩
  refine ⟨rfl, os.toList, k, ?_⟩
  have h := grow_more os.toList (w.drewN k)
  rw [Array.toArray_toList] at h
  rw [h, more_drewN]

theorem clone_any (B : ByteArray) (w : World) (h : B.size ≤ 140737488351232) : Calls Tryz.prog 38 #[.string B] w fun e w' => e = .returned (.string B) ∧ Below w.heap.size w w' := by
  have C : ∀ W, Calls Tryz.prog 61 #[.string B] W fun e w' => e = .returned (.string B) ∧ Below W.heap.size W w' := fun W => Any.stringslite_Clone Tryz.laysClone B W (by omega)
  go_enter Tryz.func38, Tryz.ntmps38
  go_wp2_with (go_at_call 61; refine (C _).mono ?_; rintro e w' ⟨rfl, hb⟩)
  go_ret
  exact ⟨rfl, hb⟩

theorem suffix_one (l : List UInt8) (w : World) (hl : l.length ≤ 9223372036854775806) : Calls Tryz.prog 313 #[.string ⟨l.toArray⟩, .string ⟨#[46]⟩] w fun e w' => e = .returned (.bool (decide (l.getLast? = some 46))) ∧ w = w' := by
  rcases List.eq_nil_or_concat l with rfl | ⟨m, c, rfl⟩
  · go_enter Tryz.func313, Tryz.ntmps313
    go_wp2
    go_ret
    exact ⟨rfl, rfl⟩
  · have hs : (ByteArray.mk (m ++ [c]).toArray).size = m.length + 1 := by show (m ++ [c]).length = _; simp
    have e : decide ((m ++ [c]).getLast? = some 46) = decide (c = 46) := by simp
    rw [List.concat_eq_append, e]
    have hx : (((ByteArray.mk (m ++ [c]).toArray).extract m.length (m.length + 1)).toList == [46]) = decide (c = 46) := by
      rw [ba_extract, ByteArray.toList_eq]
      show (((m ++ [c]).take (m.length + 1)).drop m.length == [46]) = _
      rw [List.take_of_length_le (by simp), List.drop_left' rfl]
      by_cases h : c = 46 <;> simp [h]
    have h1 : ((m.length + 1 : Nat) : Int) = (m.length : Int) + 1 := by omega
    have h2 : (1 : Int) ≤ (m.length : Int) + 1 := by omega
    have h3 : m.length ≤ 9223372036854775805 := by simp at hl; omega
    generalize decide (c = 46) = b at *
    generalize ByteArray.mk (m ++ [c]).toArray = B at *
    generalize m.length = n at *
    clear e hl
    go_enter Tryz.func313, Tryz.ntmps313
    go_wp2
    go_ret
    exact ⟨rfl, rfl⟩

end Go.Proofs.YtclhmmgdhagloaaGreatDoor

namespace Go.Proofs.YtclhmmgdhagloaaGreatDoor
open Go.RowKit Go.Shelf
attribute [local go_sem] cell?_more frozen?_more setCell_more more_lt more_more more_drew more_drewN setCell_drewN alloc_drewN

/-- A Dec's text: with a point in every case. -/
def dpt (n m : Int) : List UInt8 := dtext n m.toNat ++ (if m = 0 then [46] else [])
/-- The text of an Int, a Dec or a Text. -/
def ptext (v : Va) : List UInt8 := if v.k = 1 then dtext v.n 0 else if v.k = 2 then dpt v.n v.m else quoL v.b

set_option maxHeartbeats 1000000 in
theorem decText_any (k n m : Int) (b : ByteArray) (w : World) (n0 : -9223372036854775808 ≤ n) (n1 : n ≤ 9223372036854775807) (m0 : 0 ≤ m) (m1 : m ≤ 6) :
    Calls Tryz.prog 117 #[va k n m b] w fun e w' => e = .returned (.string ⟨(dpt n m).toArray⟩) ∧ Grew w w' := by
  have U := fun W => units_any k n m b W
  have P : ∀ W, Calls Tryz.prog 187 #[dv n m] W fun e w' => e = .returned (.string ⟨(dtext n m.toNat).toArray⟩) ∧ Grew W w' := fun W => by
    have := print_good n m.toNat W (by omega) n0 n1
    rwa [show ((m.toNat : Nat) : Int) = m by omega] at this
  have hlen : (dtext n m.toNat).length ≤ 9223372036854775806 := by
    have := digs_len 19 n.natAbs (by have : (10 : Nat) ^ (19 + 1) = 100000000000000000000 := by decide
                                     omega)
    have h1 := pad_len m.toNat (digs n.natAbs)
    have h0 := pad_len 0 (digs n.natAbs)
    unfold dtext
    split <;> split <;> simp [List.length_take] <;> omega
  unfold dpt
  generalize dtext n m.toNat = D at *
  by_cases hm : m = 0
  · subst hm
    rw [if_pos rfl]
    have hadd : (ByteArray.mk D.toArray) ++ (ByteArray.mk #[46]) = ⟨(D ++ [46]).toArray⟩ := ba_app D [46]
    have hsz : ¬ 9223372036854775807 < (ByteArray.mk D.toArray).size + 1 := by show ¬ _ < D.length + 1; omega
    have hsz2 : (ByteArray.mk D.toArray).size = D.length := rfl
    clear m0 m1 n0 n1
    generalize ByteArray.mk (D ++ [46]).toArray = R at *
    generalize ByteArray.mk D.toArray = E at *
    go_enter Tryz.func117, Tryz.ntmps117
    go_wp2_with (first
      | (go_at_call 188; refine (U _).mono ?_; rintro e w1 ⟨rfl, os1, k1, rfl⟩)
      | (go_at_call 187; refine (P _).mono ?_; rintro e w2 ⟨rfl, os2, k2, rfl⟩))
    go_ret
    exact ⟨rfl, (by repeat (first | assumption | exact Grew.refl _ | apply Grew.drew | apply Grew.drewN | apply Grew.alloc | apply Grew.more))⟩
  · rw [if_neg hm, List.append_nil]
    have hm' : (m == 0) = false := by simpa using hm
    clear m0 m1 n0 n1 hm hlen
    generalize ByteArray.mk D.toArray = E at *
    go_enter Tryz.func117, Tryz.ntmps117
    go_wp2_with (first
      | (go_at_call 188; refine (U _).mono ?_; rintro e w1 ⟨rfl, os1, k1, rfl⟩)
      | (go_at_call 187; refine (P _).mono ?_; rintro e w2 ⟨rfl, os2, k2, rfl⟩))
    go_ret
    exact ⟨rfl, (by repeat (first | assumption | exact Grew.refl _ | apply Grew.drew | apply Grew.drewN | apply Grew.alloc | apply Grew.more))⟩

/-- What Print answers of an Int, a Dec or a Text. -/
def pv (v : Va) : List UInt8 := if vr v then ptext v else []

set_option maxHeartbeats 2000000 in
theorem vprint_any (v : Va) (w : World) (hT : Tabs w) (hP : Ptab w) (hk : v.k = 1 ∨ v.k = 2 ∨ v.k = 3) (hn : -9223372036854775808 ≤ v.n ∧ v.n ≤ 9223372036854775807) :
    Calls Tryz.prog 62 #[vv v] w fun e w' => e = .returned (.string ⟨(pv v).toArray⟩) ∧ Below w.heap.size w w' := by
  obtain ⟨k, n, m, b⟩ := v
  have R : ∀ W, Grew w W → Calls Tryz.prog 75 #[va k n m ⟨b.toArray⟩] W fun e w' => e = .returned (.bool (vr ⟨k, n, m, b⟩)) ∧ Below W.heap.size W w' := fun W h => vright_any k n m ⟨b.toArray⟩ W (hT.later h.below)
  have B0 := Box.new w k n m b
  have hok := vr_iff ⟨k, n, m, b⟩
  unfold pv
  have hI : ∀ W, Below w.heap.size w W → Calls Tryz.prog 116 #[.int .i64 n] W fun e w' => e = .returned (.string ⟨(dtext n 0).toArray⟩) ∧ Grew W w' := fun W h => itoa_any n W hn.1 hn.2 (hP.later h)
  clear hT hP
  cases hvr : vr ⟨k, n, m, b⟩ with
  | false =>
    rw [hvr] at R
    clear hok hI hk
    rw [if_neg (by simp)]
    go_enter Tryz.func62, Tryz.ntmps62
    go_wp2_with (go_at_call 75; refine (R _ (by repeat (first | assumption | exact Grew.refl _ | apply Grew.drew | apply Grew.drewN | apply Grew.alloc | apply Grew.more))).mono ?_; rintro e w1 ⟨rfl, b1⟩)
    go_ret
    exact ⟨rfl, ((Below.refl _ w).alloc (Nat.le_refl _) _).trans (b1.mono (by simp))⟩
  | true =>
    rw [hvr] at R
    have hok' := hok.1 hvr
    rw [if_pos rfl]
    rcases hk with hk | hk | hk
    · have hk' : k = 1 := hk
      subst hk'
      show Calls _ _ _ _ fun e w' => e = .returned (.string ⟨(dtext n 0).toArray⟩) ∧ _
      clear hok hok' hk hvr
      generalize ByteArray.mk (dtext n 0).toArray = D at *
      go_enter Tryz.func62, Tryz.ntmps62
      go_wp2_with (first
        | (go_at_call 75; refine (R _ (by repeat (first | assumption | exact Grew.refl _ | apply Grew.drew | apply Grew.drewN | apply Grew.alloc | apply Grew.more))).mono ?_; rintro e w1 ⟨rfl, b1⟩; have bb : Below w.heap.size w w1 := ((Below.refl _ w).alloc (Nat.le_refl _) _).trans (b1.mono (by simp)); have bx := B0.later b1; obtain ⟨c0, c1, c2, c3⟩ := bx.at4; clear bx)
        | (go_at_call 116; refine (hI _ (by first | assumption | exact below_trans bb (Grew.below (by repeat (first | assumption | exact Grew.refl _ | apply Grew.drew | apply Grew.drewN | apply Grew.alloc | apply Grew.more))))).mono ?_; rintro e w2 ⟨rfl, os2, k2, rfl⟩))
      go_ret
      exact ⟨rfl, below_trans bb (Grew.below (by repeat (first | assumption | exact Grew.refl _ | apply Grew.drew | apply Grew.drewN | apply Grew.alloc | apply Grew.more)))⟩
    · have hk' : k = 2 := hk
      subst hk'
      have hm : 0 ≤ m ∧ m ≤ 6 := by
        have h := hok'
        unfold vok at h
        simp at h
        omega
      have D : ∀ W, Calls Tryz.prog 117 #[va 2 n m ⟨b.toArray⟩] W fun e w' => e = .returned (.string ⟨(dpt n m).toArray⟩) ∧ Grew W w' := fun W => decText_any 2 n m ⟨b.toArray⟩ W hn.1 hn.2 hm.1 hm.2
      show Calls _ _ _ _ fun e w' => e = .returned (.string ⟨(dpt n m).toArray⟩) ∧ _
      clear hok hok' hk hvr hI hm
      generalize ByteArray.mk (dpt n m).toArray = E at *
      go_enter Tryz.func62, Tryz.ntmps62
      go_wp2_with (first
        | (go_at_call 75; refine (R _ (by repeat (first | assumption | exact Grew.refl _ | apply Grew.drew | apply Grew.drewN | apply Grew.alloc | apply Grew.more))).mono ?_; rintro e w1 ⟨rfl, b1⟩; have bb : Below w.heap.size w w1 := ((Below.refl _ w).alloc (Nat.le_refl _) _).trans (b1.mono (by simp)); have bx := B0.later b1; obtain ⟨c0, c1, c2, c3⟩ := bx.at4; clear bx)
        | (go_at_call 117; refine (D _).mono ?_; rintro e w2 ⟨rfl, os2, k2, rfl⟩))
      go_ret
      exact ⟨rfl, below_trans bb (Grew.below (by repeat (first | assumption | exact Grew.refl _ | apply Grew.drew | apply Grew.drewN | apply Grew.alloc | apply Grew.more)))⟩
    · have hk' : k = 3 := hk
      subst hk'
      have hl : b.length ≤ 256 := by
        have h := hok'
        unfold vok at h
        simp at h
        omega
      have Q : ∀ W, Calls Tryz.prog 118 #[.string ⟨b.toArray⟩] W fun e w' => e = .returned (.string ⟨(quoL b).toArray⟩) ∧ Below W.heap.size W w' := fun W => quoted_any ⟨b.toArray⟩ W (by show b.length ≤ 1000; omega)
      show Calls _ _ _ _ fun e w' => e = .returned (.string ⟨(quoL b).toArray⟩) ∧ _
      clear hok hok' hk hvr hI hl
      generalize ByteArray.mk (quoL b).toArray = E at *
      go_enter Tryz.func62, Tryz.ntmps62
      go_wp2_with (first
        | (go_at_call 75; refine (R _ (by repeat (first | assumption | exact Grew.refl _ | apply Grew.drew | apply Grew.drewN | apply Grew.alloc | apply Grew.more))).mono ?_; rintro e w1 ⟨rfl, b1⟩; have bb : Below w.heap.size w w1 := ((Below.refl _ w).alloc (Nat.le_refl _) _).trans (b1.mono (by simp)); have bx := B0.later b1; obtain ⟨c0, c1, c2, c3⟩ := bx.at4; clear bx)
        | (go_at_call 118; refine (Q _).mono ?_; rintro e w2 ⟨rfl, b2⟩))
      go_ret
      exact ⟨rfl, below_trans bb b2⟩
end Go.Proofs.YtclhmmgdhagloaaGreatDoor
