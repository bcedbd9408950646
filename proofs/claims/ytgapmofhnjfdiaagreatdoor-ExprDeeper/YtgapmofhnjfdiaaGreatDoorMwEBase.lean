/-
  The contract of expr.Reserved: whether a text is one of the reserved words.
  Nodes of expressions: operands and named, and the comparison of two nodes.
-/
import Derived.Test.YtgapmofhnjfdiaaGreatDoorChecked
import Derived.Test.YtgapmofhnjfdiaaGreatDoorMfDWide3
import Derived.WalkKit
import Derived.WalkSpells
import Derived.WalkLawsBesides
import Derived.Laws.IdiomStrings
import Derived.Test.YtgapmofhnjfdiaaGreatDoorVLogic
import Derived.Test.YtgapmofhnjfdiaaGreatDoorVMath
import Derived.WalkMore
import Derived.Below
import Derived.BigRegion
namespace Go.Proofs.YtgapmofhnjfdiaaGreatDoor
open Go.RowKit

/-- The reserved words. -/
def resW : List (List UInt8) := [[97, 110, 100], [111, 114], [110, 111, 116], [105, 115], [110, 117, 108, 108], [116, 114, 117, 101], [102, 97, 108, 115, 101], [115, 101, 108, 101, 99, 116], [100, 105, 115, 116, 105, 110, 99, 116], [102, 114, 111, 109], [119, 104, 101, 114, 101], [103, 114, 111, 117, 112], [98, 121], [104, 97, 118, 105, 110, 103], [111, 114, 100, 101, 114], [97, 115, 99], [100, 101, 115, 99], [108, 105, 109, 105, 116], [117, 110, 105, 111, 110], [97, 108, 108], [106, 111, 105, 110], [108, 101, 102, 116], [99, 114, 111, 115, 115], [111, 110], [97, 115], [105, 110, 115, 101, 114, 116], [105, 110, 116, 111], [118, 97, 108, 117, 101, 115], [117, 112, 100, 97, 116, 101], [115, 101, 116], [100, 101, 108, 101, 116, 101], [99, 114, 101, 97, 116, 101], [116, 97, 98, 108, 101], [100, 114, 111, 112], [112, 114, 105, 109, 97, 114, 121], [107, 101, 121], [117, 110, 105, 113, 117, 101], [99, 104, 101, 99, 107], [98, 101, 103, 105, 110], [99, 111, 109, 109, 105, 116], [114, 111, 108, 108, 98, 97, 99, 107]]
def resL (l : List UInt8) : Bool := resW.contains l

set_option maxRecDepth 20000 in
set_option maxHeartbeats 4000000 in
theorem reserved_any (B : ByteArray) (w : World) : Calls Tryz.prog 40 #[.string B] w fun e w' => e = .returned (.bool (resL B.toList)) ∧ w = w' := by
  obtain ⟨R, hR⟩ : ∃ R, R = resL B.toList := ⟨_, rfl⟩
  rw [← hR]
  have HR : Hid (R = resL B.toList) := hR
  clear hR
  go_enter Tryz.func40, Tryz.ntmps40
  go_wp2
  all_goals first
    | (rename_i h1 h2; exact absurd (h1.symm.trans h2) (by decide))
    | (rename_i h1 h2; exact absurd (h2.symm.trans h1) (by decide))
    | (go_ret
       refine ⟨?_, rfl⟩
       rw [HR.out]
       unfold resL resW
       simp only [List.contains_cons, List.contains_nil, Bool.false_or, Bool.true_or, Bool.or_self, *] <;> rfl)
end Go.Proofs.YtgapmofhnjfdiaaGreatDoor

namespace Go.Proofs.YtgapmofhnjfdiaaGreatDoor
open Go.RowKit
attribute [local go_sem] cell?_more frozen?_more setCell_more more_lt more_more more_drew more_drewN setCell_drewN alloc_drewN

/-- A node of whatever parts. -/
structure Nd where
  o : Int
  t : List UInt8
  n : List UInt8
  v : Va
  a : Int
abbrev ncs (x : Nd) : Array Value := #[.int .i64 x.o, .string ⟨x.t.toArray⟩, .string ⟨x.n.toArray⟩, .int .i64 x.v.k, .int .i64 x.v.n, .int .i64 x.v.m, .string ⟨x.v.b.toArray⟩, .int .i64 x.a]
abbrev ndv (x : Nd) : Value := .agg (ncs x)

/-- With how many expressions a node is done. -/
def opsN (x : Nd) : Int := if x.o = 19 then x.a else if 6 ≤ x.o then 2 else if 3 ≤ x.o then 1 else 0

theorem operands_any (x : Nd) (w : World) : Calls Tryz.prog 34 #[ndv x] w fun e w' => e = .returned (.int .i64 (opsN x)) ∧ Grew w w' := by
  obtain ⟨o, t, n, v, a⟩ := x
  unfold opsN
  simp only
  by_cases h1 : o = 19
  · subst h1
    rw [if_pos rfl]
    go_enter Tryz.func34, Tryz.ntmps34
    go_wp2
    go_ret
    exact ⟨rfl, (Grew.refl _).alloc _⟩
  rw [if_neg h1]
  have e1 : (o == 19) = false := by rw [beq_eq_false_iff_ne]; exact h1
  by_cases h2 : 6 ≤ o
  · rw [if_pos h2]
    go_enter Tryz.func34, Tryz.ntmps34
    go_wp2
    go_ret
    exact ⟨rfl, (Grew.refl _).alloc _⟩
  rw [if_neg h2]
  by_cases h3 : 3 ≤ o
  · rw [if_pos h3]
    go_enter Tryz.func34, Tryz.ntmps34
    go_wp2
    go_ret
    exact ⟨rfl, (Grew.refl _).alloc _⟩
  · rw [if_neg h3]
    go_enter Tryz.func34, Tryz.ntmps34
    go_wp2
    go_ret
    exact ⟨rfl, (Grew.refl _).alloc _⟩

/-- The zero value. -/
abbrev vz0 : Va := ⟨0, 0, 0, []⟩
/-- A node with just the parts that its Op names. -/
def namedN (x : Nd) : Nd := if x.o = 1 then ⟨1, [], [], x.v, 0⟩ else if x.o = 2 then ⟨2, x.t, x.n, vz0, 0⟩ else if x.o = 19 then ⟨19, [], x.n, vz0, x.a⟩ else ⟨x.o, [], [], vz0, 0⟩

set_option maxHeartbeats 4000000 in
theorem enamed_any (x : Nd) (w : World) : Calls Tryz.prog 91 #[ndv x] w fun e w' => e = .returned (ndv (namedN x)) ∧ Grew w w' := by
  obtain ⟨o, t, n, v, a⟩ := x
  unfold namedN
  simp only
  by_cases h1 : o = 1
  · subst h1
    rw [if_pos rfl]
    go_enter Tryz.func91, Tryz.ntmps91
    go_wp2
    refine bodyPost_ret_by (v := ndv ⟨1, [], [], v, 0⟩) ?_ rfl ⟨rfl, by repeat (first | exact Grew.refl _ | apply Grew.drew | apply Grew.drewN | apply Grew.alloc)⟩
    simp [results, Tryz.results91, go_sem]
  rw [if_neg h1]
  have e1 : (o == 1) = false := by rw [beq_eq_false_iff_ne]; exact h1
  by_cases h2 : o = 2
  · subst h2
    rw [if_pos rfl]
    go_enter Tryz.func91, Tryz.ntmps91
    go_wp2
    refine bodyPost_ret_by (v := ndv ⟨2, t, n, vz0, 0⟩) ?_ rfl ⟨rfl, by repeat (first | exact Grew.refl _ | apply Grew.drew | apply Grew.drewN | apply Grew.alloc)⟩
    simp [results, Tryz.results91, go_sem]
  rw [if_neg h2]
  have e2 : (o == 2) = false := by rw [beq_eq_false_iff_ne]; exact h2
  by_cases h3 : o = 19
  · subst h3
    rw [if_pos rfl]
    go_enter Tryz.func91, Tryz.ntmps91
    go_wp2
    refine bodyPost_ret_by (v := ndv ⟨19, [], n, vz0, a⟩) ?_ rfl ⟨rfl, by repeat (first | exact Grew.refl _ | apply Grew.drew | apply Grew.drewN | apply Grew.alloc)⟩
    simp [results, Tryz.results91, go_sem]
  · rw [if_neg h3]
    have e3 : (o == 19) = false := by rw [beq_eq_false_iff_ne]; exact h3
    go_enter Tryz.func91, Tryz.ntmps91
    go_wp2
    refine bodyPost_ret_by (v := ndv ⟨o, [], [], vz0, 0⟩) ?_ rfl ⟨rfl, by repeat (first | exact Grew.refl _ | apply Grew.drew | apply Grew.drewN | apply Grew.alloc)⟩
    simp [results, Tryz.results91, go_sem]

/-- Are two nodes the same, part by part? -/
def sameV0 (a b : Va) : Bool := a.k == b.k && (a.n == b.n && (a.m == b.m && a.b == b.b))
def sameN (x y : Nd) : Bool := x.o == y.o && (x.t == y.t && (x.n == y.n && (sameV0 x.v y.v && x.a == y.a)))

theorem eqNd_at (N : Nat) (k k' a a' vk vn vm vk' vn' vm' : Int) (b b' d d' c c' : ByteArray) (w : World) :
    (Op.equalIn (N + 3) 32 (.agg #[.int .i64 k, .string b, .string d, .int .i64 vk, .int .i64 vn, .int .i64 vm, .string c, .int .i64 a]) (.agg #[.int .i64 k', .string b', .string d', .int .i64 vk', .int .i64 vn', .int .i64 vm', .string c', .int .i64 a'])).run Tryz.prog w
      = .ok (k == k' && (b.toList == b'.toList && (d.toList == d'.toList && ((vk == vk' && (vn == vn' && (vm == vm' && c.toList == c'.toList))) && a == a')))) w := by
  have u3 := Tryz.underlying3
  have a3 := Tryz.isAgg3
  have z3 := Tryz.sizeOf3
  have u4 := Tryz.underlying9
  have a4 := Tryz.isAgg9
  have z4 := Tryz.sizeOf9
  have a5 := Tryz.isAgg30
  have hS : Tryz.prog.underlying 32 = some (.struct (Tryz.prog.fieldsOf 32)) := by kernel_rfl
  have hp : Tryz.prog.stoodInHeld 32 = false := by kernel_rfl
  rw [run_equalIn_agg w (N + 2) 32 _ _ hS hp]
  simp only [Program.fieldsOf, Tryz.underlying32]
  go_simp
  by_cases h1 : k = k'
  case neg => simp [h1]
  by_cases h2 : b.toList = b'.toList
  case neg => simp [h2]
  by_cases h2' : d.toList = d'.toList
  case neg => simp [h2']
  by_cases h3 : vk = vk'
  case neg => simp [h3]
  by_cases h4 : vn = vn'
  case neg => simp [h4]
  by_cases h5 : vm = vm'
  case neg => simp [h5]
  by_cases h6 : c.toList = c'.toList
  case neg => simp [h6]
  by_cases h7 : a = a' <;> simp [h1, h2, h2', h3, h4, h5, h6, h7]
theorem ba_eq0 (a b : List UInt8) : ((ByteArray.mk a.toArray).toList == (ByteArray.mk b.toArray).toList) = (a == b) := by
  rw [ByteArray.toList_eq, ByteArray.toList_eq]
theorem eqNd (x y : Nd) (w : World) : (Op.equalIn 10000 32 (ndv x) (ndv y)).run Tryz.prog w = .ok (sameN x y) w := by
  have := eqNd_at 9997 x.o y.o x.a y.a x.v.k x.v.n x.v.m y.v.k y.v.n y.v.m ⟨x.t.toArray⟩ ⟨y.t.toArray⟩ ⟨x.n.toArray⟩ ⟨y.n.toArray⟩ ⟨x.v.b.toArray⟩ ⟨y.v.b.toArray⟩ w
  rw [ba_eq0, ba_eq0, ba_eq0] at this
  exact this
theorem sameN_eq {x y : Nd} : sameN x y = true ↔ x = y := by
  obtain ⟨xo, xt, xn, ⟨xk, xx, xm, xb⟩, xa⟩ := x
  obtain ⟨yo, yt, yn, ⟨yk, yx, ym, yb⟩, ya⟩ := y
  simp [sameN, sameV0]
end Go.Proofs.YtgapmofhnjfdiaaGreatDoor
