/-
  eval.Function.
  The document's answers for eval: known names.
  Ops of two Texts: eval.ofTexts.
  eval.Binary, whole: what an op of two comes to.
  eval.Function, whole.
  What must come: longstoplaw07.knows; on its road eval.Function at 'length' and one Text.
  The walk of EvalRight.
  The walk of EvalLaws.
-/
import Derived.Test.YtgapmofhnjfdiaaGreatDoorMHQFun2
import Derived.Test.YtgapmofhnjfdiaaGreatDoorQCallA
import Derived.Test.YtgapmofhnjfdiaaGreatDoorQCallB
import Derived.Test.YtgapmofhnjfdiaaGreatDoorQCallC
import Derived.Test.YtgapmofhnjfdiaaGreatDoorMBQFun0
import Derived.Test.YtgapmofhnjfdiaaGreatDoorMyVTruW
import Derived.Test.YtgapmofhnjfdiaaGreatDoorLShelf
import Derived.Test.YtgapmofhnjfdiaaGreatDoorMCQBinA
import Derived.Test.YtgapmofhnjfdiaaGreatDoorMDQNums
import Derived.Test.YtgapmofhnjfdiaaGreatDoorQPts
import Derived.Deep.Cut
import Derived.Deep.CutRange
namespace Go.Proofs.YtgapmofhnjfdiaaGreatDoor
open Go.RowKit Go.Shelf
attribute [local go_sem] cell?_more frozen?_more setCell_more more_lt more_more more_drew more_drewN setCell_drewN alloc_drewN

set_option maxHeartbeats 1000000 in
theorem fun_bad (B : ByteArray) (ao : Option Addr) (n cap : Nat) (w : World)  (A : Tells 76 #[.slice ao n cap] w (.bool false)) :
    Calls Tryz.prog 22 #[.string B, .slice ao n cap] w fun e w' => e = .returned (.tuple #[va 0 0 0 ⟨#[]⟩, .int .i64 1]) ∧ Below w.heap.size w w' := by
  obtain ⟨w0, hw0, bxr, Bw⟩ := res_box w
  go_enter Tryz.func22, Tryz.ntmps22
  go_upto_region 1 with fail
  rw [← hw0]
  clear hw0
  have B0 : Below w0.heap.size w0 w0 := Below.refl _ _
  go_wp2_with fail
  refine (A _ (below_trans Bw B0)).mono ?_
  rintro e w1 ⟨rfl, c⟩
  have B1 := below_trans B0 c
  clear c
  have br := bxr.later B1
  obtain ⟨r0, r1, r2, r3⟩ := br.at4
  dsimp only [nul] at r0 r1 r2 r3
  simp only [Nat.zero_add] at r1 r2 r3
  have f0 := br.free 0
  have f1 := br.free 1
  have f2 := br.free 2
  have f3 := br.free 3
  have lt1 := br.lt
  have Be := below_trans Bw B1
  go_wp2
  refine bodyPost_ret_by (v := .tuple #[va 0 0 0 ⟨#[]⟩, .int .i64 1]) ?_ rfl ⟨rfl, ?_⟩
  · simp [results, Tryz.results22, go_sem, r0, r1, r2, r3]
  · exact (Be.setCell (p := ⟨w.heap.size, 0, none⟩) (Nat.le_refl _) (.int .i64 0) |>.setCell (p := ⟨w.heap.size, 1, none⟩) (Nat.le_refl _) (.int .i64 0) |>.setCell (p := ⟨w.heap.size, 2, none⟩) (Nat.le_refl _) (.int .i64 0) |>.setCell (p := ⟨w.heap.size, 3, none⟩) (Nat.le_refl _) (.string ⟨#[]⟩))

set_option maxHeartbeats 1000000 in
theorem fun_name (B : ByteArray) (ao : Option Addr) (n cap : Nat) (w : World)  (A : Tells 76 #[.slice ao n cap] w (.bool true)) (I : Tells 77 #[.string B, .int .i64 (n : Int)] w (.bool false)) :
    Calls Tryz.prog 22 #[.string B, .slice ao n cap] w fun e w' => e = .returned (.tuple #[va 0 0 0 ⟨#[]⟩, .int .i64 34]) ∧ Below w.heap.size w w' := by
  obtain ⟨w0, hw0, bxr, Bw⟩ := res_box w
  go_enter Tryz.func22, Tryz.ntmps22
  go_upto_region 1 with fail
  rw [← hw0]
  clear hw0
  have B0 : Below w0.heap.size w0 w0 := Below.refl _ _
  go_wp2_with fail
  refine (A _ (below_trans Bw B0)).mono ?_
  rintro e w1 ⟨rfl, c⟩
  have B1 := below_trans B0 c
  clear c
  go_wp2_with fail
  refine (I _ (below_trans Bw B1)).mono ?_
  rintro e w2 ⟨rfl, c⟩
  have B2 := below_trans B1 c
  clear c
  have br := bxr.later B2
  obtain ⟨r0, r1, r2, r3⟩ := br.at4
  dsimp only [nul] at r0 r1 r2 r3
  simp only [Nat.zero_add] at r1 r2 r3
  have f0 := br.free 0
  have f1 := br.free 1
  have f2 := br.free 2
  have f3 := br.free 3
  have lt1 := br.lt
  have Be := below_trans Bw B2
  go_wp2
  refine bodyPost_ret_by (v := .tuple #[va 0 0 0 ⟨#[]⟩, .int .i64 34]) ?_ rfl ⟨rfl, ?_⟩
  · simp [results, Tryz.results22, go_sem, r0, r1, r2, r3]
  · exact (Be.setCell (p := ⟨w.heap.size, 0, none⟩) (Nat.le_refl _) (.int .i64 0) |>.setCell (p := ⟨w.heap.size, 1, none⟩) (Nat.le_refl _) (.int .i64 0) |>.setCell (p := ⟨w.heap.size, 2, none⟩) (Nat.le_refl _) (.int .i64 0) |>.setCell (p := ⟨w.heap.size, 3, none⟩) (Nat.le_refl _) (.string ⟨#[]⟩))

set_option maxHeartbeats 1000000 in
theorem fun_coal (ao : Option Addr) (n cap : Nat) (w : World) (rk rn rm : Int) (rb : ByteArray) (A : Tells 76 #[.slice ao n cap] w (.bool true)) (I : Tells 77 #[.string ⟨#[99, 111, 97, 108, 101, 115, 99, 101]⟩, .int .i64 (n : Int)] w (.bool true)) (F : Tells 78 #[.slice ao n cap] w (va rk rn rm rb)) :
    Calls Tryz.prog 22 #[.string ⟨#[99, 111, 97, 108, 101, 115, 99, 101]⟩, .slice ao n cap] w fun e w' => e = .returned (.tuple #[va rk rn rm rb, .int .i64 0]) ∧ Below w.heap.size w w' := by
  obtain ⟨w0, hw0, bxr, Bw⟩ := res_box w
  go_enter Tryz.func22, Tryz.ntmps22
  go_upto_region 1 with fail
  rw [← hw0]
  clear hw0
  have B0 : Below w0.heap.size w0 w0 := Below.refl _ _
  go_wp2_with fail
  refine (A _ (below_trans Bw B0)).mono ?_
  rintro e w1 ⟨rfl, c⟩
  have B1 := below_trans B0 c
  clear c
  go_wp2_with fail
  refine (I _ (below_trans Bw B1)).mono ?_
  rintro e w2 ⟨rfl, c⟩
  have B2 := below_trans B1 c
  clear c
  go_wp2_with fail
  refine (F _ (below_trans Bw B2)).mono ?_
  rintro e w3 ⟨rfl, c⟩
  have B3 := below_trans B2 c
  clear c
  have br := bxr.later B3
  obtain ⟨r0, r1, r2, r3⟩ := br.at4
  dsimp only [nul] at r0 r1 r2 r3
  simp only [Nat.zero_add] at r1 r2 r3
  have f0 := br.free 0
  have f1 := br.free 1
  have f2 := br.free 2
  have f3 := br.free 3
  have lt1 := br.lt
  have Be := below_trans Bw B3
  go_wp2
  refine bodyPost_ret_by (v := .tuple #[va rk rn rm rb, .int .i64 0]) ?_ rfl ⟨rfl, ?_⟩
  · simp [results, Tryz.results22, go_sem, r0, r1, r2, r3]
  · exact (Be.setCell (p := ⟨w.heap.size, 0, none⟩) (Nat.le_refl _) (.int .i64 rk) |>.setCell (p := ⟨w.heap.size, 1, none⟩) (Nat.le_refl _) (.int .i64 rn) |>.setCell (p := ⟨w.heap.size, 2, none⟩) (Nat.le_refl _) (.int .i64 rm) |>.setCell (p := ⟨w.heap.size, 3, none⟩) (Nat.le_refl _) (.string rb))

set_option maxHeartbeats 1000000 in
theorem fun_null (B : ByteArray) (ao : Option Addr) (n cap : Nat) (w : World) (e7 : (B.toList == [99, 111, 97, 108, 101, 115, 99, 101]) = false) (A : Tells 76 #[.slice ao n cap] w (.bool true)) (I : Tells 77 #[.string B, .int .i64 (n : Int)] w (.bool true)) (C : Tells 79 #[.slice ao n cap, va 0 0 0 ⟨#[]⟩] w (.bool true)) :
    Calls Tryz.prog 22 #[.string B, .slice ao n cap] w fun e w' => e = .returned (.tuple #[va 0 0 0 ⟨#[]⟩, .int .i64 0]) ∧ Below w.heap.size w w' := by
  obtain ⟨w0, hw0, bxr, Bw⟩ := res_box w
  go_enter Tryz.func22, Tryz.ntmps22
  go_upto_region 1 with fail
  rw [← hw0]
  clear hw0
  have B0 : Below w0.heap.size w0 w0 := Below.refl _ _
  go_wp2_with fail
  refine (A _ (below_trans Bw B0)).mono ?_
  rintro e w1 ⟨rfl, c⟩
  have B1 := below_trans B0 c
  clear c
  go_wp2_with fail
  refine (I _ (below_trans Bw B1)).mono ?_
  rintro e w2 ⟨rfl, c⟩
  have B2 := below_trans B1 c
  clear c
  go_wp2_with fail
  refine (C _ (below_trans Bw B2)).mono ?_
  rintro e w3 ⟨rfl, c⟩
  have B3 := below_trans B2 c
  clear c
  have br := bxr.later B3
  obtain ⟨r0, r1, r2, r3⟩ := br.at4
  dsimp only [nul] at r0 r1 r2 r3
  simp only [Nat.zero_add] at r1 r2 r3
  have f0 := br.free 0
  have f1 := br.free 1
  have f2 := br.free 2
  have f3 := br.free 3
  have lt1 := br.lt
  have Be := below_trans Bw B3
  go_wp2
  refine bodyPost_ret_by (v := .tuple #[va 0 0 0 ⟨#[]⟩, .int .i64 0]) ?_ rfl ⟨rfl, ?_⟩
  · simp [results, Tryz.results22, go_sem, r0, r1, r2, r3]
  · exact (Be.setCell (p := ⟨w.heap.size, 0, none⟩) (Nat.le_refl _) (.int .i64 0) |>.setCell (p := ⟨w.heap.size, 1, none⟩) (Nat.le_refl _) (.int .i64 0) |>.setCell (p := ⟨w.heap.size, 2, none⟩) (Nat.le_refl _) (.int .i64 0) |>.setCell (p := ⟨w.heap.size, 3, none⟩) (Nat.le_refl _) (.string ⟨#[]⟩))

set_option maxHeartbeats 1000000 in
theorem fun_call (B : ByteArray) (ao : Option Addr) (n cap : Nat) (w : World) (rk rn rm re : Int) (rb : ByteArray) (e7 : (B.toList == [99, 111, 97, 108, 101, 115, 99, 101]) = false) (A : Tells 76 #[.slice ao n cap] w (.bool true)) (I : Tells 77 #[.string B, .int .i64 (n : Int)] w (.bool true)) (C : Tells 79 #[.slice ao n cap, va 0 0 0 ⟨#[]⟩] w (.bool false)) (F : Tells 80 #[.string B, .slice ao n cap] w (.tuple #[va rk rn rm rb, .int .i64 re])) :
    Calls Tryz.prog 22 #[.string B, .slice ao n cap] w fun e w' => e = .returned (.tuple #[va rk rn rm rb, .int .i64 re]) ∧ Below w.heap.size w w' := by
  obtain ⟨w0, hw0, bxr, Bw⟩ := res_box w
  go_enter Tryz.func22, Tryz.ntmps22
  go_upto_region 1 with fail
  rw [← hw0]
  clear hw0
  have B0 : Below w0.heap.size w0 w0 := Below.refl _ _
  go_wp2_with fail
  refine (A _ (below_trans Bw B0)).mono ?_
  rintro e w1 ⟨rfl, c⟩
  have B1 := below_trans B0 c
  clear c
  go_wp2_with fail
  refine (I _ (below_trans Bw B1)).mono ?_
  rintro e w2 ⟨rfl, c⟩
  have B2 := below_trans B1 c
  clear c
  go_wp2_with fail
  refine (C _ (below_trans Bw B2)).mono ?_
  rintro e w3 ⟨rfl, c⟩
  have B3 := below_trans B2 c
  clear c
  go_wp2_with fail
  refine (F _ (below_trans Bw B3)).mono ?_
  rintro e w4 ⟨rfl, c⟩
  have B4 := below_trans B3 c
  clear c
  have br := bxr.later B4
  obtain ⟨r0, r1, r2, r3⟩ := br.at4
  dsimp only [nul] at r0 r1 r2 r3
  simp only [Nat.zero_add] at r1 r2 r3
  have f0 := br.free 0
  have f1 := br.free 1
  have f2 := br.free 2
  have f3 := br.free 3
  have lt1 := br.lt
  have Be := below_trans Bw B4
  go_wp2
  refine bodyPost_ret_by (v := .tuple #[va rk rn rm rb, .int .i64 re]) ?_ rfl ⟨rfl, ?_⟩
  · simp [results, Tryz.results22, go_sem, r0, r1, r2, r3]
  · exact (Be.setCell (p := ⟨w.heap.size, 0, none⟩) (Nat.le_refl _) (.int .i64 rk) |>.setCell (p := ⟨w.heap.size, 1, none⟩) (Nat.le_refl _) (.int .i64 rn) |>.setCell (p := ⟨w.heap.size, 2, none⟩) (Nat.le_refl _) (.int .i64 rm) |>.setCell (p := ⟨w.heap.size, 3, none⟩) (Nat.le_refl _) (.string rb))

/-- What a function comes to of values none of which is null. -/
def absR (a : Va) : Va × Int := if a.n < 0 then negR a else (a, 0)
def cal1 (nm : List UInt8) (a : Va) : Va × Int :=
  if nm = sLength then (if a.k = 3 then (vI (a.b.length : Int), 0) else (nul, 31))
  else if nm = sAbs then (if isn a then absR a else (nul, 31))
  else if nm = sNorm then (if a.k = 5 then (vI (Ga.nrm a.n a.m), 0) else (nul, 31))
  else if nm = sPx then (if a.k = 5 then (vI a.n, 0) else (nul, 31))
  else (if a.k = 5 then (vI a.m, 0) else (nul, 31))
def cal2 (nm : List UInt8) (a b : Va) : Va × Int :=
  if nm = sPoint then (if a.k = 1 ∧ b.k = 1 then ptAtR a.n b.n else (nul, 31))
  else (if isn a ∧ b.k = 1 then rndR a.n a.m b.n else (nul, 31))
def calR (nm : List UInt8) : List Va → Va × Int
  | [a] => cal1 nm a
  | [a, b] => cal2 nm a b
  | _ => (nul, 31)
/-- What a function comes to. -/
def funR (nm : List UInt8) (l : List Va) : Va × Int :=
  if l.all vr = false then (nul, 1) else if isF nm l.length = false then (nul, 34) else if nm = sCoalesce then (firstK l, 0) else if l.any zq = true then (nul, 0) else calR nm l
end Go.Proofs.YtgapmofhnjfdiaaGreatDoor

namespace Go.Proofs.YtgapmofhnjfdiaaGreatDoor
open Go.RowKit Go.Shelf
attribute [local go_sem] cell?_more frozen?_more setCell_more more_lt more_more more_drew more_drewN setCell_drewN alloc_drewN cell?_drawTo frozen?_drawTo heap_drawTo setCell_drawTo alloc_drawTo drewN_drawTo drew_drawTo drawTo_drewN drawTo_drew drawTo_drawTo more_drawTo

/-- How many arguments a function has; whether there is one. -/
def knR (nm : List UInt8) : Int × Int × Bool :=
  if nm = sLength ∨ nm = sAbs ∨ nm = sNorm ∨ nm = sPx ∨ nm = sPy then (1, 1, true) else if nm = sPoint ∨ nm = sRound then (2, 2, true) else if nm = sCoalesce then (1, 4, true) else (0, 0, false)

theorem kn_length (w : World) : Calls Tryz.prog 81 #[.string ⟨#[108, 101, 110, 103, 116, 104]⟩] w fun e w' => e = .returned (.tuple #[.int .i64 1, .int .i64 1, .bool true]) ∧ w = w' := by
  go_enter Tryz.func81, Tryz.ntmps81
  go_wp2
  refine bodyPost_ret_by (v := .tuple #[.int .i64 1, .int .i64 1, .bool true]) ?_ rfl ⟨rfl, rfl⟩
  simp [results, Tryz.results81, go_sem]

theorem kn_abs (w : World) : Calls Tryz.prog 81 #[.string ⟨#[97, 98, 115]⟩] w fun e w' => e = .returned (.tuple #[.int .i64 1, .int .i64 1, .bool true]) ∧ w = w' := by
  go_enter Tryz.func81, Tryz.ntmps81
  go_wp2
  refine bodyPost_ret_by (v := .tuple #[.int .i64 1, .int .i64 1, .bool true]) ?_ rfl ⟨rfl, rfl⟩
  simp [results, Tryz.results81, go_sem]

theorem kn_norm (w : World) : Calls Tryz.prog 81 #[.string ⟨#[110, 111, 114, 109]⟩] w fun e w' => e = .returned (.tuple #[.int .i64 1, .int .i64 1, .bool true]) ∧ w = w' := by
  go_enter Tryz.func81, Tryz.ntmps81
  go_wp2
  refine bodyPost_ret_by (v := .tuple #[.int .i64 1, .int .i64 1, .bool true]) ?_ rfl ⟨rfl, rfl⟩
  simp [results, Tryz.results81, go_sem]

theorem kn_px (w : World) : Calls Tryz.prog 81 #[.string ⟨#[112, 120]⟩] w fun e w' => e = .returned (.tuple #[.int .i64 1, .int .i64 1, .bool true]) ∧ w = w' := by
  go_enter Tryz.func81, Tryz.ntmps81
  go_wp2
  refine bodyPost_ret_by (v := .tuple #[.int .i64 1, .int .i64 1, .bool true]) ?_ rfl ⟨rfl, rfl⟩
  simp [results, Tryz.results81, go_sem]

theorem kn_py (w : World) : Calls Tryz.prog 81 #[.string ⟨#[112, 121]⟩] w fun e w' => e = .returned (.tuple #[.int .i64 1, .int .i64 1, .bool true]) ∧ w = w' := by
  go_enter Tryz.func81, Tryz.ntmps81
  go_wp2
  refine bodyPost_ret_by (v := .tuple #[.int .i64 1, .int .i64 1, .bool true]) ?_ rfl ⟨rfl, rfl⟩
  simp [results, Tryz.results81, go_sem]

theorem kn_point (w : World) : Calls Tryz.prog 81 #[.string ⟨#[112, 111, 105, 110, 116]⟩] w fun e w' => e = .returned (.tuple #[.int .i64 2, .int .i64 2, .bool true]) ∧ w = w' := by
  go_enter Tryz.func81, Tryz.ntmps81
  go_wp2
  refine bodyPost_ret_by (v := .tuple #[.int .i64 2, .int .i64 2, .bool true]) ?_ rfl ⟨rfl, rfl⟩
  simp [results, Tryz.results81, go_sem]

theorem kn_round (w : World) : Calls Tryz.prog 81 #[.string ⟨#[114, 111, 117, 110, 100]⟩] w fun e w' => e = .returned (.tuple #[.int .i64 2, .int .i64 2, .bool true]) ∧ w = w' := by
  go_enter Tryz.func81, Tryz.ntmps81
  go_wp2
  refine bodyPost_ret_by (v := .tuple #[.int .i64 2, .int .i64 2, .bool true]) ?_ rfl ⟨rfl, rfl⟩
  simp [results, Tryz.results81, go_sem]

theorem kn_coalesce (w : World) : Calls Tryz.prog 81 #[.string ⟨#[99, 111, 97, 108, 101, 115, 99, 101]⟩] w fun e w' => e = .returned (.tuple #[.int .i64 1, .int .i64 4, .bool true]) ∧ w = w' := by
  go_enter Tryz.func81, Tryz.ntmps81
  go_wp2
  refine bodyPost_ret_by (v := .tuple #[.int .i64 1, .int .i64 4, .bool true]) ?_ rfl ⟨rfl, rfl⟩
  simp [results, Tryz.results81, go_sem]

theorem kn_other (B : ByteArray) (w : World) (e0 : (B.toList == [108, 101, 110, 103, 116, 104]) = false) (e1 : (B.toList == [97, 98, 115]) = false) (e2 : (B.toList == [110, 111, 114, 109]) = false) (e3 : (B.toList == [112, 120]) = false) (e4 : (B.toList == [112, 121]) = false) (e5 : (B.toList == [112, 111, 105, 110, 116]) = false) (e6 : (B.toList == [114, 111, 117, 110, 100]) = false) (e7 : (B.toList == [99, 111, 97, 108, 101, 115, 99, 101]) = false) : Calls Tryz.prog 81 #[.string B] w fun e w' => e = .returned (.tuple #[.int .i64 0, .int .i64 0, .bool false]) ∧ w = w' := by
  go_enter Tryz.func81, Tryz.ntmps81
  go_wp2
  refine bodyPost_ret_by (v := .tuple #[.int .i64 0, .int .i64 0, .bool false]) ?_ rfl ⟨rfl, rfl⟩
  simp [results, Tryz.results81, go_sem]

/-- Is one of the first k null? -/
def zf (l : List Va) (k : Nat) : Bool := (l.take k).any fun x => x.k == 0
theorem zf_step (l : List Va) (k : Nat) (h : k < l.length) : zf l (k + 1) = (zf l k || (l[k].k == 0)) := by
  unfold zf
  rw [List.take_succ_eq_append_getElem h, List.any_append]
  simp
end Go.Proofs.YtgapmofhnjfdiaaGreatDoor

namespace Go.Proofs.YtgapmofhnjfdiaaGreatDoor
open Go.RowKit Go.Shelf
attribute [local go_sem] cell?_more frozen?_more setCell_more more_lt more_more more_drew more_drewN setCell_drewN alloc_drewN

set_option maxHeartbeats 2000000 in
theorem qtxt_cmp (op c : Int) (an am bn bm : Int) (ab bb : List UInt8) (w : World) (e9 : (op != 9) = true) (D : Tells 66 #[va 3 an am ⟨ab.toArray⟩, va 3 bn bm ⟨bb.toArray⟩] w (.int .i64 c)) :
    Calls Tryz.prog 64 #[.int .i64 op, va 3 an am ⟨ab.toArray⟩, va 3 bn bm ⟨bb.toArray⟩] w fun e w' => e = .returned (rs (cmpR op c)) ∧ Below w.heap.size w w' := by
  have HC := fun W => qcompared_any op c W
  obtain ⟨w0, hw0, bxa, bxb, bxr, Bw⟩ := three_boxes w ⟨3, an, am, ab⟩ ⟨3, bn, bm, bb⟩
  dsimp only at hw0
  have B0 : Below w0.heap.size w0 w0 := Below.refl _ _
  go_enter Tryz.func64, Tryz.ntmps64
  go_wp2_with fail
  rw [← hw0]
  clear hw0
  obtain ⟨a0, a1, a2, a3⟩ := bxa.at4
  obtain ⟨b0, b1, b2, b3⟩ := bxb.at4
  dsimp only at a0 a1 a2 a3 b0 b1 b2 b3
  go_wp2_with fail
  refine (D _ Bw).mono ?_
  rintro e w1 ⟨rfl, B1⟩
  have br := bxr.later B1
  obtain ⟨r0, r1, r2, r3⟩ := br.at4
  dsimp only [nul] at r0 r1 r2 r3
  simp only [Nat.zero_add] at r1 r2 r3
  have f0 := br.free 0
  have f1 := br.free 1
  have f2 := br.free 2
  have f3 := br.free 3
  have lt1 := br.lt
  have Be := below_trans Bw B1
  clear D a0 a1 a2 a3 b0 b1 b2 b3 br bxr
  go_wp2_with (go_at_call 65; refine (HC _).mono ?_; rintro e w3 ⟨rfl, os2, n2, rfl⟩)
  refine bodyPost_ret_by (v := rs (cmpR op c)) ?_ rfl ⟨rfl, ?_⟩
  · simp [results, Tryz.results64, go_sem, r0, r1, r2, r3, lt1]
  · refine below_trans (Be.setCell (p := ⟨w.heap.size + 1 + 1, 0, none⟩) (by dsimp only; omega) (.int .i64 (cmpR op c).1.k) |>.setCell (p := ⟨w.heap.size + 1 + 1, 1, none⟩) (by dsimp only; omega) (.int .i64 (cmpR op c).1.n) |>.setCell (p := ⟨w.heap.size + 1 + 1, 2, none⟩) (by dsimp only; omega) (.int .i64 (cmpR op c).1.m) |>.setCell (p := ⟨w.heap.size + 1 + 1, 3, none⟩) (by dsimp only; omega) (.string ⟨(cmpR op c).1.b.toArray⟩)) (Grew.below ?_)
    repeat (first | assumption | exact Grew.refl _ | apply Grew.drew | apply Grew.drewN | apply Grew.alloc | apply Grew.more)

set_option maxHeartbeats 2000000 in
theorem qtxt_over (an am bn bm : Int) (ab bb : List UInt8) (w : World) (ha : ab.length ≤ 256) (hb : bb.length ≤ 256) (ho : 256 < ab.length + bb.length) :
    Calls Tryz.prog 64 #[.int .i64 9, va 3 an am ⟨ab.toArray⟩, va 3 bn bm ⟨bb.toArray⟩] w fun e w' => e = .returned (.tuple #[va 0 0 0 ⟨#[]⟩, .int .i64 32]) ∧ Below w.heap.size w w' := by
  have hs : (256 : Int) < (ab.length : Int) + (bb.length : Int) := by omega
  have hw : IntKind.i64.wrap ((ab.length : Int) + (bb.length : Int)) = (ab.length : Int) + (bb.length : Int) := by rw [IntKind.wrap_i64]; omega
  obtain ⟨w0, hw0, bxa, bxb, bxr, Bw⟩ := three_boxes w ⟨3, an, am, ab⟩ ⟨3, bn, bm, bb⟩
  dsimp only at hw0
  have B0 : Below w0.heap.size w0 w0 := Below.refl _ _
  go_enter Tryz.func64, Tryz.ntmps64
  go_wp2_with fail
  rw [← hw0]
  clear hw0
  obtain ⟨a0, a1, a2, a3⟩ := bxa.at4
  obtain ⟨b0, b1, b2, b3⟩ := bxb.at4
  dsimp only at a0 a1 a2 a3 b0 b1 b2 b3
  have br := bxr.later B0
  obtain ⟨r0, r1, r2, r3⟩ := br.at4
  dsimp only [nul] at r0 r1 r2 r3
  simp only [Nat.zero_add] at r1 r2 r3
  have f0 := br.free 0
  have f1 := br.free 1
  have f2 := br.free 2
  have f3 := br.free 3
  have lt1 := br.lt
  have Be := below_trans Bw B0
  go_wp2
  refine bodyPost_ret_by (v := .tuple #[va 0 0 0 ⟨#[]⟩, .int .i64 32]) ?_ rfl ⟨rfl, ?_⟩
  · simp [results, Tryz.results64, go_sem, r0, r1, r2, r3]
  · exact Be

theorem ba_append (x y : List UInt8) : (⟨x.toArray⟩ : ByteArray) ++ ⟨y.toArray⟩ = ⟨(x ++ y).toArray⟩ := by
  apply ByteArray.ext
  simp

set_option maxHeartbeats 2000000 in
theorem qtxt_join (an am bn bm : Int) (ab bb : List UInt8) (w : World) (ho : ¬ 256 < ab.length + bb.length) :
    Calls Tryz.prog 64 #[.int .i64 9, va 3 an am ⟨ab.toArray⟩, va 3 bn bm ⟨bb.toArray⟩] w fun e w' => e = .returned (.tuple #[va 3 0 0 ⟨(ab ++ bb).toArray⟩, .int .i64 0]) ∧ Below w.heap.size w w' := by
  have hs : ¬ (256 : Int) < (ab.length : Int) + (bb.length : Int) := by omega
  have hw : IntKind.i64.wrap ((ab.length : Int) + (bb.length : Int)) = (ab.length : Int) + (bb.length : Int) := by rw [IntKind.wrap_i64]; omega
  have C : ∀ W, Calls Tryz.prog 37 #[.string (⟨ab.toArray⟩ ++ ⟨bb.toArray⟩)] W fun e w' => e = .returned (.string ⟨(ab ++ bb).toArray⟩) ∧ Below W.heap.size W w' := by
    intro W
    rw [ba_append]
    exact clone_any _ W (by show (ab ++ bb).toArray.size ≤ _; simp; omega)
  obtain ⟨w0, hw0, bxa, bxb, bxr, Bw⟩ := three_boxes w ⟨3, an, am, ab⟩ ⟨3, bn, bm, bb⟩
  dsimp only at hw0
  have B0 : Below w0.heap.size w0 w0 := Below.refl _ _
  go_enter Tryz.func64, Tryz.ntmps64
  go_wp2_with fail
  rw [← hw0]
  clear hw0
  obtain ⟨a0, a1, a2, a3⟩ := bxa.at4
  obtain ⟨b0, b1, b2, b3⟩ := bxb.at4
  dsimp only at a0 a1 a2 a3 b0 b1 b2 b3
  go_wp2_with fail
  refine (C _).mono ?_
  rintro e w1 ⟨rfl, B1⟩
  have br := bxr.later B1
  obtain ⟨r0, r1, r2, r3⟩ := br.at4
  dsimp only [nul] at r0 r1 r2 r3
  simp only [Nat.zero_add] at r1 r2 r3
  have f0 := br.free 0
  have f1 := br.free 1
  have f2 := br.free 2
  have f3 := br.free 3
  have lt1 := br.lt
  have Be := below_trans Bw B1
  clear C a0 a1 a2 a3 b0 b1 b2 b3 br bxr
  go_wp2
  refine bodyPost_ret_by (v := .tuple #[va 3 0 0 ⟨(ab ++ bb).toArray⟩, .int .i64 0]) ?_ rfl ⟨rfl, ?_⟩
  · simp [results, Tryz.results64, go_sem, r0, r1, r2, r3]
  · refine below_trans (Be.setCell (p := ⟨w.heap.size + 1 + 1, 0, none⟩) (by dsimp only; omega) (.int .i64 3) |>.setCell (p := ⟨w.heap.size + 1 + 1, 1, none⟩) (by dsimp only; omega) (.int .i64 0) |>.setCell (p := ⟨w.heap.size + 1 + 1, 2, none⟩) (by dsimp only; omega) (.int .i64 0) |>.setCell (p := ⟨w.heap.size + 1 + 1, 3, none⟩) (by dsimp only; omega) (.string ⟨(ab ++ bb).toArray⟩)) (Grew.below ?_)
    repeat (first | assumption | exact Grew.refl _ | apply Grew.drew | apply Grew.drewN | apply Grew.alloc | apply Grew.more)

end Go.Proofs.YtgapmofhnjfdiaaGreatDoor

namespace Go.Proofs.YtgapmofhnjfdiaaGreatDoor
open Go.RowKit Go.Shelf

/-- The order of two values that may be. -/
theorem qcmp_tells (a b : Va) (w : World) (hT : Tabs w) (hP : Pw w) (va : vin a) (vb : vin b) : Tells 66 #[vv a, vv b] w (.int .i64 (pcmp a b)) :=
  fun W h => compare_any a b W (hT.later h) (hP.below h) va vb
theorem qcompared_tells (op c : Int) (w : World) : Tells 65 #[.int .i64 op, .int .i64 c] w (rs (cmpR op c)) :=
  fun W _ => (qcompared_any op c W).mono fun _ _ h => ⟨h.1, h.2.below⟩

theorem qpts_any (op n m n' m' : Int) (b b' : List UInt8) (w : World) (hT : Tabs w) (hP : Pw w) (ha : Ga.ok2 n m = true) (hb : Ga.ok2 n' m' = true) :
    Calls Tryz.prog 63 #[.int .i64 op, vv ⟨5, n, m, b⟩, vv ⟨5, n', m', b'⟩] w fun e w' => e = .returned (rs (ptsR op ⟨5, n, m, b⟩ ⟨5, n', m', b'⟩)) ∧ Below w.heap.size w w' := by
  have ia := (Ga.ok2_iff n m).1 ha
  have ib := (Ga.ok2_iff n' m').1 hb
  have D := qcmp_tells ⟨5, n, m, b⟩ ⟨5, n', m', b'⟩ w hT hP ⟨⟨by simp only; omega, by simp only; omega⟩, ⟨by simp only; omega, by simp only; omega⟩⟩ ⟨⟨by simp only; omega, by simp only; omega⟩, ⟨by simp only; omega, by simp only; omega⟩⟩
  by_cases hz : n' = 0 ∧ m' = 0
  · obtain ⟨rfl, rfl⟩ := hz
    refine qpts_walk op n m 0 0 _ _ _ _ _ _ _ _ _ _ _ _ _ _ _ b b' w (fun W => Ga.add_good n m 0 0 W ha hb) (fun W => Ga.sub_good n m 0 0 W ha hb) (fun W => Ga.mul_good n m 0 0 W ha hb) (fun W => Ga.div_zero n m W ha) D _ ?_
    show ptsR op _ _ = _
    unfold ptsR ptR
    simp only [and_self, if_true]
    rfl
  · have hn := Ga.norm_pos hz
    refine qpts_walk op n m n' m' _ _ _ _ _ _ _ _ _ _ _ _ _ _ _ b b' w (fun W => Ga.add_good n m n' m' W ha hb) (fun W => Ga.sub_good n m n' m' W ha hb) (fun W => Ga.mul_good n m n' m' W ha hb) (fun W => Ga.div_good n m n' m' W ha hb hn) D _ ?_
    show ptsR op _ _ = _
    unfold ptsR ptR
    rw [if_neg hz, if_neg hz]
    rfl

theorem qtxt_any (op : Int) (b b' : List UInt8) (w : World) (hT : Tabs w) (hP : Pw w) (h1 : b.length ≤ 256) (h2 : b'.length ≤ 256) :
    Calls Tryz.prog 64 #[.int .i64 op, vv ⟨3, 0, 0, b⟩, vv ⟨3, 0, 0, b'⟩] w fun e w' => e = .returned (rs (txtR op ⟨3, 0, 0, b⟩ ⟨3, 0, 0, b'⟩)) ∧ Below w.heap.size w w' := by
  unfold txtR
  by_cases h : op = 9
  · subst h
    rw [if_pos rfl]
    by_cases ho : 256 < b.length + b'.length
    · rw [if_pos ho]
      exact qtxt_over 0 0 0 0 b b' w h1 h2 ho
    · rw [if_neg ho]
      exact qtxt_join 0 0 0 0 b b' w ho
  · rw [if_neg h]
    exact qtxt_cmp op _ 0 0 0 0 b b' w (by simpa using h) (qcmp_tells ⟨3, 0, 0, b⟩ ⟨3, 0, 0, b'⟩ w hT hP ⟨⟨(by show (-9223372036854775808 : Int) ≤ 0; decide), (by show (0 : Int) ≤ 9223372036854775807; decide)⟩, ⟨(by show (-9223372036854775808 : Int) ≤ 0; decide), (by show (0 : Int) ≤ 9223372036854775807; decide)⟩⟩ ⟨⟨(by show (-9223372036854775808 : Int) ≤ 0; decide), (by show (0 : Int) ≤ 9223372036854775807; decide)⟩, ⟨(by show (-9223372036854775808 : Int) ≤ 0; decide), (by show (0 : Int) ≤ 9223372036854775807; decide)⟩⟩)

theorem qnum_tells (a : Va) (b : Bool) (h : (a.k == 1 || a.k == 2) = b) (w : World) : Tells 60 #[vv a] w (.bool b) := by
  subst h
  exact fun W _ => (qnumber_any a.k a.n a.m ⟨a.b.toArray⟩ W).mono fun _ _ h => ⟨h.1, h.2.below⟩

set_option maxHeartbeats 1000000 in
theorem qbin_any (op : Int) (a b : Va) (w : World) (hT : Tabs w) (hP : Pw w) (ia : vin a) (ib : vin b) :
    Calls Tryz.prog 16 #[.int .i64 op, vv a, vv b] w fun e w' => e = .returned (rs (binR op a b)) ∧ Below w.heap.size w w' := by
  have Ra : Tells 42 #[vv a] w (.bool (vr a)) := fun W h => vright_any a.k a.n a.m ⟨a.b.toArray⟩ W (hT.later h)
  have Rb : Tells 42 #[vv b] w (.bool (vr b)) := fun W h => vright_any b.k b.n b.m ⟨b.b.toArray⟩ W (hT.later h)
  unfold binR
  by_cases o1 : op < 6
  · rw [if_pos (by omega)]
    exact qbin_low op a.k b.k a.n a.m b.n b.m a.b b.b w o1
  by_cases o2 : op > 18
  · rw [if_pos (by omega)]
    exact qbin_high op a.k b.k a.n a.m b.n b.m a.b b.b w o1 o2
  cases ha : vr a
  · rw [ha] at Ra
    rw [if_pos (by simp)]
    exact qbin_badA op a.k b.k a.n a.m b.n b.m a.b b.b w o1 o2 Ra
  rw [ha] at Ra
  cases hb : vr b
  · rw [hb] at Rb
    rw [if_pos (by simp)]
    exact qbin_badB op a.k b.k a.n a.m b.n b.m a.b b.b w o1 o2 Ra Rb
  rw [hb] at Rb
  rw [if_neg (by simp; omega)]
  by_cases h17 : op = 17
  · subst h17
    rw [if_pos (.inl rfl)]
    exact qbin_t17 a.k b.k a.n a.m b.n b.m a.b b.b w _ _ _ _ _ Ra Rb (fun W _ => (qtru_any 17 a b W).mono fun _ _ h => ⟨h.1, h.2.below⟩)
  by_cases h18 : op = 18
  · subst h18
    rw [if_pos (.inr rfl)]
    exact qbin_t18 a.k b.k a.n a.m b.n b.m a.b b.b w _ _ _ _ _ Ra Rb (fun W _ => (qtru_any 18 a b W).mono fun _ _ h => ⟨h.1, h.2.below⟩)
  rw [if_neg (by omega)]
  have e17 : (op != 17) = true := by simpa using h17
  have e18 : (op != 18) = true := by simpa using h18
  have va' := (vr_iff a).1 ha
  have vb' := (vr_iff b).1 hb
  obtain ⟨ak, an, am, ab⟩ := a
  obtain ⟨bk, bn, bm, bb⟩ := b
  simp only [vok] at va' vb'
  obtain ⟨⟨ia0, ia1⟩, -⟩ := id ia
  obtain ⟨⟨ib0, ib1⟩, -⟩ := id ib
  simp only at ia0 ia1 ib0 ib1
  simp only [isn]
  by_cases a0 : ak = 0
  · subst a0
    rw [if_pos (.inl rfl)]
    exact qbin_nullA op bk an am bn bm ab bb w o1 o2 e17 e18 Ra Rb
  have ea : (ak != 0) = true := by simpa using a0
  by_cases b0 : bk = 0
  · subst b0
    rw [if_pos (.inr rfl)]
    exact qbin_nullB op ak an am bn bm ab bb w o1 o2 e17 e18 ea Ra Rb
  have eb : (bk != 0) = true := by simpa using b0
  rw [if_neg (by omega)]
  have NT := fun (k n m : Int) (l : List UInt8) (v : Bool) (h : (k == 1 || k == 2) = v) => qnum_tells ⟨k, n, m, l⟩ v h w
  rcases (by omega : ak = 1 ∨ ak = 2 ∨ ak = 3 ∨ ak = 4 ∨ ak = 5) with rfl | rfl | rfl | rfl | rfl
  · by_cases h1 : bk = 1
    · subst h1
      rw [if_pos ⟨rfl, rfl⟩]
      exact qbin_ints op an am bn bm ab bb w _ _ _ _ _ o1 o2 e17 e18 Ra Rb (fun W h => (qints_any op an bn W (hP.below h) ia0 ia1 ib0 ib1).mono fun _ _ h => ⟨h.1, h.2.below⟩)
    by_cases h2 : bk = 2
    · subst h2
      rw [if_neg (by omega), if_pos (by omega)]
      exact qbin_n12 op an am bn bm ab bb w _ _ _ _ _ o1 o2 e17 e18 Ra Rb (NT 1 an am ab true rfl) (NT 2 bn bm bb true rfl) (fun W h => qnums_any op ⟨1, an, am, ab⟩ ⟨2, bn, bm, bb⟩ W (hP.below h) (by simp only; omega) (by simp only; omega) ia ib)
    · rw [if_neg (by omega), if_neg (by omega), if_neg (by omega), if_neg (by omega), if_neg (by omega)]
      exact qbin_o1 op bk an am bn bm ab bb w o1 o2 e17 e18 eb (by simpa using h1) Ra Rb (NT 1 an am ab true rfl) (NT bk bn bm bb false (by simp [h1, h2]))
  · by_cases h1 : bk = 1
    · subst h1
      rw [if_neg (by omega), if_pos (by omega)]
      exact qbin_n21 op an am bn bm ab bb w _ _ _ _ _ o1 o2 e17 e18 Ra Rb (NT 2 an am ab true rfl) (NT 1 bn bm bb true rfl) (fun W h => qnums_any op ⟨2, an, am, ab⟩ ⟨1, bn, bm, bb⟩ W (hP.below h) (by simp only; omega) (by simp only; omega) ia ib)
    by_cases h2 : bk = 2
    · subst h2
      rw [if_neg (by omega), if_pos (by omega)]
      exact qbin_n22 op an am bn bm ab bb w _ _ _ _ _ o1 o2 e17 e18 Ra Rb (NT 2 an am ab true rfl) (NT 2 bn bm bb true rfl) (fun W h => qnums_any op ⟨2, an, am, ab⟩ ⟨2, bn, bm, bb⟩ W (hP.below h) (by simp only; omega) (by simp only; omega) ia ib)
    · rw [if_neg (by omega), if_neg (by omega), if_neg (by omega), if_neg (by omega), if_neg (by omega)]
      exact qbin_o2 op bk an am bn bm ab bb w o1 o2 e17 e18 eb Ra Rb (NT 2 an am ab true rfl) (NT bk bn bm bb false (by simp [h1, h2]))
  · by_cases h3 : bk = 3
    · subst h3
      rw [if_neg (by omega), if_neg (by omega), if_neg (by omega), if_pos ⟨rfl, rfl⟩]
      obtain ⟨rfl, rfl, la⟩ : an = 0 ∧ am = 0 ∧ ab.length ≤ 256 := by rcases va' with h | h | h | h | h | h <;> first | omega | exact ⟨h.2.1, h.2.2.1, h.2.2.2.1⟩
      obtain ⟨rfl, rfl, lb⟩ : bn = 0 ∧ bm = 0 ∧ bb.length ≤ 256 := by rcases vb' with h | h | h | h | h | h <;> first | omega | exact ⟨h.2.1, h.2.2.1, h.2.2.2.1⟩
      exact qbin_txt op 0 0 0 0 ab bb w _ _ _ _ _ o1 o2 e17 e18 Ra Rb (NT 3 0 0 ab false rfl) (fun W h => qtxt_any op ab bb W (hT.later h) (hP.below h) la lb)
    · rw [if_neg (by omega), if_neg (by omega), if_neg (by omega), if_neg (by omega), if_neg (by omega)]
      exact qbin_o3 op bk an am bn bm ab bb w o1 o2 e17 e18 eb (by simpa using h3) Ra Rb (NT 3 an am ab false rfl)
  · by_cases h4 : bk = 4
    · subst h4
      rw [if_neg (by omega), if_neg (by omega), if_neg (by omega), if_neg (by omega), if_pos ⟨rfl, rfl⟩]
      exact qbin_bools op an am bn bm ab bb w _ _ _ _ _ _ o1 o2 e17 e18 Ra Rb (NT 4 an am ab false rfl) (qcmp_tells ⟨4, an, am, ab⟩ ⟨4, bn, bm, bb⟩ w hT hP ia ib) (qcompared_tells op _ w)
    · rw [if_neg (by omega), if_neg (by omega), if_neg (by omega), if_neg (by omega), if_neg (by omega)]
      exact qbin_o4 op bk an am bn bm ab bb w o1 o2 e17 e18 eb (by simpa using h4) Ra Rb (NT 4 an am ab false rfl)
  · by_cases h5 : bk = 5
    · subst h5
      rw [if_neg (by omega), if_neg (by omega), if_pos ⟨rfl, rfl⟩]
      have pa : Ga.ok2 an am = true := (Ga.ok2_iff an am).2 (by omega)
      have pb : Ga.ok2 bn bm = true := (Ga.ok2_iff bn bm).2 (by omega)
      exact qbin_pts op an am bn bm ab bb w _ _ _ _ _ o1 o2 e17 e18 Ra Rb (NT 5 an am ab false rfl) (fun W h => qpts_any op an am bn bm ab bb W (hT.later h) (hP.below h) pa pb)
    · rw [if_neg (by omega), if_neg (by omega), if_neg (by omega), if_neg (by omega), if_neg (by omega)]
      exact qbin_o5 op bk an am bn bm ab bb w o1 o2 e17 e18 eb (by simpa using h5) Ra Rb (NT 5 an am ab false rfl)
end Go.Proofs.YtgapmofhnjfdiaaGreatDoor

namespace Go.Proofs.YtgapmofhnjfdiaaGreatDoor
open Go.RowKit Go.Shelf

theorem two_of {l : List Va} (h : l.length = 2) : ∃ a b, l = [a, b] := by
  match l, h with
  | [a, b], _ => exact ⟨a, b, rfl⟩
theorem toList_arr (l : List UInt8) : (⟨l.toArray⟩ : ByteArray).toList = l := by rw [Lib.toList_data]
theorem cast_beq (n k : Nat) : ((n : Int) == (k : Int)) = (n == k) := by
  by_cases h : n = k
  · subst h; simp
  · rw [beq_eq_false_iff_ne.2 h, beq_eq_false_iff_ne]
    omega

theorem isf_any (nm : List UInt8) (n : Nat) (w : World) : Calls Tryz.prog 77 #[.string ⟨nm.toArray⟩, .int .i64 (n : Int)] w fun e w' => e = .returned (.bool (isF nm n)) ∧ w = w' := by
  have c1 := cast_beq n 1
  have c2 := cast_beq n 2
  unfold isF
  by_cases h1 : nm = sLength ∨ nm = sAbs ∨ nm = sNorm ∨ nm = sPx ∨ nm = sPy
  · rw [if_pos h1, ← c1]
    rcases h1 with rfl | rfl | rfl | rfl | rfl
    · exact isf_length _ w
    · exact isf_abs _ w
    · exact isf_norm _ w
    · exact isf_px _ w
    · exact isf_py _ w
  rw [if_neg h1]
  by_cases h2 : nm = sPoint ∨ nm = sRound
  · rw [if_pos h2, ← c2]
    rcases h2 with rfl | rfl
    · exact isf_point _ w
    · exact isf_round _ w
  rw [if_neg h2]
  by_cases h3 : nm = sCoalesce
  · rw [if_pos h3]
    subst h3
    by_cases l1 : 1 ≤ n
    · by_cases l4 : n ≤ 4
      · rw [decide_eq_true ⟨l1, l4⟩]
        exact isf_coal_ok _ w (by omega) (by omega)
      · rw [decide_eq_false (fun h => l4 h.2)]
        exact isf_coal_hi _ w (by omega) (by omega)
    · rw [decide_eq_false (fun h => l1 h.1)]
      exact isf_coal_lo _ w (by omega)
  rw [if_neg h3]
  have f : ∀ s : List UInt8, nm ≠ s → ((⟨nm.toArray⟩ : ByteArray).toList == s) = false := fun s h => by rw [toList_arr]; exact beq_eq_false_iff_ne.2 h
  exact isf_other ⟨nm.toArray⟩ _ w (f _ fun h => h1 (.inl h)) (f _ fun h => h1 (.inr (.inl h))) (f _ fun h => h1 (.inr (.inr (.inl h)))) (f _ fun h => h1 (.inr (.inr (.inr (.inl h))))) (f _ fun h => h1 (.inr (.inr (.inr (.inr h))))) (f _ fun h => h2 (.inl h)) (f _ fun h => h2 (.inr h)) (f _ h3)

theorem numc_scaled (x y p : Int) (hp : 0 < p) : numc (x * p) (y * p) < 0 ↔ x < y := by
  have h : x * p < y * p ↔ x < y := ⟨fun h => Int.lt_of_mul_lt_mul_right h (Int.le_of_lt hp), fun h => Int.mul_lt_mul_of_pos_right h hp⟩
  unfold numc
  by_cases hxy : x < y
  · rw [if_pos (h.2 hxy)]; simp [hxy]
  · rw [if_neg (fun h' => hxy (h.1 h'))]
    split <;> simp <;> omega
theorem ten_pos (m : Int) : (0 : Int) < 10 ^ (6 - m).toNat := by
  have : (0 : Int) < 10 := by decide
  exact Int.pow_pos this

theorem qsize_any (a : Va) (w : World) (hT : Tabs w) (hP : Pw w) (hr : vr a = true) (hn : isn a) (ia : vin a) : Calls Tryz.prog 144 #[vv a] w fun e w' => e = .returned (rs (absR a)) ∧ Below w.heap.size w w' := by
  have U : Tells 14 #[.int .i64 3, vv a] w (rs (negR a)) := fun W h => by
    have := qun_any 3 a W (hT.later h) (hP.below h) ia
    rw [show unR 3 a = negR a by unfold unR; rw [if_neg (by simp [hr]), if_neg (by decide), if_neg (by decide)]] at this
    exact this
  have hv := (vr_iff a).1 hr
  have hm := num_scale hn hr
  obtain ⟨k, n, m, b⟩ := a
  simp only [isn] at hn
  simp only [vok] at hv
  simp only at hm
  obtain ⟨⟨n0, n1⟩, m0⟩ := id ia
  simp only at n0 n1 m0
  have hb : b = [] := by rcases hv with h | h | h | h | h | h <;> first | omega | exact h.2.2 | exact h.2.2.2
  subst hb
  have key : ∀ (z : Int), z = -n → fits z = true → ∀ k' : Int, k' = k → negR ⟨k, n, m, []⟩ = (⟨k', z, m, []⟩, 0) →
      Calls Tryz.prog 144 #[vv ⟨k, n, m, []⟩] w fun e w' => e = .returned (rs (absR ⟨k, n, m, []⟩)) ∧ Below w.heap.size w w' := by
    intro z hz hf k' hk' hg
    have hzi : -9223372036854775808 ≤ z ∧ z ≤ 9223372036854775807 := by simpa [fits] using hf
    rw [hg] at U
    refine qsize_walk k n m [] k' z m 0 [] (numc (at6 ⟨k, n, m, []⟩) (at6 ⟨k', z, m, []⟩)) w U (fun _ W h => dcmp_six ⟨k, n, m, []⟩ ⟨k', z, m, []⟩ W (hP.below h) hm hm ia ⟨hzi, m0⟩) _ ?_
    show absR _ = _
    rw [if_pos rfl]
    unfold absR
    rw [hg]
    have hx : numc (at6 ⟨k, n, m, []⟩) (at6 ⟨k', z, m, []⟩) < 0 ↔ n < 0 := by
      show numc (n * 10 ^ (6 - m).toNat) (z * 10 ^ (6 - m).toNat) < 0 ↔ _
      rw [numc_scaled _ _ _ (ten_pos m)]
      omega
    by_cases h : n < 0
    · rw [if_pos (hx.2 h)]
      simp [h]
    · rw [if_neg (fun h' => h (hx.1 h'))]
      simp [h]
  by_cases hf : fits (-n) = true
  · have h0 : (0 : Int) - n = -n := by omega
    rcases hn with rfl | rfl
    · have hm0 : m = 0 := by omega
      subst hm0
      refine key (-n) rfl hf 1 rfl ?_
      simp [negR, wholeR, nz, nErr, hf, vI]
    · refine key (-n) rfl hf 2 rfl ?_
      simp [negR, decR, exactR, nz, nErr, fs, hf, vD]
  · have hneg : n < 0 := by
      simp only [fits, decide_eq_true_eq] at hf
      omega
    have hg : negR ⟨k, n, m, []⟩ = (nul, 32) := by
      rcases hn with rfl | rfl
      · simp [negR, wholeR, nErr, hf]
      · simp [negR, decR, exactR, nErr, hf]
    rw [hg] at U
    refine qsize_walk k n m [] 0 0 0 32 [] 0 w U (fun h => absurd h (by decide)) _ ?_
    show absR _ = _
    unfold absR
    rw [hg]
    simp [hneg]

set_option maxHeartbeats 1000000 in
theorem cal1_any (nm : List UInt8) (bl off cap : Nat) (a : Va) (w : World) (hT : Tabs w) (hP : Pw w) (h4 : At4 w bl off a) (hr : vr a = true) (ia : vin a) (hn : nm = sLength ∨ nm = sAbs ∨ nm = sNorm ∨ nm = sPx ∨ nm = sPy) :
    Calls Tryz.prog 80 #[.string ⟨nm.toArray⟩, .slice (some ⟨bl, off, none⟩) 1 cap] w fun e w' => e = .returned (rs (cal1 nm a)) ∧ Below w.heap.size w w' := by
  obtain ⟨c0, c1, c2, c3⟩ := id h4
  have hg := h4.lt
  have hv := (vr_iff a).1 hr
  obtain ⟨ak, an, am, ab⟩ := a
  simp only at c0 c1 c2 c3
  have no : ∀ k : Int, ak ≠ k → (ak == k) = false := fun k h => beq_eq_false_iff_ne.2 h
  unfold cal1
  rcases hn with rfl | rfl | rfl | rfl | rfl
  · rw [if_pos rfl]
    by_cases h : ak = 3
    · subst h
      rw [if_pos rfl]
      exact called_length bl off cap an am ab w hg c0 c1 c2 c3
    · rw [if_neg h]
      exact called_length_no ak bl off cap an am ab w hg c0 c1 c2 c3 (no 3 h)
  · rw [if_neg (by decide), if_pos rfl]
    by_cases h : isn ⟨ak, an, am, ab⟩
    · rw [if_pos h]
      have S : Tells 144 #[va ak an am ⟨ab.toArray⟩] w (rs (absR ⟨ak, an, am, ab⟩)) := fun W hW => qsize_any ⟨ak, an, am, ab⟩ W (hT.later hW) (hP.below hW) hr h ia
      rcases h with h | h
      · simp only at h
        subst h
        exact called_abs1 bl off cap an am ab w hg c0 c1 c2 c3 _ _ _ _ _ S
      · simp only at h
        subst h
        exact called_abs2 bl off cap an am ab w hg c0 c1 c2 c3 _ _ _ _ _ S
    · rw [if_neg h]
      simp only [isn, not_or] at h
      exact called_abs_no ak bl off cap an am ab w hg c0 c1 c2 c3 (no 1 h.1) (no 2 h.2)
  · rw [if_neg (by decide), if_neg (by decide), if_pos rfl]
    by_cases h : ak = 5
    · subst h
      rw [if_pos rfl]
      exact called_norm bl off cap an am ab w hg c0 c1 c2 c3 _ (fun W => Ga.norm_any an am W)
    · rw [if_neg h]
      exact called_norm_no ak bl off cap an am ab w hg c0 c1 c2 c3 (no 5 h)
  · rw [if_neg (by decide), if_neg (by decide), if_neg (by decide), if_pos rfl]
    by_cases h : ak = 5
    · subst h
      rw [if_pos rfl]
      exact called_px bl off cap an am ab w hg c0 c1 c2 c3
    · rw [if_neg h]
      exact called_px_no ak bl off cap an am ab w hg c0 c1 c2 c3 (no 5 h)
  · rw [if_neg (by decide), if_neg (by decide), if_neg (by decide), if_neg (by decide)]
    by_cases h : ak = 5
    · subst h
      rw [if_pos rfl]
      exact called_py bl off cap an am ab w hg c0 c1 c2 c3
    · rw [if_neg h]
      exact called_py_no ak bl off cap an am ab w hg c0 c1 c2 c3 (no 5 h)

set_option maxHeartbeats 1000000 in
theorem cal2_any (nm : List UInt8) (bl off cap : Nat) (a b : Va) (w : World) (hP : Pw w) (h4 : At4 w bl off a) (g4 : At4 w bl (off + 4) b) (ia : vin a) (hn : nm = sPoint ∨ nm = sRound) :
    Calls Tryz.prog 80 #[.string ⟨nm.toArray⟩, .slice (some ⟨bl, off, none⟩) 2 cap] w fun e w' => e = .returned (rs (cal2 nm a b)) ∧ Below w.heap.size w w' := by
  obtain ⟨c0, c1, c2, c3⟩ := id h4
  obtain ⟨d0, d1, d2, d3⟩ := id g4
  have hg := h4.lt
  obtain ⟨⟨n0, n1⟩, -⟩ := ia
  obtain ⟨ak, an, am, ab⟩ := a
  obtain ⟨bk, bn, bm, bb⟩ := b
  simp only at c0 c1 c2 c3 d0 d1 d2 d3 n0 n1
  have no : ∀ x k : Int, x ≠ k → (x == k) = false := fun x k h => beq_eq_false_iff_ne.2 h
  unfold cal2
  rcases hn with rfl | rfl
  · rw [if_pos rfl]
    by_cases h : ak = 1
    · subst h
      by_cases h' : bk = 1
      · subst h'
        rw [if_pos ⟨rfl, rfl⟩]
        exact called_point bl off cap an am ab bn bm bb w hg c0 c1 c2 c3 d0 d1 d2 d3
      · rw [if_neg (fun h => h' h.2)]
        exact called_point_noB bk bl off cap an am ab bn bm bb w hg c0 c1 c2 c3 d0 d1 d2 d3 (no _ 1 h')
    · rw [if_neg (fun h' => h h'.1)]
      exact called_point_noA ak bk bl off cap an am ab bn bm bb w hg c0 c1 c2 c3 d0 d1 d2 d3 (no _ 1 h)
  · rw [if_neg (by decide)]
    have R : ∀ W, Below w.heap.size w W → Calls Tryz.prog 147 #[dv an am, .int .i64 bn] W fun e w' => e = .returned (rs (rndR an am bn)) ∧ Grew W w' := fun W h => qrounded_any an am bn W (hP.below h) n0 n1
    by_cases h : ak = 1
    · subst h
      by_cases h' : bk = 1
      · subst h'
        rw [if_pos ⟨show isn _ from Or.inl rfl, rfl⟩]
        exact called_round1 bl off cap an am ab bn bm bb w hg c0 c1 c2 c3 d0 d1 d2 d3 _ R
      · rw [if_neg (fun h => h' h.2)]
        exact called_round_noB1 bk bl off cap an am ab bn bm bb w hg c0 c1 c2 c3 d0 d1 d2 d3 (no _ 1 h')
    · by_cases h2 : ak = 2
      · subst h2
        by_cases h' : bk = 1
        · subst h'
          rw [if_pos ⟨show isn _ from Or.inr rfl, rfl⟩]
          exact called_round2 bl off cap an am ab bn bm bb w hg c0 c1 c2 c3 d0 d1 d2 d3 _ R
        · rw [if_neg (fun h => h' h.2)]
          exact called_round_noB2 bk bl off cap an am ab bn bm bb w hg c0 c1 c2 c3 d0 d1 d2 d3 (no _ 1 h')
      · rw [if_neg (fun h' => by have g : ak = 1 ∨ ak = 2 := h'.1; omega)]
        exact called_round_noA ak bk bl off cap an am ab bn bm bb w hg c0 c1 c2 c3 d0 d1 d2 d3 (no _ 1 h) (no _ 2 h2)

set_option maxHeartbeats 1000000 in
theorem qfunction_any (nm : List UInt8) (ao : Option Addr) (cap : Nat) (l : List Va) (w : World) (hT : Tabs w) (hP : Pw w) (hv : Vs w ao l) (hl : l.length ≤ 140737488351232) (hi : ∀ x ∈ l, vin x) :
    Calls Tryz.prog 22 #[.string ⟨nm.toArray⟩, .slice ao l.length cap] w fun e w' => e = .returned (rs (funR nm l)) ∧ Below w.heap.size w w' := by
  have A : Tells 76 #[.slice ao l.length cap] w (.bool (l.all vr)) := fun W h => qall_any ao cap l W (hT.later h) (hv.later h) (by omega)
  have I : Tells 77 #[.string ⟨nm.toArray⟩, .int .i64 (l.length : Int)] w (.bool (isF nm l.length)) := fun W _ => (isf_any nm l.length W).mono fun _ _ h => ⟨h.1, h.2 ▸ Below.refl _ _⟩
  have C : Tells 79 #[.slice ao l.length cap, va 0 0 0 ⟨#[]⟩] w (.bool (l.any zq)) := fun W h => qcont_any ao cap l W (hv.later h) hl
  unfold funR
  cases ha : l.all vr
  · rw [if_pos rfl]
    rw [ha] at A
    exact fun_bad _ ao _ cap w A
  rw [if_neg (by simp)]
  rw [ha] at A
  cases hf : isF nm l.length
  · rw [if_pos rfl]
    rw [hf] at I
    exact fun_name _ ao _ cap w A I
  rw [if_neg (by simp)]
  rw [hf] at I
  by_cases hc : nm = sCoalesce
  · subst hc
    rw [if_pos rfl]
    have hb : ∀ x ∈ l, x.b.length ≤ 140737488351232 := fun x hx => by
      have hv := (vr_iff x).1 (List.all_eq_true.1 ha x hx)
      simp only [vok] at hv
      rcases hv with h | h | h | h | h | h
      · rw [h.2.2.2]; exact Nat.zero_le _
      · rw [h.2.2]; exact Nat.zero_le _
      · rw [h.2.2.2]; exact Nat.zero_le _
      · omega
      · rw [h.2.2.2]; exact Nat.zero_le _
      · rw [h.2.2.2.2.2]; exact Nat.zero_le _
    exact fun_coal ao _ cap w _ _ _ _ A I (fun W h => qfirst_any ao cap l W (hv.later h) (by omega) hb)
  rw [if_neg hc]
  have e7 : ((⟨nm.toArray⟩ : ByteArray).toList == [99, 111, 97, 108, 101, 115, 99, 101]) = false := by rw [toList_arr]; exact beq_eq_false_iff_ne.2 hc
  cases hz : l.any zq
  · rw [if_neg (by simp)]
    rw [hz] at C
    refine fun_call _ ao _ cap w _ _ _ _ _ e7 A I C (fun W h => ?_)
    have hv' := hv.later h
    have hall : ∀ x ∈ l, vr x = true := List.all_eq_true.1 ha
    by_cases h1 : nm = sLength ∨ nm = sAbs ∨ nm = sNorm ∨ nm = sPx ∨ nm = sPy
    · have hn : l.length = 1 := by unfold isF at hf; rw [if_pos h1] at hf; simpa using hf
      clear A I C hl
      obtain ⟨a, rfl⟩ := List.length_eq_one_iff.1 hn
      · obtain ⟨bl, off, rfl, hc⟩ := hv' (by simp)
        have h4 := hc 0 (by simp)
        simp only [Nat.zero_mul, Nat.add_zero] at h4
        exact cal1_any nm bl off cap a W (hT.later h) (hP.below h) h4 (hall a (by simp)) (hi a (by simp)) h1
    · have h2 : nm = sPoint ∨ nm = sRound := by
        unfold isF at hf
        rw [if_neg h1] at hf
        by_cases h2 : nm = sPoint ∨ nm = sRound
        · exact h2
        · rw [if_neg h2, if_neg hc] at hf
          cases hf
      have hn : l.length = 2 := by unfold isF at hf; rw [if_neg h1, if_pos h2] at hf; simpa using hf
      clear A I C hl
      obtain ⟨a, b, rfl⟩ := two_of hn
      · obtain ⟨bl, off, rfl, hc⟩ := hv' (by simp)
        have h4 := hc 0 (by simp)
        have g4 := hc 1 (by simp)
        simp only [Nat.zero_mul, Nat.add_zero, Nat.one_mul] at h4 g4
        exact cal2_any nm bl off cap a b W (hP.below h) h4 g4 (hi a (by simp)) h2
  · rw [if_pos rfl]
    rw [hz] at C
    exact fun_null _ ao _ cap w e7 A I C
end Go.Proofs.YtgapmofhnjfdiaaGreatDoor

namespace Go.Proofs.YtgapmofhnjfdiaaGreatDoor
open Go.RowKit Go.Shelf
attribute [local go_sem] cell?_more frozen?_more setCell_more more_lt more_more more_drew more_drewN setCell_drewN alloc_drewN cell?_drawTo frozen?_drawTo heap_drawTo setCell_drawTo alloc_drawTo drewN_drawTo drew_drawTo drawTo_drewN drawTo_drew drawTo_drawTo more_drawTo

set_option maxHeartbeats 1000000 in
theorem isf_len1 (w : World) : Calls Tryz.prog 77 #[.string ⟨#[108, 101, 110, 103, 116, 104]⟩, .int .i64 1] w fun e w' => e = .returned (.bool true) ∧ Below w.heap.size w w' := by
  go_enter Tryz.func77, Tryz.ntmps77
  go_wp2
  all_goals go_ret
  all_goals exact ⟨rfl, Below.refl _ _⟩

set_option maxHeartbeats 1000000 in
theorem fun_length (ao : Option Addr) (cap : Nat) (rk rn rm re : Int) (rb : ByteArray) (w : World) (A : Tells 76 #[.slice ao 1 cap] w (.bool true)) (I : Tells 77 #[.string ⟨#[108, 101, 110, 103, 116, 104]⟩, .int .i64 1] w (.bool true))
    (C : Tells 79 #[.slice ao 1 cap, va 0 0 0 ⟨#[]⟩] w (.bool false)) (F : Tells 80 #[.string ⟨#[108, 101, 110, 103, 116, 104]⟩, .slice ao 1 cap] w (.tuple #[va rk rn rm rb, .int .i64 re])) :
    Calls Tryz.prog 22 #[.string ⟨#[108, 101, 110, 103, 116, 104]⟩, .slice ao 1 cap] w fun e w' => e = .returned (.tuple #[va rk rn rm rb, .int .i64 re]) ∧ Below w.heap.size w w' := by
  obtain ⟨w0, hw0, bxr, Bw⟩ := res_box w
  go_enter Tryz.func22, Tryz.ntmps22
  go_upto_region 1 with fail
  rw [← hw0]
  clear hw0
  have B0 : Below w0.heap.size w0 w0 := Below.refl _ _
  go_wp2_with fail
  refine (A _ (below_trans Bw B0)).mono ?_
  rintro e w1 ⟨rfl, c⟩
  have B1 := below_trans B0 c
  clear c
  go_wp2_with fail
  refine (I _ (below_trans Bw B1)).mono ?_
  rintro e w2 ⟨rfl, c⟩
  have B2 := below_trans B1 c
  clear c
  go_wp2_with fail
  refine (C _ (below_trans Bw B2)).mono ?_
  rintro e w3 ⟨rfl, c⟩
  have B3 := below_trans B2 c
  clear c
  go_wp2_with fail
  refine (F _ (below_trans Bw B3)).mono ?_
  rintro e w4 ⟨rfl, c⟩
  have B4 := below_trans B3 c
  clear c
  have br := bxr.later B4
  obtain ⟨r0, r1, r2, r3⟩ := br.at4
  dsimp only [nul] at r0 r1 r2 r3
  simp only [Nat.zero_add] at r1 r2 r3
  have f0 := br.free 0
  have f1 := br.free 1
  have f2 := br.free 2
  have f3 := br.free 3
  have lt1 := br.lt
  have Be := below_trans Bw B4
  go_wp2
  refine bodyPost_ret_by (v := .tuple #[va rk rn rm rb, .int .i64 re]) ?_ rfl ⟨rfl, ?_⟩
  · simp [results, Tryz.results22, go_sem, r0, r1, r2, r3]
  · exact (Be.setCell (p := ⟨w.heap.size, 0, none⟩) (Nat.le_refl _) (.int .i64 rk) |>.setCell (p := ⟨w.heap.size, 1, none⟩) (Nat.le_refl _) (.int .i64 rn) |>.setCell (p := ⟨w.heap.size, 2, none⟩) (Nat.le_refl _) (.int .i64 rm) |>.setCell (p := ⟨w.heap.size, 3, none⟩) (Nat.le_refl _) (.string rb))

theorem qnum7_any (n : Int) (w : World) : Calls Tryz.prog 19 #[.int .i64 n] w fun e w' => e = .returned (.int .i64 n) ∧ w = w' := by
  go_enter Tryz.func19, Tryz.ntmps19
  go_wp2
  go_ret
  exact ⟨rfl, rfl⟩

theorem qints7_any (n : Int) (w : World) : Calls Tryz.prog 75 #[.int .i64 n] w fun e w' => e = .returned (va 1 n 0 ⟨#[]⟩) ∧ Grew w w' := by
  go_enter Tryz.func75, Tryz.ntmps75
  go_wp2
  refine bodyPost_ret_by (v := va 1 n 0 ⟨#[]⟩) ?_ rfl ⟨rfl, ?_⟩
  · simp [results, Tryz.results75, go_sem]
  · repeat (first | exact Grew.refl _ | apply Grew.drew | apply Grew.drewN | apply Grew.alloc | apply Grew.more)

theorem vr_of {v : Va} (h : vok Lib.validD v) : vr v = true := (vr_iff v).2 h
theorem know1 : binR 7 (vI 1) (vD 30 1) = (vD 333333 6, 0) := by
  have h1 : vr (vI 1) = true := vr_of (by simp [vok, vI])
  have h2 : vr (vD 30 1) = true := vr_of (by simp [vok, vD])
  unfold binR
  rw [if_neg (by simp [h1, h2]), if_neg (by decide), if_neg (by simp [vI, vD]), if_neg (by simp [vI, vD]), if_pos (by simp [isn, vI, vD])]
  unfold numsR
  rw [if_neg (by decide), if_neg (by decide), if_neg (by decide), if_pos rfl, if_neg (by simp [vD])]
  rfl
theorem know2 : binR 17 nul (vB false) = (vB false, 0) := by
  have h1 : vr nul = true := vr_of (by simp [vok, nul])
  have h2 : vr (vB false) = true := vr_of (by simp [vok, vB])
  have t1 : tB nul = true := by
    show (vr nul && _) = true
    rw [h1]; rfl
  have t2 : tB (vB false) = true := by
    show (vr (vB false) && _) = true
    rw [h2]; rfl
  have n1 : tN nul = 2 := by
    unfold tN truN
    rw [if_neg (by simp [nul])]
  have n2 : tN (vB false) = 0 := by
    unfold tN truN
    rw [if_pos ⟨h2, rfl⟩]; rfl
  unfold binR
  rw [if_neg (by simp [h1, h2]), if_pos (.inl rfl)]
  unfold truR
  rw [t1, t2, n1, n2]
  rfl
theorem vr_abc : vr ⟨3, 0, 0, [97, 98, 99]⟩ = true := vr_of (by
  have : Lib.validD [97, 98, 99] = true := by kernel_rfl
  simp [vok, this])

set_option maxHeartbeats 4000000 in
theorem knows7_any (w : World) (hT : Tabs w) (hP : Pw w) : Calls Tryz.prog 20 #[] w fun e w' => e = .returned (.bool true) ∧ Below w.heap.size w w' := by
  have K1 : Tells 16 #[.int .i64 7, va 1 1 0 ⟨#[]⟩, va 2 30 1 ⟨#[]⟩] w (.tuple #[va 2 333333 6 ⟨#[]⟩, .int .i64 0]) := fun W h => by
    have := qbin_any 7 (vI 1) (vD 30 1) W (hT.later h) (hP.below h) ⟨⟨by decide, by decide⟩, ⟨by decide, by decide⟩⟩ ⟨⟨by decide, by decide⟩, ⟨by decide, by decide⟩⟩
    rw [know1] at this
    exact this
  have K2 : Tells 16 #[.int .i64 17, va 0 0 0 ⟨#[]⟩, va 4 0 0 ⟨#[]⟩] w (.tuple #[va 4 0 0 ⟨#[]⟩, .int .i64 0]) := fun W h => by
    have := qbin_any 17 nul (vB false) W (hT.later h) (hP.below h) ⟨⟨by decide, by decide⟩, ⟨by decide, by decide⟩⟩ ⟨⟨by decide, by decide⟩, ⟨by decide, by decide⟩⟩
    rw [know2] at this
    exact this
  have K3 : ∀ (bl cap : Nat) (W : World), Below w.heap.size w W → At4 W bl 0 ⟨3, 0, 0, [97, 98, 99]⟩ →
      Calls Tryz.prog 22 #[.string ⟨#[108, 101, 110, 103, 116, 104]⟩, .slice (some ⟨bl, 0, none⟩) 1 cap] W fun e w' => e = .returned (.tuple #[va 1 3 0 ⟨#[]⟩, .int .i64 0]) ∧ Below W.heap.size W w' := by
    intro bl cap W h h4
    have hv : Vs W (some ⟨bl, 0, none⟩) [⟨3, 0, 0, [97, 98, 99]⟩] := fun _ => ⟨bl, 0, rfl, fun i hi => by
      have : i = 0 := by simpa using hi
      subst this
      exact h4⟩
    refine fun_length _ _ _ _ _ _ _ W (fun W' h' => ?_) (fun W' _ => isf_len1 W') (fun W' h' => ?_) (fun W' h' => ?_)
    · have := qall_any (some ⟨bl, 0, none⟩) cap [⟨3, 0, 0, [97, 98, 99]⟩] W' ((hT.later h).later h') (hv.later h') (by decide)
      rwa [show ([⟨3, 0, 0, [97, 98, 99]⟩] : List Va).all vr = true by rw [List.all_cons, vr_abc]; rfl] at this
    · have := qcont_any (some ⟨bl, 0, none⟩) cap [⟨3, 0, 0, [97, 98, 99]⟩] W' (hv.later h') (by decide)
      rwa [show ([⟨3, 0, 0, [97, 98, 99]⟩] : List Va).any zq = false by rfl] at this
    · obtain ⟨c0, c1, c2, c3⟩ := h4.later h'
      exact called_length bl 0 cap 0 0 [97, 98, 99] W' (h4.later h').lt c0 c1 c2 c3
  have H1 := fun W => qints7_any 1 W
  have N := fun n W => qnum7_any n W
  clear hT hP
  have G : Below w.heap.size w w := Below.refl _ _
  go_enter Tryz.func20, Tryz.ntmps20
  go_upto_region 1 with fail
  go_cut [1, 2] from 7 (fun s0 s1 wx => ∃ p : Nat, s0 = .pointer (some ⟨p, 0, none⟩) ∧ s1 = .int .i64 0 ∧ At4 wx p 0 ⟨2, 333333, 6, []⟩ ∧ Below w.heap.size w wx)
  case first =>
    clear K2 K3 N
    go_wp2_with (first
      | (go_at_call 75; refine (H1 _).mono ?_; rintro e wc ⟨rfl, osc, nc, rfl⟩)
      | (go_at_call 16; refine (K1 _ (Grown.below (by repeat (first | assumption | exact Grown.refl _ | apply Grown.drew | apply Grown.drewN | apply Grown.alloc | apply Grown.more | apply Grown.drawTo)))).mono ?_; rintro e wc ⟨rfl, bc⟩; obtain ⟨osc, dc, rfl⟩ := wide bc; clear bc))
    all_goals go_meet
    all_goals exact ⟨_, rfl, rfl, ⟨by simp (maxDischargeDepth := 12) [go_sem], by simp (maxDischargeDepth := 12) [go_sem], by simp (maxDischargeDepth := 12) [go_sem], by simp (maxDischargeDepth := 12) [go_sem]⟩, Grown.below (by repeat (first | assumption | exact Grown.refl _ | apply Grown.drew | apply Grown.drewN | apply Grown.alloc | apply Grown.more | apply Grown.drawTo))⟩
  rename World => v1
  obtain ⟨p1, rfl, rfl, hp1, gv1⟩ := hcut
  replace K1 := K1.later gv1
  replace K2 := K2.later gv1
  replace G := below_trans G gv1
  clear gv1
  go_upto_region 2 with fail
  obtain ⟨k0a, k0b, k0c, k0d⟩ := id hp1
  have k0l := hp1.lt
  simp only [Nat.zero_add] at k0b k0c k0d
  go_cut [3, 4] from 7 (fun s0 s1 wx => ∃ p : Nat, s0 = .pointer (some ⟨p, 0, none⟩) ∧ s1 = .int .i64 0 ∧ At4 wx p 0 ⟨4, 0, 0, []⟩ ∧ Below v1.heap.size v1 wx)
  case first =>
    clear K1 K3 N
    go_wp2_with (first
      | (go_at_call 16; refine (K2 _ (Grown.below (by repeat (first | assumption | exact Grown.refl _ | apply Grown.drew | apply Grown.drewN | apply Grown.alloc | apply Grown.more | apply Grown.drawTo)))).mono ?_; rintro e wc ⟨rfl, bc⟩; obtain ⟨osc, dc, rfl⟩ := wide bc; clear bc))
    all_goals go_meet
    all_goals exact ⟨_, rfl, rfl, ⟨by simp (maxDischargeDepth := 12) [go_sem], by simp (maxDischargeDepth := 12) [go_sem], by simp (maxDischargeDepth := 12) [go_sem], by simp (maxDischargeDepth := 12) [go_sem]⟩, Grown.below (by repeat (first | assumption | exact Grown.refl _ | apply Grown.drew | apply Grown.drewN | apply Grown.alloc | apply Grown.more | apply Grown.drawTo))⟩
  rename World => v2
  obtain ⟨p2, rfl, rfl, hp2, gv2⟩ := hcut
  clear k0a k0b k0c k0d k0l
  replace hp1 := hp1.later gv2
  replace K1 := K1.later gv2
  replace K2 := K2.later gv2
  replace G := below_trans G gv2
  clear gv2
  go_upto_region 3 with fail
  obtain ⟨k0a, k0b, k0c, k0d⟩ := id hp1
  have k0l := hp1.lt
  simp only [Nat.zero_add] at k0b k0c k0d
  obtain ⟨k1a, k1b, k1c, k1d⟩ := id hp2
  have k1l := hp2.lt
  simp only [Nat.zero_add] at k1b k1c k1d
  go_cut [5, 6] from 7 (fun s0 s1 wx => ∃ p : Nat, s0 = .pointer (some ⟨p, 0, none⟩) ∧ s1 = .int .i64 0 ∧ At4 wx p 0 ⟨1, 3, 0, []⟩ ∧ Below v2.heap.size v2 wx)
  case first =>
    clear K1 K2 N
    go_wp2_with (first
      | (go_at_call 22; refine (K3 _ _ _ (below_trans G (Grown.below (by repeat (first | assumption | exact Grown.refl _ | apply Grown.drew | apply Grown.drewN | apply Grown.alloc | apply Grown.more | apply Grown.drawTo)))) ⟨by simp (maxDischargeDepth := 12) [go_sem], by simp (maxDischargeDepth := 12) [go_sem], by simp (maxDischargeDepth := 12) [go_sem], by simp (maxDischargeDepth := 12) [go_sem]⟩).mono ?_; rintro e wc ⟨rfl, bc⟩; obtain ⟨osc, dc, rfl⟩ := wide bc; clear bc))
    all_goals go_meet
    all_goals exact ⟨_, rfl, rfl, ⟨by simp (maxDischargeDepth := 12) [go_sem], by simp (maxDischargeDepth := 12) [go_sem], by simp (maxDischargeDepth := 12) [go_sem], by simp (maxDischargeDepth := 12) [go_sem]⟩, Grown.below (by repeat (first | assumption | exact Grown.refl _ | apply Grown.drew | apply Grown.drewN | apply Grown.alloc | apply Grown.more | apply Grown.drawTo))⟩
  rename World => v3
  obtain ⟨p3, rfl, rfl, hp3, gv3⟩ := hcut
  clear k0a k0b k0c k0d k0l k1a k1b k1c k1d k1l
  replace hp1 := hp1.later gv3
  replace hp2 := hp2.later gv3
  replace K1 := K1.later gv3
  replace K2 := K2.later gv3
  replace G := below_trans G gv3
  clear gv3
  obtain ⟨k0a, k0b, k0c, k0d⟩ := id hp1
  have k0l := hp1.lt
  simp only [Nat.zero_add] at k0b k0c k0d
  obtain ⟨k1a, k1b, k1c, k1d⟩ := id hp2
  have k1l := hp2.lt
  simp only [Nat.zero_add] at k1b k1c k1d
  obtain ⟨k2a, k2b, k2c, k2d⟩ := id hp3
  have k2l := hp3.lt
  simp only [Nat.zero_add] at k2b k2c k2d
  clear K1 K2 K3 H1
  go_wp2_with (go_at_call 19; refine (N _ _).mono ?_; rintro e wc ⟨rfl, rfl⟩)
  go_ret
  exact ⟨rfl, G⟩
end Go.Proofs.YtgapmofhnjfdiaaGreatDoor

namespace Go.Proofs.YtgapmofhnjfdiaaGreatDoor
open Go.RowKit Go.Shelf
attribute [local go_sem] cell?_more frozen?_more setCell_more more_lt more_more more_drew more_drewN setCell_drewN alloc_drewN cell?_drawTo frozen?_drawTo heap_drawTo setCell_drawTo alloc_drawTo drewN_drawTo drew_drawTo drawTo_drewN drawTo_drew drawTo_drawTo more_drawTo

end Go.Proofs.YtgapmofhnjfdiaaGreatDoor

namespace Go.Proofs.YtgapmofhnjfdiaaGreatDoor
open Go.RowKit Go.Shelf
attribute [local go_sem] cell?_more frozen?_more setCell_more more_lt more_more more_drew more_drewN setCell_drewN alloc_drewN cell?_drawTo frozen?_drawTo heap_drawTo setCell_drawTo alloc_drawTo drewN_drawTo drew_drawTo drawTo_drewN drawTo_drew drawTo_drawTo more_drawTo

/-- Six numbers lie. -/
def Lie (w : World) (p : Nat) (l : List Int) : Prop := ∀ i, i < l.length → w.cell? ⟨p, i, none⟩ = some (.int .i64 (l.getD i 0))
theorem Lie.later {w w' : World} {p : Nat} {l : List Int} (h : Lie w p l) (hl : p < w.heap.size) (hb : Below w.heap.size w w') : Lie w' p l := fun i hi => by
  rw [hb.cell (p := ⟨p, i, none⟩) hl]; exact h i hi
/-- An op and the one that is its opposite. -/
def Opp (B : Int → Va × Int) (w : World) (p q : Int) : Prop := (B p).2 = (B q).2 ∧ ((B p).2 = 0 → Tells 14 #[.int .i64 4, vv (B p).1] w (rs ((B q).1, 0)))
theorem Opp.later {B : Int → Va × Int} {w w' : World} {p q : Int} (h : Opp B w p q) (hb : Below w.heap.size w w') : Opp B w' p q := ⟨h.1, fun e => (h.2 e).later hb⟩
theorem rsame_self (k n m : Int) (b : ByteArray) (w : World) : Calls Tryz.prog 18 #[va k n m b, va k n m b] w fun e w' => e = .returned (.bool true) ∧ Grew w w' := by
  have := rsame_any k n m b k n m b w
  simpa using this
end Go.Proofs.YtgapmofhnjfdiaaGreatDoor
