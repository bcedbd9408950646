/-
  The contract of eval.stepped.
  The contract of eval.stepped, whole.
  A stack of values of one's own.
  An append out of a whole slice at a step of a region that draws, and where the new slice lies.
  The contract of longstoplaw07.Scope.
-/
import Derived.Test.YtgapmofhnjfdiaaGreatDoorMUXStep
import Derived.Test.YtgapmofhnjfdiaaGreatDoorMNQFun0
import Derived.Deep.AppendLies
import Derived.Test.YtgapmofhnjfdiaaGreatDoorMaLJumps
namespace Go.Proofs.YtgapmofhnjfdiaaGreatDoor
open Go.RowKit Go.Shelf
attribute [local go_sem] cell?_more frozen?_more setCell_more more_lt more_more more_drew more_drewN setCell_drewN alloc_drewN cell?_drawTo frozen?_drawTo heap_drawTo setCell_drawTo alloc_drawTo drewN_drawTo drew_drawTo drawTo_drewN drawTo_drew drawTo_drawTo more_drawTo

set_option maxRecDepth 20000 in
set_option maxHeartbeats 4000000 in
theorem stp_val (xt xn vb : List UInt8) (vk vn vm xa : Int) (wo ta na ro : Option Addr) (wc tc nc rc p q m : Nat) (n : Nat) (w : World)  :
    Calls Tryz.prog 86 #[.agg #[.int .i64 1, .string ⟨xt.toArray⟩, .string ⟨xn.toArray⟩, .int .i64 vk, .int .i64 vn, .int .i64 vm, .string ⟨vb.toArray⟩, .int .i64 xa], .slice wo n wc, scv ta na p q tc nc, .slice ro m rc] w fun e w' => e = .returned (.tuple #[va vk vn vm ⟨vb.toArray⟩, .int .i64 0]) ∧ Below w.heap.size w w' := by
  obtain ⟨w0, hw0, bn, bs, br0, Bw⟩ := node_boxes w ⟨1, xt, xn, ⟨vk, vn, vm, vb⟩, xa⟩ (.slice ta p tc) (.slice na q nc)
  have n0 := bn.at 0
  have n1 := bn.at 1
  have n2 := bn.at 2
  have n3 := bn.at 3
  have n4 := bn.at 4
  have n5 := bn.at 5
  have n6 := bn.at 6
  have n7 := bn.at 7
  have ln := bn.lt
  have s0 := bs.at 0
  have s1 := bs.at 1
  have ls := bs.lt
  have HB : Hid (Below w.heap.size w w0) := Bw
  have HX : Hid (Box w0 (w.heap.size + 1 + 1) nul) := br0
  clear bn bs br0 Bw
  go_enter Tryz.func86, Tryz.ntmps86
  go_upto_region 1 with fail
  rw [← hw0]
  clear hw0
  have br := HX.out
  have lt1 := br.lt
  obtain ⟨r0, r1, r2, r3⟩ := br.at4
  dsimp only [nul] at r0 r1 r2 r3
  simp only [Nat.zero_add] at r1 r2 r3
  have f0 := br.free 0
  have f1 := br.free 1
  have f2 := br.free 2
  have f3 := br.free 3
  go_wp2
  refine bodyPost_ret_by (v := .tuple #[va vk vn vm ⟨vb.toArray⟩, .int .i64 0]) ?_ rfl ⟨rfl, res_kept HB.out (by omega) _ _ _ _⟩
  simp [results, Tryz.results86, go_sem, r0, r1, r2, r3]

set_option maxRecDepth 20000 in
set_option maxHeartbeats 4000000 in
theorem stp_col (xt xn vb : List UInt8) (vk vn vm xa : Int) (wo ta na ro : Option Addr) (wc tc nc rc p q m : Nat) (n : Nat) (w : World) (rk rn rm re : Int) (rb : ByteArray) (F : Tells 152 #[.agg #[.int .i64 2, .string ⟨xt.toArray⟩, .string ⟨xn.toArray⟩, .int .i64 vk, .int .i64 vn, .int .i64 vm, .string ⟨vb.toArray⟩, .int .i64 xa], scv ta na p q tc nc, .slice ro m rc] w (.tuple #[va rk rn rm rb, .int .i64 re])) :
    Calls Tryz.prog 86 #[.agg #[.int .i64 2, .string ⟨xt.toArray⟩, .string ⟨xn.toArray⟩, .int .i64 vk, .int .i64 vn, .int .i64 vm, .string ⟨vb.toArray⟩, .int .i64 xa], .slice wo n wc, scv ta na p q tc nc, .slice ro m rc] w fun e w' => e = .returned (.tuple #[va rk rn rm rb, .int .i64 re]) ∧ Below w.heap.size w w' := by
  obtain ⟨w0, hw0, bn, bs, br0, Bw⟩ := node_boxes w ⟨2, xt, xn, ⟨vk, vn, vm, vb⟩, xa⟩ (.slice ta p tc) (.slice na q nc)
  have n0 := bn.at 0
  have n1 := bn.at 1
  have n2 := bn.at 2
  have n3 := bn.at 3
  have n4 := bn.at 4
  have n5 := bn.at 5
  have n6 := bn.at 6
  have n7 := bn.at 7
  have ln := bn.lt
  have s0 := bs.at 0
  have s1 := bs.at 1
  have ls := bs.lt
  have HB : Hid (Below w.heap.size w w0) := Bw
  have HX : Hid (Box w0 (w.heap.size + 1 + 1) nul) := br0
  clear bn bs br0 Bw
  go_enter Tryz.func86, Tryz.ntmps86
  go_upto_region 1 with fail
  rw [← hw0]
  clear hw0
  go_wp2_with fail
  refine (F _ HB.out).mono ?_
  rintro e w1 ⟨rfl, b1⟩
  have B1 := below_trans HB.out b1
  have br := HX.out.later b1
  have lt1 := br.lt
  obtain ⟨r0, r1, r2, r3⟩ := br.at4
  dsimp only [nul] at r0 r1 r2 r3
  simp only [Nat.zero_add] at r1 r2 r3
  have f0 := br.free 0
  have f1 := br.free 1
  have f2 := br.free 2
  have f3 := br.free 3
  clear n0 n1 n2 n3 n4 n5 n6 n7 ln s0 s1 ls F
  go_wp2
  refine bodyPost_ret_by (v := .tuple #[va rk rn rm rb, .int .i64 re]) ?_ rfl ⟨rfl, res_kept B1 (by omega) _ _ _ _⟩
  simp [results, Tryz.results86, go_sem, r0, r1, r2, r3]

set_option maxRecDepth 20000 in
set_option maxHeartbeats 4000000 in
theorem stp_fun (xt xn vb : List UInt8) (vk vn vm xa : Int) (wo ta na ro : Option Addr) (wc tc nc rc p q m : Nat) (n : Nat) (w : World) (rk rn rm re : Int) (rb : ByteArray) (F : Tells 22 #[.string ⟨xn.toArray⟩, .slice wo n wc] w (.tuple #[va rk rn rm rb, .int .i64 re])) :
    Calls Tryz.prog 86 #[.agg #[.int .i64 19, .string ⟨xt.toArray⟩, .string ⟨xn.toArray⟩, .int .i64 vk, .int .i64 vn, .int .i64 vm, .string ⟨vb.toArray⟩, .int .i64 xa], .slice wo n wc, scv ta na p q tc nc, .slice ro m rc] w fun e w' => e = .returned (.tuple #[va rk rn rm rb, .int .i64 re]) ∧ Below w.heap.size w w' := by
  obtain ⟨w0, hw0, bn, bs, br0, Bw⟩ := node_boxes w ⟨19, xt, xn, ⟨vk, vn, vm, vb⟩, xa⟩ (.slice ta p tc) (.slice na q nc)
  have n0 := bn.at 0
  have n1 := bn.at 1
  have n2 := bn.at 2
  have n3 := bn.at 3
  have n4 := bn.at 4
  have n5 := bn.at 5
  have n6 := bn.at 6
  have n7 := bn.at 7
  have ln := bn.lt
  have s0 := bs.at 0
  have s1 := bs.at 1
  have ls := bs.lt
  have HB : Hid (Below w.heap.size w w0) := Bw
  have HX : Hid (Box w0 (w.heap.size + 1 + 1) nul) := br0
  clear bn bs br0 Bw
  go_enter Tryz.func86, Tryz.ntmps86
  go_upto_region 1 with fail
  rw [← hw0]
  clear hw0
  go_wp2_with fail
  refine (F _ HB.out).mono ?_
  rintro e w1 ⟨rfl, b1⟩
  have B1 := below_trans HB.out b1
  have br := HX.out.later b1
  have lt1 := br.lt
  obtain ⟨r0, r1, r2, r3⟩ := br.at4
  dsimp only [nul] at r0 r1 r2 r3
  simp only [Nat.zero_add] at r1 r2 r3
  have f0 := br.free 0
  have f1 := br.free 1
  have f2 := br.free 2
  have f3 := br.free 3
  clear n0 n1 n2 n3 n4 n5 n6 n7 ln s0 s1 ls F
  go_wp2
  refine bodyPost_ret_by (v := .tuple #[va rk rn rm rb, .int .i64 re]) ?_ rfl ⟨rfl, res_kept B1 (by omega) _ _ _ _⟩
  simp [results, Tryz.results86, go_sem, r0, r1, r2, r3]

set_option maxRecDepth 20000 in
set_option maxHeartbeats 4000000 in
theorem stp_one (xo : Int) (xt xn vb : List UInt8) (vk vn vm xa : Int) (wo ta na ro : Option Addr) (wc tc nc rc p q m : Nat) (w : World) (bk off : Nat) (ak an am : Int) (ab : List UInt8) (hwo : wo = some ⟨bk, off, none⟩) (h4 : At4 w bk off ⟨ak, an, am, ab⟩) (o1 : (xo == 1) = false) (o2 : (xo == 2) = false) (o19 : (xo == 19) = false) (rk rn rm re : Int) (rb : ByteArray) (F : Tells 14 #[.int .i64 xo, va ak an am ⟨ab.toArray⟩] w (.tuple #[va rk rn rm rb, .int .i64 re])) :
    Calls Tryz.prog 86 #[.agg #[.int .i64 xo, .string ⟨xt.toArray⟩, .string ⟨xn.toArray⟩, .int .i64 vk, .int .i64 vn, .int .i64 vm, .string ⟨vb.toArray⟩, .int .i64 xa], .slice wo 1 wc, scv ta na p q tc nc, .slice ro m rc] w fun e w' => e = .returned (.tuple #[va rk rn rm rb, .int .i64 re]) ∧ Below w.heap.size w w' := by
  obtain ⟨w0, hw0, bn, bs, br0, Bw⟩ := node_boxes w ⟨xo, xt, xn, ⟨vk, vn, vm, vb⟩, xa⟩ (.slice ta p tc) (.slice na q nc)
  have n0 := bn.at 0
  have n1 := bn.at 1
  have n2 := bn.at 2
  have n3 := bn.at 3
  have n4 := bn.at 4
  have n5 := bn.at 5
  have n6 := bn.at 6
  have n7 := bn.at 7
  have ln := bn.lt
  have s0 := bs.at 0
  have s1 := bs.at 1
  have ls := bs.lt
  have HB : Hid (Below w.heap.size w w0) := Bw
  have HX : Hid (Box w0 (w.heap.size + 1 + 1) nul) := br0
  clear bn bs br0 Bw
  go_enter Tryz.func86, Tryz.ntmps86
  go_upto_region 1 with fail
  rw [← hw0]
  clear hw0
  subst hwo
  have br := HX.out
  have lt1 := br.lt
  obtain ⟨r0, r1, r2, r3⟩ := br.at4
  dsimp only [nul] at r0 r1 r2 r3
  simp only [Nat.zero_add] at r1 r2 r3
  have f0 := br.free 0
  have f1 := br.free 1
  have f2 := br.free 2
  have f3 := br.free 3
  obtain ⟨c0, c1, c2, c3⟩ := h4.later HB.out
  have hg := (h4.later HB.out).lt
  have hg' := h4.lt
  have z0 : IntKind.i64.wrap 0 = 0 := by rw [IntKind.wrap_i64]; rfl
  have z1 : IntKind.i64.wrap 1 = 1 := by rw [IntKind.wrap_i64]; rfl
  have nb : ¬ w.heap.size + 1 + 1 = bk := by omega
  have nb' : ¬ bk = w.heap.size + 1 + 1 := by omega
  dsimp only at c0 c1 c2 c3
  clear br h4 s0 s1 ls n1 n2 n3 n4 n5 n6 n7
  go_wp2_with fail
  go_region_held2 (fun W => W.cell? ⟨bk, off, none⟩ = some (.int .i64 ak) ∧ W.cell? ⟨bk, off + 1, none⟩ = some (.int .i64 an) ∧ W.cell? ⟨bk, off + 2, none⟩ = some (.int .i64 am) ∧ W.cell? ⟨bk, off + 3, none⟩ = some (.string ⟨ab.toArray⟩) ∧ W.cell? ⟨w.heap.size, 0, none⟩ = some (.int .i64 xo)) (simp (maxDischargeDepth := 12) [go_sem, c0, c1, c2, c3, n0, ln, hg]) ((go_at_call 14; refine (F _ (below_trans HB.out (Grown.below (by repeat (first | assumption | exact Grown.refl _ | apply Grown.drew | apply Grown.drewN | apply Grown.alloc | apply Grown.more | apply Grown.drawTo))))).mono ?_; rintro e w2 ⟨rfl, bc⟩; obtain ⟨osc, dc, rfl⟩ := wide bc; clear bc))
  all_goals go_wp2
  all_goals refine bodyPost_ret_by (v := .tuple #[va rk rn rm rb, .int .i64 re]) ?_ rfl ⟨rfl, ?_⟩
  · simp [results, Tryz.results86, go_sem, r0, r1, r2, r3, lt1]
  · exact below_trans (res_kept (q := w.heap.size + 1 + 1) HB.out (by omega) _ _ _ _) (Grown.below (by repeat (first | assumption | exact Grown.refl _ | apply Grown.drew | apply Grown.drewN | apply Grown.alloc | apply Grown.more | apply Grown.drawTo)))

set_option maxRecDepth 20000 in
set_option maxHeartbeats 4000000 in
theorem stp_two (xo : Int) (xt xn vb : List UInt8) (vk vn vm xa : Int) (wo ta na ro : Option Addr) (wc tc nc rc p q m : Nat) (w : World) (bk off : Nat) (ak an am : Int) (ab : List UInt8) (ck cn cm : Int) (cb : List UInt8) (hwo : wo = some ⟨bk, off, none⟩) (h4 : At4 w bk off ⟨ak, an, am, ab⟩) (g4 : At4 w bk (off + 4) ⟨ck, cn, cm, cb⟩) (o1 : (xo == 1) = false) (o2 : (xo == 2) = false) (o19 : (xo == 19) = false) (rk rn rm re : Int) (rb : ByteArray) (F : Tells 16 #[.int .i64 xo, va ak an am ⟨ab.toArray⟩, va ck cn cm ⟨cb.toArray⟩] w (.tuple #[va rk rn rm rb, .int .i64 re])) :
    Calls Tryz.prog 86 #[.agg #[.int .i64 xo, .string ⟨xt.toArray⟩, .string ⟨xn.toArray⟩, .int .i64 vk, .int .i64 vn, .int .i64 vm, .string ⟨vb.toArray⟩, .int .i64 xa], .slice wo 2 wc, scv ta na p q tc nc, .slice ro m rc] w fun e w' => e = .returned (.tuple #[va rk rn rm rb, .int .i64 re]) ∧ Below w.heap.size w w' := by
  obtain ⟨w0, hw0, bn, bs, br0, Bw⟩ := node_boxes w ⟨xo, xt, xn, ⟨vk, vn, vm, vb⟩, xa⟩ (.slice ta p tc) (.slice na q nc)
  have n0 := bn.at 0
  have n1 := bn.at 1
  have n2 := bn.at 2
  have n3 := bn.at 3
  have n4 := bn.at 4
  have n5 := bn.at 5
  have n6 := bn.at 6
  have n7 := bn.at 7
  have ln := bn.lt
  have s0 := bs.at 0
  have s1 := bs.at 1
  have ls := bs.lt
  have HB : Hid (Below w.heap.size w w0) := Bw
  have HX : Hid (Box w0 (w.heap.size + 1 + 1) nul) := br0
  clear bn bs br0 Bw
  go_enter Tryz.func86, Tryz.ntmps86
  go_upto_region 1 with fail
  rw [← hw0]
  clear hw0
  subst hwo
  have br := HX.out
  have lt1 := br.lt
  obtain ⟨r0, r1, r2, r3⟩ := br.at4
  dsimp only [nul] at r0 r1 r2 r3
  simp only [Nat.zero_add] at r1 r2 r3
  have f0 := br.free 0
  have f1 := br.free 1
  have f2 := br.free 2
  have f3 := br.free 3
  obtain ⟨c0, c1, c2, c3⟩ := h4.later HB.out
  have hg := (h4.later HB.out).lt
  have hg' := h4.lt
  obtain ⟨d0, d1, d2, d3⟩ := g4.later HB.out
  have z0 : IntKind.i64.wrap 0 = 0 := by rw [IntKind.wrap_i64]; rfl
  have z1 : IntKind.i64.wrap 1 = 1 := by rw [IntKind.wrap_i64]; rfl
  have nb : ¬ w.heap.size + 1 + 1 = bk := by omega
  have nb' : ¬ bk = w.heap.size + 1 + 1 := by omega
  dsimp only at c0 c1 c2 c3 d0 d1 d2 d3
  clear br h4 g4 s0 s1 ls n1 n2 n3 n4 n5 n6 n7
  go_wp2_with fail
  go_region_held2 (fun W => W.cell? ⟨bk, off, none⟩ = some (.int .i64 ak) ∧ W.cell? ⟨bk, off + 1, none⟩ = some (.int .i64 an) ∧ W.cell? ⟨bk, off + 2, none⟩ = some (.int .i64 am) ∧ W.cell? ⟨bk, off + 3, none⟩ = some (.string ⟨ab.toArray⟩) ∧ W.cell? ⟨bk, off + 4, none⟩ = some (.int .i64 ck) ∧ W.cell? ⟨bk, off + 4 + 1, none⟩ = some (.int .i64 cn) ∧ W.cell? ⟨bk, off + 4 + 2, none⟩ = some (.int .i64 cm) ∧ W.cell? ⟨bk, off + 4 + 3, none⟩ = some (.string ⟨cb.toArray⟩) ∧ W.cell? ⟨w.heap.size, 0, none⟩ = some (.int .i64 xo)) (simp (maxDischargeDepth := 12) [go_sem, c0, c1, c2, c3, d0, d1, d2, d3, n0, ln, hg]) ((go_at_call 16; refine (F _ (below_trans HB.out (Grown.below (by repeat (first | assumption | exact Grown.refl _ | apply Grown.drew | apply Grown.drewN | apply Grown.alloc | apply Grown.more | apply Grown.drawTo))))).mono ?_; rintro e w2 ⟨rfl, bc⟩; obtain ⟨osc, dc, rfl⟩ := wide bc; clear bc))
  all_goals go_wp2
  all_goals refine bodyPost_ret_by (v := .tuple #[va rk rn rm rb, .int .i64 re]) ?_ rfl ⟨rfl, ?_⟩
  · simp [results, Tryz.results86, go_sem, r0, r1, r2, r3, lt1]
  · exact below_trans (res_kept (q := w.heap.size + 1 + 1) HB.out (by omega) _ _ _ _) (Grown.below (by repeat (first | assumption | exact Grown.refl _ | apply Grown.drew | apply Grown.drewN | apply Grown.alloc | apply Grown.more | apply Grown.drawTo)))
end Go.Proofs.YtgapmofhnjfdiaaGreatDoor

namespace Go.Proofs.YtgapmofhnjfdiaaGreatDoor
open Go.RowKit Go.Shelf

theorem stp_any (x : Nd) (wo ta na ro : Option Addr) (wc tc nc rc : Nat) (of : List Va) (ts ns : List (List UInt8)) (row : List Va) (w : World) (hT : Tabs w) (hP : Pw w) (hw : Vs w wo of) (ht : Sl w ta ts) (hn : Sl w na ns) (hr : Vs w ro row) (hlen : ns.length = row.length) (hl : row.length ≤ 140737488351232) (hm : mayN x = true) (ho : (of.length : Int) = opsN x) (hi : ∀ v ∈ of, vin v) :
    Calls Tryz.prog 86 #[ndv x, .slice wo of.length wc, scv ta na ts.length ns.length tc nc, .slice ro row.length rc] w fun e w' => e = .returned (rs (stpR x of ts ns row)) ∧ Below w.heap.size w w' := by
  have hops := mayN_ops x hm
  have hfit : fitN x = true := by unfold mayN at hm; rw [Bool.and_eq_true] at hm; exact hm.2
  have CV : Tells 152 #[ndv x, scv ta na ts.length ns.length tc nc, .slice ro row.length rc] w (rs (colR x ts ns row)) := fun W h => colv_any x ta na ro tc nc rc ts ns row W (ht.later h) (hn.later h) (hr.later h) hlen hl
  obtain ⟨xo, xt, xn, ⟨vk, vn, vm, vb⟩, xa⟩ := x
  unfold stpR
  simp only
  by_cases h1 : xo = 1
  · subst h1
    rw [if_pos rfl]
    exact stp_val xt xn vb vk vn vm xa wo ta na ro wc tc nc rc ts.length ns.length row.length of.length w
  rw [if_neg h1]
  by_cases h2 : xo = 2
  · subst h2
    rw [if_pos rfl]
    rcases hc : colR ⟨2, xt, xn, ⟨vk, vn, vm, vb⟩, xa⟩ ts ns row with ⟨⟨rk, rn, rm, rb⟩, re⟩
    rw [hc] at CV
    exact stp_col xt xn vb vk vn vm xa wo ta na ro wc tc nc rc ts.length ns.length row.length of.length w rk rn rm re ⟨rb.toArray⟩ CV
  rw [if_neg h2]
  clear CV
  by_cases h19 : xo = 19
  · subst h19
    rw [if_pos rfl]
    have F : Tells 22 #[.string ⟨xn.toArray⟩, .slice wo of.length wc] w (rs (funR xn of)) := fun W h => qfunction_any xn wo wc of W (hT.later h) (hP.below h) (hw.later h) (by unfold opsN at hops ho; simp at hops ho; omega) hi
    rcases hc : funR xn of with ⟨⟨rk, rn, rm, rb⟩, re⟩
    rw [hc] at F
    exact stp_fun xt xn vb vk vn vm xa wo ta na ro wc tc nc rc ts.length ns.length row.length of.length w rk rn rm re ⟨rb.toArray⟩ F
  rw [if_neg h19]
  have o1 : (xo == 1) = false := by rw [beq_eq_false_iff_ne]; exact h1
  have o2 : (xo == 2) = false := by rw [beq_eq_false_iff_ne]; exact h2
  have o19 : (xo == 19) = false := by rw [beq_eq_false_iff_ne]; exact h19
  have hx3 : 3 ≤ xo := by
    unfold fitN at hfit
    simp only [h1, h2, h19, if_false, Bool.and_eq_true, decide_eq_true_eq] at hfit
    exact hfit.1
  unfold opsN at ho
  simp only [h19, if_false, hx3, if_true] at ho
  match of, hw, hi, ho with
  | [], _, _, ho => simp at ho; split at ho <;> omega
  | [a], hw, hi, _ =>
    rw [if_pos (show [a].length = 1 from rfl)]
    obtain ⟨b, off, rfl, hc⟩ := hw (by simp)
    have h4 : At4 w b off a := by have := hc 0 (by simp); simpa using this
    have F : Tells 14 #[.int .i64 xo, vv a] w (rs (unR xo a)) := fun W h => qun_any xo a W (hT.later h) (hP.below h) (hi a (by simp))
    show Calls _ _ _ _ fun e w' => e = .returned (rs (unR xo a)) ∧ _
    rcases hu : unR xo a with ⟨⟨rk, rn, rm, rb⟩, re⟩
    rw [hu] at F
    obtain ⟨ak, an, am, ab⟩ := a
    exact stp_one xo xt xn vb vk vn vm xa _ ta na ro wc tc nc rc ts.length ns.length row.length w b off ak an am ab rfl h4 o1 o2 o19 rk rn rm re ⟨rb.toArray⟩ F
  | [a, c], hw, hi, _ =>
    rw [if_neg (show ¬ [a, c].length = 1 by simp)]
    obtain ⟨b, off, rfl, hc⟩ := hw (by simp)
    have h4 : At4 w b off a := by have := hc 0 (by simp); simpa using this
    have g4 : At4 w b (off + 4) c := by have := hc 1 (by simp); simpa using this
    have F : Tells 16 #[.int .i64 xo, vv a, vv c] w (rs (binR xo a c)) := fun W h => qbin_any xo a c W (hT.later h) (hP.below h) (hi a (by simp)) (hi c (by simp))
    show Calls _ _ _ _ fun e w' => e = .returned (rs (binR xo a c)) ∧ _
    rcases hu : binR xo a c with ⟨⟨rk, rn, rm, rb⟩, re⟩
    rw [hu] at F
    obtain ⟨ak, an, am, ab⟩ := a
    obtain ⟨ck, cn, cm, cb⟩ := c
    exact stp_two xo xt xn vb vk vn vm xa _ ta na ro wc tc nc rc ts.length ns.length row.length w b off ak an am ab ck cn cm cb rfl h4 g4 o1 o2 o19 rk rn rm re ⟨rb.toArray⟩ F
  | _ :: _ :: _ :: _, _, _, ho => simp at ho; split at ho <;> omega
end Go.Proofs.YtgapmofhnjfdiaaGreatDoor

namespace Go.Proofs.YtgapmofhnjfdiaaGreatDoor
open Go.RowKit Go.Shelf

abbrev vcs (v : Va) : Array Value := #[.int .i64 v.k, .int .i64 v.n, .int .i64 v.m, .string ⟨v.b.toArray⟩]
def vcells (l : List Va) : List Value := l.flatMap fun v => (vcs v).toList
theorem vcells_len (l : List Va) : (vcells l).length = l.length * 4 := by
  induction l with
  | nil => rfl
  | cons a l ih =>
    have e : vcells (a :: l) = (vcs a).toList ++ vcells l := by simp [vcells]
    rw [e, List.length_append, ih, List.length_cons]
    simp
    omega
theorem vcells_app (l r : List Va) : vcells (l ++ r) = vcells l ++ vcells r := by simp [vcells]
theorem vcells_at (x : List Va) : ∀ (i j : Nat) (hi : i < x.length), j < 4 → (vcells x)[i * 4 + j]? = (vcs x[i])[j]? := by
  induction x with
  | nil => intro i j hi; simp at hi
  | cons t x ih =>
    intro i j hi hj
    have e : vcells (t :: x) = (vcs t).toList ++ vcells x := by simp [vcells]
    rw [e]
    cases i with
    | zero =>
      rw [List.getElem?_append_left (by simpa using hj)]
      simp
    | succ i =>
      rw [List.getElem?_append_right (by simp; omega)]
      simp at hi
      have := ih i j hi hj
      simp only [List.getElem_cons_succ]
      rw [← this]
      congr 1
      simp; omega
theorem vcells_take (l : List Va) (f : Nat) (h : f ≤ l.length) : (vcells l).take (f * 4) = vcells (l.take f) := by
  have e : vcells l = vcells (l.take f) ++ vcells (l.drop f) := by rw [← vcells_app, List.take_append_drop]
  rw [e, List.take_append_of_le_length (by rw [vcells_len, List.length_take]; omega), List.take_of_length_le (by rw [vcells_len, List.length_take]; omega)]
theorem one_va (v : Va) : ∀ u ∈ (vcs v).toList, u.oneCell' = true := by
  intro u hu
  simp at hu
  rcases hu with rfl | rfl | rfl | rfl <;> rfl

/-- A stack of values of one's own. -/
abbrev Vk (w : World) (base : Nat) (v : Value) (st : List Va) : Prop := w.ownsRow base 30 4 v st.length (vcells st)
theorem Vk.shape {w : World} {base : Nat} {v : Value} {st : List Va} (h : Vk w base v st) :
    ∃ ao cap, v = .slice ao st.length cap ∧ st.length ≤ cap ∧ (ao = none → st = [] ∧ cap = 0) ∧ (∀ f, f ≤ st.length → Vk w base (.slice ao f cap) (st.take f)) ∧ (∀ a, ao = some a → ∃ g, a = ⟨g, 0, none⟩ ∧ base ≤ g ∧ g < w.heap.size ∧ ∀ i (h : i < st.length), At4 w g (i * 4) st[i]) := by
  obtain ⟨h1, h2⟩ := h
  rcases h2 with ⟨rfl, hn⟩ | ⟨g, cap, cur, rfl, hb, hg, hnc, hcm, hcs, htake⟩
  · have : st = [] := List.length_eq_zero_iff.1 hn
    subst this
    exact ⟨none, 0, rfl, Nat.le_refl _, fun _ => ⟨rfl, rfl⟩, fun f hf => by simp at hf; subst hf; exact World.ownsRow_nil _ _ _ _, fun a ha => by cases ha⟩
  · refine ⟨some ⟨g, 0, none⟩, cap, rfl, hnc, (fun h => by cases h), fun f hf => ?_, fun a ha => ?_⟩
    · have e : (st.take f).length = f := by rw [List.length_take]; omega
      show w.ownsRow base _ 4 _ (st.take f).length _
      rw [e]
      refine ⟨by rw [vcells_len, e], .inr ⟨g, cap, cur, rfl, hb, hg, by omega, hcm, hcs, ?_⟩⟩
      have : cur.toList.take (f * 4) = (cur.toList.take (st.length * 4)).take (f * 4) := by rw [List.take_take, Nat.min_eq_left (by omega)]
      rw [this, htake, vcells_take st f hf]
    · cases ha
      have hlt : g < w.heap.size := by
        rcases Nat.lt_or_ge g w.heap.size with h | h
        · exact h
        · rw [Array.getElem?_eq_none h] at hg; cases hg
      refine ⟨g, rfl, hb, hlt, fun i hi => ?_⟩
      have hc : ∀ j, j < 4 → w.cell? ⟨g, i * 4 + j, none⟩ = (vcs st[i])[j]? := by
        intro j hj
        rw [← vcells_at st i j hi hj, cell_of_row w g (i * 4 + j) cur _ (0, 0) hg, ← htake]
        rw [List.getElem?_take, if_pos (by omega)]
        simp
      exact ⟨hc 0 (by decide), hc 1 (by decide), hc 2 (by decide), hc 3 (by decide)⟩
theorem Vk.push {w : World} {base n : Nat} {d : Va} {v : Value} {st : List Va} (hl : st.length = n) (h : w.ownsRow base 30 4 v (n + 1) (vcells st ++ (vcs d).toList)) : Vk w base v (st ++ [d]) := by
  subst hl
  show w.ownsRow _ _ _ _ (st ++ [d]).length (vcells (st ++ [d]))
  have e1 : (st ++ [d]).length = st.length + 1 := by simp
  have e2 : vcells (st ++ [d]) = vcells st ++ (vcs d).toList := by rw [vcells_app]; simp [vcells]
  rw [e1, e2]
  exact h
theorem Vk.later {w w' : World} {base : Nat} {v : Value} {st : List Va} (h : Vk w base v st) (hb : Below w.heap.size w w') : Vk w' base v st :=
  World.ownsRow.kept (row := none) h ⟨hb.os, hb.tape, hb.output, hb.size, fun k hk _ => hb.block k hk⟩ (by
    cases hv : v.ownBlock with
    | none => exact .inl rfl
    | some k => exact .inr (by simp))
theorem At4.grown {w w' : World} {p o : Nat} {v : Va} {row : Option Nat} (h : At4 w p o v) (hg : w.grownBy w' row) (hne : some p ≠ row) : At4 w' p o v := by
  have hl := h.lt
  obtain ⟨h0, h1, h2, h3⟩ := h
  exact ⟨(hg.cell_far ⟨p, o, none⟩ hl hne).trans h0, (hg.cell_far ⟨p, o + 1, none⟩ hl hne).trans h1, (hg.cell_far ⟨p, o + 2, none⟩ hl hne).trans h2, (hg.cell_far ⟨p, o + 3, none⟩ hl hne).trans h3⟩
/-- Where an expression is right, each node finds what it is done with. -/
theorem runD_one {x : Nd} {l : List Nd} {st r : List Nat} (h : runD mayN (x :: l) st = some r) : mayN x = true ∧ opsN x ≤ (st.length : Int) ∧ ∃ st', st'.length = st.length - (opsN x).toNat + 1 ∧ runD mayN l st' = some r := by
  unfold runD at h
  cases hs : stepD mayN st x with
  | none => rw [hs] at h; cases h
  | some st' =>
    rw [hs] at h
    unfold stepD at hs
    split at hs
    case isFalse => cases hs
    case isTrue hc =>
      refine ⟨hc.1, hc.2, st', ?_, h⟩
      cases hs
      rw [List.length_append, List.length_take]
      simp
theorem dep_one {l : List Nd} (h : 0 < depN mayN l) : l.length ≤ 256 ∧ ∃ d, runD mayN l [] = some [d] := by
  unfold depN at h
  split at h
  case isFalse => omega
  case isTrue hl =>
    refine ⟨hl, ?_⟩
    unfold depO at h
    split at h
    · exact ⟨_, by assumption⟩
    · omega
end Go.Proofs.YtgapmofhnjfdiaaGreatDoor

namespace Go.Proofs.YtgapmofhnjfdiaaGreatDoor
open Go.RowKit Go.Shelf

section
variable {P : Program} {w : World}

theorem run_append_from_at (base : Nat) (t tx ty e : TypeId) (i : TypeInfo) (z : Value) (size bytes : Nat) (ht : P.underlying t = some (.slice e)) (hi : P.info? e = some i) (hz : i.zero = some z)
    (hsize : i.size = size) (hby : i.bytes = bytes) (hzs : z.cells.size = size)
    (v : Value) (n : Nat) (xs : List Value) (hown : w.ownsRow base e size v n xs) (x : Value) (m : Nat) (news : List Value) (hs : Src P size tx x m news w)
    (h63 : n + m ≤ maxLen) (hbytes : (n + m) * bytes ≤ 140737488355328) (hbase : base ≤ w.heap.size) :
    ∃ v' w', (Builtin.append_ #[t, tx] ty #[v, x]).run P w = .ok v' w' ∧ w'.ownsRow base e size v' (n + m) (xs ++ news) ∧ w.grownBy w' v.ownBlock ∧ (v'.ownBlock = v.ownBlock ∨ v'.ownBlock = some w.heap.size) := by
  subst hsize
  subst hby
  have hl := hs.newsLen
  have hsmall : n + m ≤ 9223372036854775807 := by simp only [maxLen] at h63; omega
  have hlen : (xs ++ news).length = (n + m) * i.size := by rw [List.length_append, hown.1, hl, Nat.add_mul]
  have grown : ∀ (old : Nat), old < n + m → ∀ (row : Option Nat),
      (w.drew.alloc (.cells ((xs ++ news).toArray ++ Builtin.zeroCells z.cells (grownCap w (n + m) old e - (n + m))) e)).ownsRow base e i.size
        (.slice (some ⟨w.heap.size, 0, none⟩) (n + m) (grownCap w (n + m) old e)) (n + m) (xs ++ news) ∧
      w.grownBy (w.drew.alloc (.cells ((xs ++ news).toArray ++ Builtin.zeroCells z.cells (grownCap w (n + m) old e - (n + m))) e)) row := by
    intro old ho row
    have hge := grownCap_ge w (n + m) old e
    have hcm : grownCap w (n + m) old e ≤ maxLen := grownCap_le_maxLen w (n + m) old e h63
    refine ⟨⟨hlen, .inr ⟨w.heap.size, _, _, rfl, hbase, heap_alloc_new w.drew _, hge, hcm, ?_, ?_⟩⟩, ⟨rfl, rfl, rfl, by simp, fun k hk _ => Below.heap_alloc w.drew _ k hk⟩⟩
    · simp only [Array.size_append, List.size_toArray, size_zeroCells, hzs, hlen, ← Nat.add_mul]
      congr 1
      omega
    · simp only [Array.toList_append]
      rw [← hlen]
      exact List.take_left
  rcases hown.2 with ⟨rfl, rfl⟩ | ⟨g, cap, cur, rfl, hbg, hg, hnc, hcm, hcs, htake⟩
  · have hx : xs = [] := List.eq_nil_of_length_eq_zero (by simpa using hown.1)
    subst hx
    by_cases hm : m = 0
    · subst hm
      have hn : news = [] := List.eq_nil_of_length_eq_zero (by simpa using hl)
      subst hn
      have hcl := hs.cells
      refine ⟨.slice none 0 0, w, ?_, World.ownsRow_nil w base e i.size, ⟨rfl, rfl, rfl, Nat.le_refl _, fun _ _ _ => rfl⟩, .inl rfl⟩
      rcases hs.kind with ⟨e', hk⟩ | hk <;> simp [Builtin.append_, run_underlying ht, run_underlying hk, sizeOf, typeInfo, hi, hs.len, hcl]
    · have hr := run_append_grow_src (P := P) w t tx ty e i z ht hi hz none 0 0 [] (run_firstCells_none w.drew i.size 0 0 0) x m news hs (by omega) (by omega) (growslice_fits (by omega) hbytes)
      have hgr := grown 0 (by omega) (Value.ownBlock (.slice none 0 0))
      exact ⟨_, _, hr, hgr.1, hgr.2, .inr rfl⟩
  · by_cases hroom : n + m ≤ cap
    · have hfit : n * i.size + news.length ≤ cur.size := by rw [hl, hcs, ← Nat.add_mul]; exact Nat.mul_le_mul_right _ hroom
      have hr := run_append_room_from (P := P) t tx ty e i ht hi g n cap cur hg x m news hs hroom hfit
      refine ⟨_, _, hr, ⟨hlen, .inr ⟨g, cap, _, rfl, hbg, setRow_heap w g cur _ e _ hg, hroom, hcm, ?_, ?_⟩⟩, ⟨rfl, rfl, rfl, by simp, fun k _ hk => setRow_other w g k _ (fun e => hk (by simp [Value.ownBlock, e]))⟩, .inl rfl⟩
      · simp only [List.size_toArray, List.length_append, List.length_take, List.length_drop, Array.length_toList]
        omega
      · rw [htake, ← hlen]
        exact List.take_left
    · have holds : ∀ j u, xs[j]? = some u → w.drew.cell? ((⟨g, 0, none⟩ : Addr).add j) = some u := hown.cells (g := g) rfl
      have hr := run_append_grow_src (P := P) w t tx ty e i z ht hi hz (some ⟨g, 0, none⟩) n cap xs (run_firstCells_some w.drew i.size n ⟨g, 0, none⟩ n cap xs hown.1 holds) x m news hs (by omega) (by omega) (growslice_fits (by omega) hbytes)
      have hgr := grown cap (by omega) (Value.ownBlock (.slice (some ⟨g, 0, none⟩) n cap))
      exact ⟨_, _, hr, hgr.1, hgr.2, .inr rfl⟩

theorem step_append_from {ops : Array Oper} {o : Oper} {a : Act} {K : Act → World → Prop} {Q : Exit → Act → World → Prop} {E : Prop} (hgd : o.guard = none) (s x : Operand) (t tx : TypeId)
    (ho : o.op = .call { callee := .builtin .append, args := #[s, x], argTypes := #[t, tx] })
    (base : Nat) (e : TypeId) (i : TypeInfo) (z : Value) (size bytes : Nat) (ht : P.underlying t = some (.slice e)) (hi : P.info? e = some i) (hz : i.zero = some z)
    (hsize : i.size = size) (hby : i.bytes = bytes) (hzs : z.cells.size = size)
    (v : Value) (n : Nat) (xs : List Value) (hv : a.eval s = v) (hown : w.ownsRow base e size v n xs)
    (xv : Value) (m : Nat) (news : List Value) (hx : a.eval x = xv) (hs : Src P size tx xv m news w)
    (h63 : n + m ≤ maxLen) (hbytes : (n + m) * bytes ≤ 140737488355328) (hbase : base ≤ w.heap.size)
    (h : ∀ v' w', w'.ownsRow base e size v' (n + m) (xs ++ news) → w.grownBy w' v.ownBlock → (v'.ownBlock = v.ownBlock ∨ v'.ownBlock = some w.heap.size) → K (a.put o.dst v') w') :
    if Region.wanted o (yielded ops a.tmps) = true then Oper.wp P o a w K Q else E := by
  have hw : Region.wanted o (yielded ops a.tmps) = true := by simp [Region.wanted, hgd]
  rw [if_pos hw]
  obtain ⟨v', w', hr, h2, h3, h4⟩ := run_append_from_at (P := P) base t tx o.type e i z size bytes ht hi hz hsize hby hzs v n xs hown xv m news hs h63 hbytes hbase
  unfold Oper.wp execOp
  simp only [ho, resolve, invoke, builtin, Sem.run_bind, Sem.run_pure, Result.andThen_ok, List.map_toArray, List.map_cons, List.map_nil, hv, hx, hr]
  exact h v' w' h2 h3 h4
end

/-- Texts as cells. -/
def svT (ts : List (List UInt8)) : List Value := ts.map fun t => .string ⟨t.toArray⟩
theorem svT_len (ts : List (List UInt8)) : (svT ts).length = ts.length * 1 := by simp [svT]
theorem svT_one (ts : List (List UInt8)) : ∀ u ∈ svT ts, u.oneCell' = true := by
  intro u hu
  simp only [svT, List.mem_map] at hu
  obtain ⟨t, _, rfl⟩ := hu
  rfl
theorem src_of_sl {w : World} {ao : Option Addr} {cap : Nat} {l : List (List UInt8)} (h : Sl w ao l) (h0 : ao = none → l = []) : Src Tryz.prog 1 51 (.slice ao l.length cap) l.length (svT l) w := by
  cases ao with
  | none =>
    have := h0 rfl
    subst this
    exact Src.ofNil w Tryz.underlying51 cap
  | some a =>
    refine Src.ofSlice w Tryz.underlying51 a l.length cap (svT l) (svT_len l) (fun j u hu => ?_) (svT_one l)
    have hj : j < (svT l).length := (List.getElem?_eq_some_iff.1 hu).1
    rw [svT_len] at hj
    obtain ⟨b, off, e, hc⟩ := h (by omega)
    cases e
    rw [Addr.add_lit, hc j (by omega), ← hu]
    simp [svT, show j < l.length by omega]
theorem sl_of_own {w : World} {base : Nat} {v : Value} {l : List (List UInt8)} (h : w.ownsRow base 9 1 v l.length (svT l)) : ∃ ao cap, v = .slice ao l.length cap ∧ Sl w ao l := by
  obtain ⟨h1, h2⟩ := h
  rcases h2 with ⟨rfl, hn⟩ | ⟨g, cap, cur, rfl, hb, hg, hnc, hcm, hcs, htake⟩
  · have : l = [] := List.eq_nil_of_length_eq_zero hn
    subst this
    exact ⟨none, 0, rfl, fun h => by simp at h⟩
  · refine ⟨some ⟨g, 0, none⟩, cap, rfl, fun _ => ⟨g, 0, rfl, fun i hi => ?_⟩⟩
    rw [Nat.zero_add, cell_of_row w g i cur 9 (0, 0) hg]
    have h3 : cur[i]? = (cur.toList.take (l.length * 1))[i]? := by
      rw [List.getElem?_take, if_pos (by omega)]; simp
    rw [h3, htake]
    simp [svT, hi]
theorem own_kept {w w' : World} {base n : Nat} {e : TypeId} {size : Nat} {v : Value} {xs : List Value} {row : Option Nat} (h : w.ownsRow base e size v n xs) (hg : w.grownBy w' row) (hne : ∀ k, v.ownBlock = some k → some k ≠ row) : w'.ownsRow base e size v n xs :=
  World.ownsRow.kept (row := row) h hg (by
    cases hv : v.ownBlock with
    | none => exact .inl rfl
    | some k => exact .inr (fun e => hne k hv e))
theorem set_grown (w : World) (a : Addr) (u : Value) : w.grownBy (w.setCell a u) (some a.block) :=
  ⟨rfl, rfl, rfl, by simp [World.setCell], fun k _ hk => Below.heap_setCell _ _ _ _ (fun e => hk (by rw [e]))⟩
/-- Rows of one's own lie still where another block is stored into. -/
theorem own_set {w : World} {base n : Nat} {e : TypeId} {size : Nat} {v : Value} {xs : List Value} (h : w.ownsRow base e size v n xs) (a : Addr) (u : Value) (hb : a.block < base) : (w.setCell a u).ownsRow base e size v n xs :=
  own_kept h (set_grown w a u) (fun k hk e => by
    have h1 := (World.ownsRow.lt h k hk).1
    have h2 : k = a.block := Option.some.inj e
    omega)
end Go.Proofs.YtgapmofhnjfdiaaGreatDoor

namespace Go.Proofs.YtgapmofhnjfdiaaGreatDoor
open Go.RowKit Go.Shelf
attribute [local go_sem] cell?_more frozen?_more setCell_more more_lt more_more more_drew more_drewN setCell_drewN alloc_drewN

def scOx0 : Oper := { dst := some 3, op := Op.buildSlice 51 0 #[], type := 51, pos := "law.go:19", after := #[], guard := none }
def scOx1 : Oper := { dst := some 4, op := Op.fieldAddr 53 (Operand.tmp 1) 0, type := 0, pos := "law.go:19", after := #[], guard := none }
def scOx2 : Oper := { dst := some 5, op := Op.load 51 (Operand.tmp 4), type := 51, pos := "law.go:19", after := #[{ on := 1, ground := Ground.data }], guard := none }
def scOx3 : Oper := { dst := some 6, op := Op.call { callee := Callee.builtin Builtin.append, args := #[Operand.tmp 3, Operand.tmp 5], argTypes := #[51, 51] }, type := 51, pos := "law.go:19", after := #[{ on := 0, ground := Ground.data }, { on := 2, ground := Ground.data }], guard := none }
def scOx4 : Oper := { dst := some 7, op := Op.buildSlice 51 0 #[], type := 51, pos := "law.go:19", after := #[], guard := none }
def scOx5 : Oper := { dst := some 8, op := Op.fieldAddr 53 (Operand.tmp 1) 1, type := 0, pos := "law.go:19", after := #[], guard := none }
def scOx6 : Oper := { dst := some 9, op := Op.load 51 (Operand.tmp 8), type := 51, pos := "law.go:19", after := #[{ on := 5, ground := Ground.data }], guard := none }
def scOx7 : Oper := { dst := some 10, op := Op.call { callee := Callee.builtin Builtin.append, args := #[Operand.tmp 7, Operand.tmp 9], argTypes := #[51, 51] }, type := 51, pos := "law.go:19", after := #[{ on := 4, ground := Ground.data }, { on := 6, ground := Ground.data }, { on := 3, ground := Ground.chain }], guard := none }
def scOx8 : Oper := { dst := some 11, op := Op.build 56 #[(0, Operand.tmp 6), (1, Operand.tmp 10)], type := 56, pos := "law.go:19", after := #[{ on := 3, ground := Ground.data }, { on := 7, ground := Ground.data }], guard := none }
def scOx9 : Oper := { dst := none, op := Op.store 56 (Operand.tmp 2) (Operand.tmp 11), type := 0, pos := "law.go:19", after := #[{ on := 8, ground := Ground.data }, { on := 7, ground := Ground.chain }, { on := 0, ground := Ground.phase }, { on := 1, ground := Ground.phase }, { on := 2, ground := Ground.phase }, { on := 3, ground := Ground.phase }, { on := 4, ground := Ground.phase }, { on := 5, ground := Ground.phase }, { on := 6, ground := Ground.phase }, { on := 7, ground := Ground.phase }, { on := 8, ground := Ground.phase }], guard := none }

theorem infoStr7 : (Tryz.prog.info? 9).map (fun i => (i.zero, i.size, i.bytes)) = some (some (.string ⟨#[]⟩), 1, 16) := by kernel_rfl

set_option maxRecDepth 20000 in
set_option maxHeartbeats 4000000 in
theorem scope_any (ta na : Option Addr) (tc nc : Nat) (ts ns : List (List UInt8)) (w : World) (ht : Sl w ta ts) (hn : Sl w na ns) (ht0 : ta = none → ts = []) (hn0 : na = none → ns = []) (hlt : ts.length * 16 ≤ 140737488351232) (hln : ns.length * 16 ≤ 140737488351232) :
    Calls Tryz.prog 26 #[scv ta na ts.length ns.length tc nc] w fun e w' => (∃ ta' na' tc' nc', e = .returned (scv ta' na' ts.length ns.length tc' nc') ∧ Sl w' ta' ts ∧ Sl w' na' ns) ∧ Below w.heap.size w w' := by
  obtain ⟨i0, hi, hz0, hz1, hz2⟩ := info_parts infoStr7
  obtain ⟨p, hp⟩ : ∃ p, ts.length = p := ⟨_, rfl⟩
  obtain ⟨q, hq⟩ : ∃ q, ns.length = q := ⟨_, rfl⟩
  have HT : Hid (ts.length = p) := hp
  have HN : Hid (ns.length = q) := hq
  rw [hp] at hlt
  rw [hq] at hln
  have h1 := Cbox.new w #[.slice ta p tc, .slice na q nc] 53
  have h2 := Cbox.new (w.alloc (.cells #[.slice ta p tc, .slice na q nc] 53)) #[.slice none 0 0, .slice none 0 0] 56
  have B00 : Below w.heap.size w ((w.alloc (.cells #[.slice ta p tc, .slice na q nc] 53)).alloc (.cells #[.slice none 0 0, .slice none 0 0] 56)) := ((Below.refl _ w).alloc (Nat.le_refl _) _).alloc (by simp) _
  simp only [World.size_alloc] at h2
  have h1' := h1.later ((Below.refl _ _).alloc (Nat.le_refl _) (.cells #[.slice none 0 0, .slice none 0 0] 56))
  have hsz0 : ((w.alloc (.cells #[.slice ta p tc, .slice na q nc] 53)).alloc (.cells #[.slice none 0 0, .slice none 0 0] 56)).heap.size = w.heap.size + 1 + 1 := by simp
  generalize hw0 : ((w.alloc (.cells #[.slice ta p tc, .slice na q nc] 53)).alloc (.cells #[.slice none 0 0, .slice none 0 0] 56)) = w0 at h1' h2 B00 hsz0
  have Bw0 := B00
  have SRT : Hid (∀ W, Below w0.heap.size w0 W → Src Tryz.prog 1 51 (.slice ta p tc) p (svT ts) W) := fun W h => by
    have := src_of_sl (cap := tc) ((ht.later B00).later h) ht0
    rw [hp] at this
    exact this
  have SRN : Hid (∀ W, Below w0.heap.size w0 W → Src Tryz.prog 1 51 (.slice na q nc) q (svT ns) W) := fun W h => by
    have := src_of_sl (cap := nc) ((hn.later B00).later h) hn0
    rw [hq] at this
    exact this
  have RS : Hid (Cbox w0 w.heap.size #[.slice ta p tc, .slice na q nc] 53) := h1'
  have RB : Hid (Cbox w0 (w.heap.size + 1) #[.slice none 0 0, .slice none 0 0] 56) := h2
  have KP : Hid (∀ W, Below w0.heap.size w0 W → (W.cell? ⟨w.heap.size, 0, none⟩ = some (.slice ta p tc) ∧ W.cell? ⟨w.heap.size, 1, none⟩ = some (.slice na q nc)) ∧ Below w.heap.size w W) := fun W h => ⟨⟨(h1'.later h).at 0, (h1'.later h).at 1⟩, below_trans B00 h⟩
  rw [hp, hq]
  clear h1 h1' h2 ht hn ht0 hn0 hp hq B00
  have HZ : Hid (w0.heap.size = w.heap.size + 1 + 1) := hsz0
  clear hsz0
  go_enter Tryz.func26, Tryz.ntmps26
  go_upto_region 1 with fail
  try rw [hw0]
  clear hw0
  refine wp_region_held_drew (S := (fun W => (W.cell? ⟨w.heap.size, 0, none⟩ = some (.slice ta p tc) ∧ W.cell? ⟨w.heap.size, 1, none⟩ = some (.slice na q nc)) ∧ Below w.heap.size w W)) (by kernel_rfl) ?_ (fun hHeld => ?_)
  · ((try dsimp only); exact KP.out _ ((Below.refl _ w0).drew))
  refine wpAnyH_take (i := 1) (oi := scOx1) (v := ?_) rfl (by kernel_rfl) (by kernel_rfl) (by kernel_rfl) (fun _ _ _ h => h) (Or.inl ⟨by rfl, ?_⟩) (by assumption) ?_
  rotate_left
  · (intro W hSw; (try dsimp only at hSw); obtain ⟨⟨e0, e1⟩, _⟩ := hSw; try simp only [scOx1]; first | (go_simp; done) | (go_simp; with_reducible rfl))
  try simp only [scOx1, Act.put, List.setIfInBounds_toArray, List.set_cons_zero, List.set_cons_succ]
  refine wpAnyH_take (i := 2) (oi := scOx2) (v := ?_) rfl (by kernel_rfl) (by kernel_rfl) (by kernel_rfl) (fun _ _ _ h => h) (Or.inl ⟨by rfl, ?_⟩) (by assumption) ?_
  rotate_left
  · (intro W hSw; (try dsimp only at hSw); obtain ⟨⟨e0, e1⟩, _⟩ := hSw; try simp only [scOx2]; first | (go_simp; done) | (go_simp; with_reducible rfl))
  try simp only [scOx2, Act.put, List.setIfInBounds_toArray, List.set_cons_zero, List.set_cons_succ]
  refine wpAnyH_take (i := 5) (oi := scOx5) (v := ?_) rfl (by kernel_rfl) (by kernel_rfl) (by kernel_rfl) (fun _ _ _ h => h) (Or.inl ⟨by rfl, ?_⟩) (by assumption) ?_
  rotate_left
  · (intro W hSw; (try dsimp only at hSw); obtain ⟨⟨e0, e1⟩, _⟩ := hSw; try simp only [scOx5]; first | (go_simp; done) | (go_simp; with_reducible rfl))
  try simp only [scOx5, Act.put, List.setIfInBounds_toArray, List.set_cons_zero, List.set_cons_succ]
  refine wpAnyH_take (i := 6) (oi := scOx6) (v := ?_) rfl (by kernel_rfl) (by kernel_rfl) (by kernel_rfl) (fun _ _ _ h => h) (Or.inl ⟨by rfl, ?_⟩) (by assumption) ?_
  rotate_left
  · (intro W hSw; (try dsimp only at hSw); obtain ⟨⟨e0, e1⟩, _⟩ := hSw; try simp only [scOx6]; first | (go_simp; done) | (go_simp; with_reducible rfl))
  try simp only [scOx6, Act.put, List.setIfInBounds_toArray, List.set_cons_zero, List.set_cons_succ]
  refine wpAnyH_ready (rs := [0, 4]) (by kernel_rfl) (by simp) ?_
  refine AllReadyH.cons (o := scOx0) rfl (fun K hK => ?_) (AllReadyH.cons (o := scOx4) rfl (fun K hK => ?_) AllReadyH.nil)
  ·
    try simp only [scOx0]
    go_simp
    refine hK.out _ _ ?_ (fun hHeld => ?_)
    · ((try dsimp only); exact KP.out _ ((Below.refl _ w0).drew.alloc (Nat.le_refl _) (.cells #[] 9)))
    clear hK K
    try simp only [Act.put, List.setIfInBounds_toArray, List.set_cons_zero, List.set_cons_succ]
    have o3 : (w0.drew.alloc (.cells #[] 9)).ownsRow w0.heap.size 9 1 (.slice (some ⟨w0.heap.size, 0, none⟩) 0 0) 0 [] := World.ownsRow_made w0.drew #[] 0 (Nat.le_refl _) (by decide) (by simp)
    refine wpAnyH_ready (rs := [3, 4]) (by kernel_rfl) (by simp) ?_
    refine AllReadyH.cons (o := scOx3) rfl (fun K hK => ?_) (AllReadyH.cons (o := scOx4) rfl (fun K hK => ?_) AllReadyH.nil)
    ·
      have hbx : Below w0.heap.size w0 _ := ((Below.refl _ w0).drew.alloc (Nat.le_refl _) (.cells #[] 9))
      have sz := hbx.size
      refine step_append_from (by rfl) _ _ 51 51 (by rfl) w0.heap.size 9 i0 (.string ⟨#[]⟩) 1 16 Tryz.underlying51 hi hz0 hz1 hz2 rfl _ 0 [] (by rfl) o3 _ p (svT ts) (by rfl) (SRT.out _ hbx) (by unfold maxLen; omega) (by omega) sz ?_
      intro v6 w6 o6 g6 a6
      rw [List.nil_append, Nat.zero_add] at o6
      obtain ⟨ta2, tac2, hv2, _⟩ := sl_of_own (l := ts) (by rw [HT.out]; exact o6)
      rw [HT.out] at hv2
      subst hv2
      have hb6 : Below w0.heap.size w0 w6 := hbx.grown g6 sz (fun k hk => (World.ownsRow.lt o3 k hk).1)
      clear hbx
      refine hK.out _ _ ?_ (fun hHeld => ?_)
      · ((try dsimp only); exact KP.out _ hb6)
      clear hK K
      try simp only [scOx3, Act.put, List.setIfInBounds_toArray, List.set_cons_zero, List.set_cons_succ]
      refine wpAnyH_ready (rs := [4]) (by kernel_rfl) (by simp) ?_
      refine AllReadyH.cons (o := scOx4) rfl (fun K hK => ?_) AllReadyH.nil
      try simp only [scOx4]
      go_simp
      refine hK.out _ _ ?_ (fun hHeld => ?_)
      · ((try dsimp only); exact KP.out _ (hb6.alloc hb6.size _))
      clear hK K
      try simp only [Act.put, List.setIfInBounds_toArray, List.set_cons_zero, List.set_cons_succ]
      have o7 : (w6.alloc (.cells #[] 9)).ownsRow w0.heap.size 9 1 (.slice (some ⟨w6.heap.size, 0, none⟩) 0 0) 0 [] := World.ownsRow_made w6 #[] 0 hb6.size (by decide) (by simp)
      have o6a := World.ownsRow.alloc o6 (.cells #[] 9)
      refine wpAnyH_ready (rs := [7]) (by kernel_rfl) (by simp) ?_
      refine AllReadyH.cons (o := scOx7) rfl (fun K hK => ?_) AllReadyH.nil
      have hbx : Below w0.heap.size w0 _ := (hb6.alloc hb6.size (.cells #[] 9))
      have sz := hbx.size
      refine step_append_from (by rfl) _ _ 51 51 (by rfl) w0.heap.size 9 i0 (.string ⟨#[]⟩) 1 16 Tryz.underlying51 hi hz0 hz1 hz2 rfl _ 0 [] (by rfl) o7 _ q (svT ns) (by rfl) (SRN.out _ hbx) (by unfold maxLen; omega) (by omega) sz ?_
      intro v10 w10 o10 g10 a10
      rw [List.nil_append, Nat.zero_add] at o10
      obtain ⟨na2, nac2, hv2, _⟩ := sl_of_own (l := ns) (by rw [HN.out]; exact o10)
      rw [HN.out] at hv2
      subst hv2
      have hb10 : Below w0.heap.size w0 w10 := hbx.grown g10 sz (fun k hk => (World.ownsRow.lt o7 k hk).1)
      have o6k := own_kept o6a g10 (fun k hk e => by have h1 := (World.ownsRow.lt o6 k hk).2; have h2 : k = w6.heap.size := Option.some.inj e; omega)
      have bx := RB.out.later hb10
      have z0 := bx.at 0
      have z1 := bx.at 1
      have zf0 := bx.free 0
      have zf1 := bx.free 1
      have zl := bx.lt
      clear hbx
      refine hK.out _ _ ?_ (fun hHeld => ?_)
      · ((try dsimp only); exact KP.out _ hb10)
      clear hK K
      try simp only [scOx7, Act.put, List.setIfInBounds_toArray, List.set_cons_zero, List.set_cons_succ]
      refine wpAnyH_take (i := 8) (oi := scOx8) (v := ?_) rfl (by kernel_rfl) (by kernel_rfl) (by kernel_rfl) (fun _ _ _ h => h) (Or.inl ⟨by rfl, ?_⟩) (by assumption) ?_
      rotate_left
      · (intro W hSw; (try dsimp only at hSw); obtain ⟨⟨e0, e1⟩, _⟩ := hSw; try simp only [scOx8]; first | (go_simp; done) | (go_simp; with_reducible rfl))
      try simp only [scOx8, Act.put, List.setIfInBounds_toArray, List.set_cons_zero, List.set_cons_succ]
      refine wpAnyH_ready (rs := [9]) (by kernel_rfl) (by simp) ?_
      refine AllReadyH.cons (o := scOx9) rfl (fun K hK => ?_) AllReadyH.nil
      try simp only [scOx9]
      go_simp
      refine hK.out _ _ ?_ (fun hHeld => ?_)
      · ((try dsimp only); exact ⟨⟨by simp (maxDischargeDepth := 12) [go_sem, (RS.out.later hb10).at 0], by simp (maxDischargeDepth := 12) [go_sem, (RS.out.later hb10).at 1]⟩, ((below_trans Bw0 hb10).setCell (p := ⟨w.heap.size + 1, 0, none⟩) (by simp) _).setCell (p := ⟨w.heap.size + 1, 1, none⟩) (by simp) _⟩)
      clear hK K
      try simp only [Act.put, List.setIfInBounds_toArray, List.set_cons_zero, List.set_cons_succ]
      refine wpAnyH_done (by kernel_rfl) ?_ _
      have o6s := own_set (own_set o6k ⟨w.heap.size + 1, 0, none⟩ (.slice ta2 p tac2) (by rw [HZ.out]; simp)) ⟨w.heap.size + 1, 1, none⟩ (.slice na2 q nac2) (by rw [HZ.out]; simp)
      have o10s := own_set (own_set o10 ⟨w.heap.size + 1, 0, none⟩ (.slice ta2 p tac2) (by rw [HZ.out]; simp)) ⟨w.heap.size + 1, 1, none⟩ (.slice na2 q nac2) (by rw [HZ.out]; simp)
      obtain ⟨ta3, tc3, e3, st3⟩ := sl_of_own (l := ts) (by rw [HT.out]; exact o6s)
      obtain ⟨na3, nc3, e4, sn3⟩ := sl_of_own (l := ns) (by rw [HN.out]; exact o10s)
      simp only [Value.slice.injEq] at e3 e4
      obtain ⟨rfl, _, rfl⟩ := e3
      obtain ⟨rfl, _, rfl⟩ := e4
      have BF := ((below_trans Bw0 hb10).setCell (p := ⟨w.heap.size + 1, 0, none⟩) (by simp) (.slice ta2 p tac2)).setCell (p := ⟨w.heap.size + 1, 1, none⟩) (by simp) (.slice na2 q nac2)
      clear o6s o10s o6k o10 o6 KP
      go_wp2
      refine bodyPost_ret_by (v := .agg #[.slice ta2 p tac2, .slice na2 q nac2]) ?_ rfl ⟨⟨ta2, na2, tac2, nac2, rfl, st3, sn3⟩, BF⟩
      simp [results, Tryz.results26, go_sem, z0, z1]
    ·
      try simp only [scOx4]
      go_simp
      refine hK.out _ _ ?_ (fun hHeld => ?_)
      · ((try dsimp only); exact KP.out _ (((Below.refl _ w0).drew.alloc (Nat.le_refl _) (.cells #[] 9)).alloc (by simp) (.cells #[] 9)))
      clear hK K
      try simp only [Act.put, List.setIfInBounds_toArray, List.set_cons_zero, List.set_cons_succ]
      have o7a : ((w0.drew.alloc (.cells #[] 9)).alloc (.cells #[] 9)).ownsRow w0.heap.size 9 1 (.slice (some ⟨w0.heap.size + 1, 0, none⟩) 0 0) 0 [] := by have := World.ownsRow_made (base := w0.heap.size) (e := 9) (size := 1) (w0.drew.alloc (.cells #[] 9)) #[] 0 (by simp) (by decide) (by simp); simpa using this
      have o3a := World.ownsRow.alloc o3 (.cells #[] 9)
      refine wpAnyH_ready (rs := [3]) (by kernel_rfl) (by simp) ?_
      refine AllReadyH.cons (o := scOx3) rfl (fun K hK => ?_) AllReadyH.nil
      have hbx : Below w0.heap.size w0 _ := (((Below.refl _ w0).drew.alloc (Nat.le_refl _) (.cells #[] 9)).alloc (by simp) (.cells #[] 9))
      have sz := hbx.size
      refine step_append_from (by rfl) _ _ 51 51 (by rfl) w0.heap.size 9 i0 (.string ⟨#[]⟩) 1 16 Tryz.underlying51 hi hz0 hz1 hz2 rfl _ 0 [] (by rfl) o3a _ p (svT ts) (by rfl) (SRT.out _ hbx) (by unfold maxLen; omega) (by omega) sz ?_
      intro v6 w6 o6 g6 a6
      rw [List.nil_append, Nat.zero_add] at o6
      obtain ⟨ta2, tac2, hv2, _⟩ := sl_of_own (l := ts) (by rw [HT.out]; exact o6)
      rw [HT.out] at hv2
      subst hv2
      have hb6 : Below w0.heap.size w0 w6 := hbx.grown g6 sz (fun k hk => (World.ownsRow.lt o3a k hk).1)
      have o7b := own_kept o7a g6 (fun k hk e => by have h1 : k = w0.heap.size + 1 := (Option.some.inj hk).symm; have h2 : k = w0.heap.size := Option.some.inj e; omega)
      clear hbx
      refine hK.out _ _ ?_ (fun hHeld => ?_)
      · ((try dsimp only); exact KP.out _ hb6)
      clear hK K
      try simp only [scOx3, Act.put, List.setIfInBounds_toArray, List.set_cons_zero, List.set_cons_succ]
      refine wpAnyH_ready (rs := [7]) (by kernel_rfl) (by simp) ?_
      refine AllReadyH.cons (o := scOx7) rfl (fun K hK => ?_) AllReadyH.nil
      have hbx : Below w0.heap.size w0 _ := hb6
      have sz := hbx.size
      refine step_append_from (by rfl) _ _ 51 51 (by rfl) w0.heap.size 9 i0 (.string ⟨#[]⟩) 1 16 Tryz.underlying51 hi hz0 hz1 hz2 rfl _ 0 [] (by rfl) o7b _ q (svT ns) (by rfl) (SRN.out _ hbx) (by unfold maxLen; omega) (by omega) sz ?_
      intro v10 w10 o10 g10 a10
      rw [List.nil_append, Nat.zero_add] at o10
      obtain ⟨na2, nac2, hv2, _⟩ := sl_of_own (l := ns) (by rw [HN.out]; exact o10)
      rw [HN.out] at hv2
      subst hv2
      have hb10 : Below w0.heap.size w0 w10 := hbx.grown g10 sz (fun k hk => (World.ownsRow.lt o7b k hk).1)
      have o6k := own_kept o6 g10 (fun k hk e => by
        have h2 : k = w0.heap.size + 1 := Option.some.inj e
        rcases a6 with h | h
        · have h1 : some k = some (w0.heap.size) := hk.symm.trans h
          have := Option.some.inj h1
          omega
        · have h1 : some k = some (((w0.drew.alloc (.cells #[] 9)).alloc (.cells #[] 9)).heap.size) := hk.symm.trans h
          have := Option.some.inj h1
          simp at this
          omega)
      have bx := RB.out.later hb10
      have z0 := bx.at 0
      have z1 := bx.at 1
      have zf0 := bx.free 0
      have zf1 := bx.free 1
      have zl := bx.lt
      clear hbx
      refine hK.out _ _ ?_ (fun hHeld => ?_)
      · ((try dsimp only); exact KP.out _ hb10)
      clear hK K
      try simp only [scOx7, Act.put, List.setIfInBounds_toArray, List.set_cons_zero, List.set_cons_succ]
      refine wpAnyH_take (i := 8) (oi := scOx8) (v := ?_) rfl (by kernel_rfl) (by kernel_rfl) (by kernel_rfl) (fun _ _ _ h => h) (Or.inl ⟨by rfl, ?_⟩) (by assumption) ?_
      rotate_left
      · (intro W hSw; (try dsimp only at hSw); obtain ⟨⟨e0, e1⟩, _⟩ := hSw; try simp only [scOx8]; first | (go_simp; done) | (go_simp; with_reducible rfl))
      try simp only [scOx8, Act.put, List.setIfInBounds_toArray, List.set_cons_zero, List.set_cons_succ]
      refine wpAnyH_ready (rs := [9]) (by kernel_rfl) (by simp) ?_
      refine AllReadyH.cons (o := scOx9) rfl (fun K hK => ?_) AllReadyH.nil
      try simp only [scOx9]
      go_simp
      refine hK.out _ _ ?_ (fun hHeld => ?_)
      · ((try dsimp only); exact ⟨⟨by simp (maxDischargeDepth := 12) [go_sem, (RS.out.later hb10).at 0], by simp (maxDischargeDepth := 12) [go_sem, (RS.out.later hb10).at 1]⟩, ((below_trans Bw0 hb10).setCell (p := ⟨w.heap.size + 1, 0, none⟩) (by simp) _).setCell (p := ⟨w.heap.size + 1, 1, none⟩) (by simp) _⟩)
      clear hK K
      try simp only [Act.put, List.setIfInBounds_toArray, List.set_cons_zero, List.set_cons_succ]
      refine wpAnyH_done (by kernel_rfl) ?_ _
      have o6s := own_set (own_set o6k ⟨w.heap.size + 1, 0, none⟩ (.slice ta2 p tac2) (by rw [HZ.out]; simp)) ⟨w.heap.size + 1, 1, none⟩ (.slice na2 q nac2) (by rw [HZ.out]; simp)
      have o10s := own_set (own_set o10 ⟨w.heap.size + 1, 0, none⟩ (.slice ta2 p tac2) (by rw [HZ.out]; simp)) ⟨w.heap.size + 1, 1, none⟩ (.slice na2 q nac2) (by rw [HZ.out]; simp)
      obtain ⟨ta3, tc3, e3, st3⟩ := sl_of_own (l := ts) (by rw [HT.out]; exact o6s)
      obtain ⟨na3, nc3, e4, sn3⟩ := sl_of_own (l := ns) (by rw [HN.out]; exact o10s)
      simp only [Value.slice.injEq] at e3 e4
      obtain ⟨rfl, _, rfl⟩ := e3
      obtain ⟨rfl, _, rfl⟩ := e4
      have BF := ((below_trans Bw0 hb10).setCell (p := ⟨w.heap.size + 1, 0, none⟩) (by simp) (.slice ta2 p tac2)).setCell (p := ⟨w.heap.size + 1, 1, none⟩) (by simp) (.slice na2 q nac2)
      clear o6s o10s o6k o10 o6 KP
      go_wp2
      refine bodyPost_ret_by (v := .agg #[.slice ta2 p tac2, .slice na2 q nac2]) ?_ rfl ⟨⟨ta2, na2, tac2, nac2, rfl, st3, sn3⟩, BF⟩
      simp [results, Tryz.results26, go_sem, z0, z1]
  ·
    try simp only [scOx4]
    go_simp
    refine hK.out _ _ ?_ (fun hHeld => ?_)
    · ((try dsimp only); exact KP.out _ ((Below.refl _ w0).drew.alloc (Nat.le_refl _) (.cells #[] 9)))
    clear hK K
    try simp only [Act.put, List.setIfInBounds_toArray, List.set_cons_zero, List.set_cons_succ]
    have o7 : (w0.drew.alloc (.cells #[] 9)).ownsRow w0.heap.size 9 1 (.slice (some ⟨w0.heap.size, 0, none⟩) 0 0) 0 [] := World.ownsRow_made w0.drew #[] 0 (Nat.le_refl _) (by decide) (by simp)
    refine wpAnyH_ready (rs := [0]) (by kernel_rfl) (by simp) ?_
    refine AllReadyH.cons (o := scOx0) rfl (fun K hK => ?_) AllReadyH.nil
    try simp only [scOx0]
    go_simp
    refine hK.out _ _ ?_ (fun hHeld => ?_)
    · ((try dsimp only); exact KP.out _ (((Below.refl _ w0).drew.alloc (Nat.le_refl _) (.cells #[] 9)).alloc (by simp) (.cells #[] 9)))
    clear hK K
    try simp only [Act.put, List.setIfInBounds_toArray, List.set_cons_zero, List.set_cons_succ]
    have o3 : ((w0.drew.alloc (.cells #[] 9)).alloc (.cells #[] 9)).ownsRow w0.heap.size 9 1 (.slice (some ⟨w0.heap.size + 1, 0, none⟩) 0 0) 0 [] := by have := World.ownsRow_made (base := w0.heap.size) (e := 9) (size := 1) (w0.drew.alloc (.cells #[] 9)) #[] 0 (by simp) (by decide) (by simp); simpa using this
    have o7a := World.ownsRow.alloc o7 (.cells #[] 9)
    refine wpAnyH_ready (rs := [3]) (by kernel_rfl) (by simp) ?_
    refine AllReadyH.cons (o := scOx3) rfl (fun K hK => ?_) AllReadyH.nil
    have hbx : Below w0.heap.size w0 _ := (((Below.refl _ w0).drew.alloc (Nat.le_refl _) (.cells #[] 9)).alloc (by simp) (.cells #[] 9))
    have sz := hbx.size
    refine step_append_from (by rfl) _ _ 51 51 (by rfl) w0.heap.size 9 i0 (.string ⟨#[]⟩) 1 16 Tryz.underlying51 hi hz0 hz1 hz2 rfl _ 0 [] (by rfl) o3 _ p (svT ts) (by rfl) (SRT.out _ hbx) (by unfold maxLen; omega) (by omega) sz ?_
    intro v6 w6 o6 g6 a6
    rw [List.nil_append, Nat.zero_add] at o6
    obtain ⟨ta2, tac2, hv2, _⟩ := sl_of_own (l := ts) (by rw [HT.out]; exact o6)
    rw [HT.out] at hv2
    subst hv2
    have hb6 : Below w0.heap.size w0 w6 := hbx.grown g6 sz (fun k hk => (World.ownsRow.lt o3 k hk).1)
    have o7b := own_kept o7a g6 (fun k hk e => by have h1 : k = w0.heap.size := (Option.some.inj hk).symm; have h2 : k = w0.heap.size + 1 := Option.some.inj e; omega)
    clear hbx
    refine hK.out _ _ ?_ (fun hHeld => ?_)
    · ((try dsimp only); exact KP.out _ hb6)
    clear hK K
    try simp only [scOx3, Act.put, List.setIfInBounds_toArray, List.set_cons_zero, List.set_cons_succ]
    refine wpAnyH_ready (rs := [7]) (by kernel_rfl) (by simp) ?_
    refine AllReadyH.cons (o := scOx7) rfl (fun K hK => ?_) AllReadyH.nil
    have hbx : Below w0.heap.size w0 _ := hb6
    have sz := hbx.size
    refine step_append_from (by rfl) _ _ 51 51 (by rfl) w0.heap.size 9 i0 (.string ⟨#[]⟩) 1 16 Tryz.underlying51 hi hz0 hz1 hz2 rfl _ 0 [] (by rfl) o7b _ q (svT ns) (by rfl) (SRN.out _ hbx) (by unfold maxLen; omega) (by omega) sz ?_
    intro v10 w10 o10 g10 a10
    rw [List.nil_append, Nat.zero_add] at o10
    obtain ⟨na2, nac2, hv2, _⟩ := sl_of_own (l := ns) (by rw [HN.out]; exact o10)
    rw [HN.out] at hv2
    subst hv2
    have hb10 : Below w0.heap.size w0 w10 := hbx.grown g10 sz (fun k hk => (World.ownsRow.lt o7b k hk).1)
    have o6k := own_kept o6 g10 (fun k hk e => by
      have h2 : k = w0.heap.size := Option.some.inj e
      rcases a6 with h | h
      · have h1 : some k = some (w0.heap.size + 1) := hk.symm.trans h
        have := Option.some.inj h1
        omega
      · have h1 : some k = some (((w0.drew.alloc (.cells #[] 9)).alloc (.cells #[] 9)).heap.size) := hk.symm.trans h
        have := Option.some.inj h1
        simp at this
        omega)
    have bx := RB.out.later hb10
    have z0 := bx.at 0
    have z1 := bx.at 1
    have zf0 := bx.free 0
    have zf1 := bx.free 1
    have zl := bx.lt
    clear hbx
    refine hK.out _ _ ?_ (fun hHeld => ?_)
    · ((try dsimp only); exact KP.out _ hb10)
    clear hK K
    try simp only [scOx7, Act.put, List.setIfInBounds_toArray, List.set_cons_zero, List.set_cons_succ]
    refine wpAnyH_take (i := 8) (oi := scOx8) (v := ?_) rfl (by kernel_rfl) (by kernel_rfl) (by kernel_rfl) (fun _ _ _ h => h) (Or.inl ⟨by rfl, ?_⟩) (by assumption) ?_
    rotate_left
    · (intro W hSw; (try dsimp only at hSw); obtain ⟨⟨e0, e1⟩, _⟩ := hSw; try simp only [scOx8]; first | (go_simp; done) | (go_simp; with_reducible rfl))
    try simp only [scOx8, Act.put, List.setIfInBounds_toArray, List.set_cons_zero, List.set_cons_succ]
    refine wpAnyH_ready (rs := [9]) (by kernel_rfl) (by simp) ?_
    refine AllReadyH.cons (o := scOx9) rfl (fun K hK => ?_) AllReadyH.nil
    try simp only [scOx9]
    go_simp
    refine hK.out _ _ ?_ (fun hHeld => ?_)
    · ((try dsimp only); exact ⟨⟨by simp (maxDischargeDepth := 12) [go_sem, (RS.out.later hb10).at 0], by simp (maxDischargeDepth := 12) [go_sem, (RS.out.later hb10).at 1]⟩, ((below_trans Bw0 hb10).setCell (p := ⟨w.heap.size + 1, 0, none⟩) (by simp) _).setCell (p := ⟨w.heap.size + 1, 1, none⟩) (by simp) _⟩)
    clear hK K
    try simp only [Act.put, List.setIfInBounds_toArray, List.set_cons_zero, List.set_cons_succ]
    refine wpAnyH_done (by kernel_rfl) ?_ _
    have o6s := own_set (own_set o6k ⟨w.heap.size + 1, 0, none⟩ (.slice ta2 p tac2) (by rw [HZ.out]; simp)) ⟨w.heap.size + 1, 1, none⟩ (.slice na2 q nac2) (by rw [HZ.out]; simp)
    have o10s := own_set (own_set o10 ⟨w.heap.size + 1, 0, none⟩ (.slice ta2 p tac2) (by rw [HZ.out]; simp)) ⟨w.heap.size + 1, 1, none⟩ (.slice na2 q nac2) (by rw [HZ.out]; simp)
    obtain ⟨ta3, tc3, e3, st3⟩ := sl_of_own (l := ts) (by rw [HT.out]; exact o6s)
    obtain ⟨na3, nc3, e4, sn3⟩ := sl_of_own (l := ns) (by rw [HN.out]; exact o10s)
    simp only [Value.slice.injEq] at e3 e4
    obtain ⟨rfl, _, rfl⟩ := e3
    obtain ⟨rfl, _, rfl⟩ := e4
    have BF := ((below_trans Bw0 hb10).setCell (p := ⟨w.heap.size + 1, 0, none⟩) (by simp) (.slice ta2 p tac2)).setCell (p := ⟨w.heap.size + 1, 1, none⟩) (by simp) (.slice na2 q nac2)
    clear o6s o10s o6k o10 o6 KP
    go_wp2
    refine bodyPost_ret_by (v := .agg #[.slice ta2 p tac2, .slice na2 q nac2]) ?_ rfl ⟨⟨ta2, na2, tac2, nac2, rfl, st3, sn3⟩, BF⟩
    simp [results, Tryz.results26, go_sem, z0, z1]
end Go.Proofs.YtgapmofhnjfdiaaGreatDoor
