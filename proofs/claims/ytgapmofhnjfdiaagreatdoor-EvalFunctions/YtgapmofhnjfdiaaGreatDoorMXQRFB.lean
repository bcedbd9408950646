/-
  The document's answers for eval: Function, path by path.
  The document's answers for eval: Function, path by path.
-/
import Derived.Test.YtgapmofhnjfdiaaGreatDoorMLQLaw
import Derived.Test.YtgapmofhnjfdiaaGreatDoorQR7
import Derived.Test.YtgapmofhnjfdiaaGreatDoorDRefA
namespace Go.Proofs.YtgapmofhnjfdiaaGreatDoor
open Go.RowKit Go.Shelf
attribute [local go_sem] cell?_more frozen?_more setCell_more more_lt more_more more_drew more_drewN setCell_drewN alloc_drewN cell?_drawTo frozen?_drawTo heap_drawTo setCell_drawTo alloc_drawTo drewN_drawTo drew_drawTo drawTo_drewN drawTo_drew drawTo_drawTo more_drawTo

set_option maxRecDepth 100000 in
set_option maxHeartbeats 4000000 in
theorem rfun_name1 (B : ByteArray) (lo hi : Int) (ok : Bool) (ao : Option Addr) (l : List Va) (n cap : Nat) (w : World) (HN : Hid (l.length = n)) (hl : n ≤ 140737488351232) (hv : Vs w ao l) (hall : Hid (∀ x ∈ l, vr x = true))
    (KN : ∀ W, Calls Tryz.prog 81 #[.string B] W fun e w' => e = .returned (.tuple #[.int .i64 lo, .int .i64 hi, .bool ok]) ∧ W = w') (h1 : ok = false)  :
    Calls Tryz.prog 23 #[.string B, .slice ao n cap] w fun e w' => e = .returned (.tuple #[va 0 0 0 ⟨#[]⟩, .int .i64 34]) ∧ Below w.heap.size w w' := by
  obtain ⟨w0, hw0, bxr, Bw⟩ := res_box w
  go_enter Tryz.func23, Tryz.ntmps23
  go_upto_region 1 with fail
  rw [← hw0]
  clear hw0
  replace hv := hv.later Bw
  have NL := fun k n m b W => rnull7_any k n m b W
  go_wp2_with (go_at_call 81; refine (KN _).mono ?_; rintro e wc ⟨rfl, rfl⟩)
  clear KN
  go_loopw [9, 10] (fun s r wr => ∃ k : Nat, s = .bool (zf l k) ∧ r = .int .i64 (k : Int) ∧ k ≤ n ∧ Below w0.heap.size w0 wr) (fun _ r _ => n - (intOf r).toNat)
  case atStart => exact ⟨0, rfl, rfl, Nat.zero_le _, Below.refl _ _⟩
  case round =>
    obtain ⟨k, rfl, rfl, hk, hB⟩ := hrel
    by_cases hlt : k < n
    · have hlt' : (k : Int) < (n : Int) := by omega
      have k0 : (0 : Int) ≤ (k : Int) := by omega
      have hkl : k < l.length := by rw [HN.out]; exact hlt
      obtain ⟨b, off, rfl, hc⟩ := hv (by omega)
      obtain ⟨c0, c1, c2, c3⟩ := ((hc k (by omega)).later hB)
      have hg := (hc k (by omega)).lt
      have sB := hB.size
      have hg' : b < wr.heap.size := by omega
      have hr := hall.out l[k] (List.getElem_mem _)
      have HS : Hid (zf l (k + 1) = (zf l k || (l[k].k == 0))) := zf_step l k hkl
      obtain ⟨⟨vk, vn, vm, vb⟩, he⟩ : ∃ v : Va, v = l[k] := ⟨_, rfl⟩
      rw [← he] at c0 c1 c2 c3 hr HS
      have R : ∀ W, Calls Tryz.prog 46 #[va vk vn vm ⟨vb.toArray⟩] W fun e w' => e = .returned (.bool true) ∧ Below W.heap.size W w' := fun W => by
        have := rright_any vk vn vm ⟨vb.toArray⟩ W
        rwa [show vrt vk vn vm ⟨vb.toArray⟩ = true from hr] at this
      clear hc he hr hall hv bxr
      cases hz : zf l k
      · go_wp2_with (first
          | (go_at_call 46; refine (R _).mono ?_; rintro e wc ⟨rfl, bc⟩; obtain ⟨osc, dc, rfl⟩ := wide bc; clear bc)
          | (go_at_call 47; refine (NL _ _ _ _ _).mono ?_; rintro e wc ⟨rfl, os1, n1, rfl⟩))
        go_roundw
        case rel => exact ⟨k + 1, by rw [HS.out, hz]; rfl, by go_num, by omega, below_trans hB (Grown.below (by repeat (first | assumption | exact Grown.refl _ | apply Grown.drew | apply Grown.drewN | apply Grown.alloc | apply Grown.more | apply Grown.drawTo)))⟩
        case measure => simp [intOf]; omega
      · go_wp2_with (first
          | (go_at_call 46; refine (R _).mono ?_; rintro e wc ⟨rfl, bc⟩; obtain ⟨osc, dc, rfl⟩ := wide bc; clear bc)
          | (go_at_call 47; refine (NL _ _ _ _ _).mono ?_; rintro e wc ⟨rfl, os1, n1, rfl⟩))
        go_roundw
        case rel => exact ⟨k + 1, by rw [HS.out, hz]; rfl, by go_num, by omega, below_trans hB (Grown.below (by repeat (first | assumption | exact Grown.refl _ | apply Grown.drew | apply Grown.drewN | apply Grown.alloc | apply Grown.more | apply Grown.drawTo)))⟩
        case measure => simp [intOf]; omega
    · obtain rfl : k = n := by omega
      have br := bxr.later hB
      obtain ⟨r0, r1, r2, r3⟩ := br.at4
      dsimp only [nul] at r0 r1 r2 r3
      simp only [Nat.zero_add] at r1 r2 r3
      have f0 := br.free 0
      have f1 := br.free 1
      have f2 := br.free 2
      have f3 := br.free 3
      have lt1 := br.lt
      have lt2 : w.heap.size < wr.heap.size + 1 := by omega
      have lt3 : w.heap.size < wr.heap.size + 1 + 1 := by omega
      have Be := below_trans Bw hB
      replace hv := hv.later hB
      clear br bxr
      subst h1
      go_wp2
      refine bodyPost_ret_by (v := .tuple #[va 0 0 0 ⟨#[]⟩, .int .i64 34]) ?_ rfl ⟨rfl, ?_⟩
      · simp [results, Tryz.results23, go_sem, r0, r1, r2, r3]
      · refine below_trans (Be.setCell (p := ⟨w.heap.size, 0, none⟩) (Nat.le_refl _) (.int .i64 0) |>.setCell (p := ⟨w.heap.size, 1, none⟩) (Nat.le_refl _) (.int .i64 0) |>.setCell (p := ⟨w.heap.size, 2, none⟩) (Nat.le_refl _) (.int .i64 0) |>.setCell (p := ⟨w.heap.size, 3, none⟩) (Nat.le_refl _) (.string ⟨#[]⟩)) (Grown.below ?_)
        repeat (first | assumption | exact Grown.refl _ | apply Grown.drew | apply Grown.drewN | apply Grown.alloc | apply Grown.more | apply Grown.drawTo)


set_option maxRecDepth 100000 in
set_option maxHeartbeats 4000000 in
theorem rfun_abs1n (lo hi : Int) (ok : Bool) (ao : Option Addr) (l : List Va) (n cap : Nat) (w : World) (HN : Hid (l.length = n)) (hl : n ≤ 140737488351232) (hv : Vs w ao l) (hall : Hid (∀ x ∈ l, vr x = true))
    (KN : ∀ W, Calls Tryz.prog 81 #[.string ⟨#[97, 98, 115]⟩] W fun e w' => e = .returned (.tuple #[.int .i64 lo, .int .i64 hi, .bool ok]) ∧ W = w') (h1 : ok = true) (h2 : ¬ (n : Int) < lo) (h3 : ¬ (n : Int) > hi) (bl off : Nat) (an am : Int) (ab : List UInt8) (hao : Hid (ao = some ⟨bl, off, none⟩)) (h4 : At4 w bl off ⟨1, an, am, ab⟩) (hz : zf l n = false) (hn0 : (0 : Int) < (n : Int)) (hneg : an < 0) (rk rn rm re : Int) (rb : ByteArray) (U : Tells 15 #[.int .i64 3, va 1 an am ⟨ab.toArray⟩] w (.tuple #[va rk rn rm rb, .int .i64 re])) :
    Calls Tryz.prog 23 #[.string ⟨#[97, 98, 115]⟩, .slice ao n cap] w fun e w' => e = .returned (.tuple #[va rk rn rm rb, .int .i64 re]) ∧ Below w.heap.size w w' := by
  obtain ⟨w0, hw0, bxr, Bw⟩ := res_box w
  go_enter Tryz.func23, Tryz.ntmps23
  go_upto_region 1 with fail
  rw [← hw0]
  clear hw0
  replace hv := hv.later Bw
  have NL := fun k n m b W => rnull7_any k n m b W
  go_wp2_with (go_at_call 81; refine (KN _).mono ?_; rintro e wc ⟨rfl, rfl⟩)
  clear KN
  go_loopw [9, 10] (fun s r wr => ∃ k : Nat, s = .bool (zf l k) ∧ r = .int .i64 (k : Int) ∧ k ≤ n ∧ Below w0.heap.size w0 wr) (fun _ r _ => n - (intOf r).toNat)
  case atStart => exact ⟨0, rfl, rfl, Nat.zero_le _, Below.refl _ _⟩
  case round =>
    obtain ⟨k, rfl, rfl, hk, hB⟩ := hrel
    by_cases hlt : k < n
    · have hlt' : (k : Int) < (n : Int) := by omega
      have k0 : (0 : Int) ≤ (k : Int) := by omega
      have hkl : k < l.length := by rw [HN.out]; exact hlt
      obtain ⟨b, off, rfl, hc⟩ := hv (by omega)
      obtain ⟨c0, c1, c2, c3⟩ := ((hc k (by omega)).later hB)
      have hg := (hc k (by omega)).lt
      have sB := hB.size
      have hg' : b < wr.heap.size := by omega
      have hr := hall.out l[k] (List.getElem_mem _)
      have HS : Hid (zf l (k + 1) = (zf l k || (l[k].k == 0))) := zf_step l k hkl
      obtain ⟨⟨vk, vn, vm, vb⟩, he⟩ : ∃ v : Va, v = l[k] := ⟨_, rfl⟩
      rw [← he] at c0 c1 c2 c3 hr HS
      have R : ∀ W, Calls Tryz.prog 46 #[va vk vn vm ⟨vb.toArray⟩] W fun e w' => e = .returned (.bool true) ∧ Below W.heap.size W w' := fun W => by
        have := rright_any vk vn vm ⟨vb.toArray⟩ W
        rwa [show vrt vk vn vm ⟨vb.toArray⟩ = true from hr] at this
      clear hc he hr hall hv bxr
      cases hz : zf l k
      · go_wp2_with (first
          | (go_at_call 46; refine (R _).mono ?_; rintro e wc ⟨rfl, bc⟩; obtain ⟨osc, dc, rfl⟩ := wide bc; clear bc)
          | (go_at_call 47; refine (NL _ _ _ _ _).mono ?_; rintro e wc ⟨rfl, os1, n1, rfl⟩))
        go_roundw
        case rel => exact ⟨k + 1, by rw [HS.out, hz]; rfl, by go_num, by omega, below_trans hB (Grown.below (by repeat (first | assumption | exact Grown.refl _ | apply Grown.drew | apply Grown.drewN | apply Grown.alloc | apply Grown.more | apply Grown.drawTo)))⟩
        case measure => simp [intOf]; omega
      · go_wp2_with (first
          | (go_at_call 46; refine (R _).mono ?_; rintro e wc ⟨rfl, bc⟩; obtain ⟨osc, dc, rfl⟩ := wide bc; clear bc)
          | (go_at_call 47; refine (NL _ _ _ _ _).mono ?_; rintro e wc ⟨rfl, os1, n1, rfl⟩))
        go_roundw
        case rel => exact ⟨k + 1, by rw [HS.out, hz]; rfl, by go_num, by omega, below_trans hB (Grown.below (by repeat (first | assumption | exact Grown.refl _ | apply Grown.drew | apply Grown.drewN | apply Grown.alloc | apply Grown.more | apply Grown.drawTo)))⟩
        case measure => simp [intOf]; omega
    · obtain rfl : k = n := by omega
      have br := bxr.later hB
      obtain ⟨r0, r1, r2, r3⟩ := br.at4
      dsimp only [nul] at r0 r1 r2 r3
      simp only [Nat.zero_add] at r1 r2 r3
      have f0 := br.free 0
      have f1 := br.free 1
      have f2 := br.free 2
      have f3 := br.free 3
      have lt1 := br.lt
      have lt2 : w.heap.size < wr.heap.size + 1 := by omega
      have lt3 : w.heap.size < wr.heap.size + 1 + 1 := by omega
      have Be := below_trans Bw hB
      replace hv := hv.later hB
      clear br bxr
      subst h1
      have hao' := hao.out
      subst hao'
      obtain ⟨c0, c1, c2, c3⟩ := (h4.later Be)
      have hg := (h4.later Be).lt
      have hg2 : bl < wr.heap.size + 1 := by omega
      have hg3 : bl < wr.heap.size + 1 + 1 := by omega
      dsimp only at c0 c1 c2 c3
      clear h4 hv hao
      go_wp2_with (first
        | (go_at_call 70; refine (rnumber7_any _ _ _ _ _).mono ?_; rintro e wc ⟨rfl, os3, n3, rfl⟩)
        | (go_at_call 15; refine (U _ (below_trans Be (Grown.below (by repeat (first | assumption | exact Grown.refl _ | apply Grown.drew | apply Grown.drewN | apply Grown.alloc | apply Grown.more | apply Grown.drawTo))))).mono ?_; rintro e wc ⟨rfl, bc⟩; obtain ⟨osc, dc, rfl⟩ := wide bc; clear bc))
      refine bodyPost_ret_by (v := .tuple #[va rk rn rm rb, .int .i64 re]) ?_ rfl ⟨rfl, ?_⟩
      · simp [results, Tryz.results23, go_sem, r0, r1, r2, r3, lt1]
      · refine below_trans (Be.setCell (p := ⟨w.heap.size, 0, none⟩) (Nat.le_refl _) (.int .i64 rk) |>.setCell (p := ⟨w.heap.size, 1, none⟩) (Nat.le_refl _) (.int .i64 rn) |>.setCell (p := ⟨w.heap.size, 2, none⟩) (Nat.le_refl _) (.int .i64 rm) |>.setCell (p := ⟨w.heap.size, 3, none⟩) (Nat.le_refl _) (.string rb)) (Grown.below ?_)
        repeat (first | assumption | exact Grown.refl _ | apply Grown.drew | apply Grown.drewN | apply Grown.alloc | apply Grown.more | apply Grown.drawTo)


set_option maxRecDepth 100000 in
set_option maxHeartbeats 4000000 in
theorem rfun_norm_no (lo hi : Int) (ok : Bool) (ao : Option Addr) (l : List Va) (n cap : Nat) (w : World) (HN : Hid (l.length = n)) (hl : n ≤ 140737488351232) (hv : Vs w ao l) (hall : Hid (∀ x ∈ l, vr x = true))
    (KN : ∀ W, Calls Tryz.prog 81 #[.string ⟨#[110, 111, 114, 109]⟩] W fun e w' => e = .returned (.tuple #[.int .i64 lo, .int .i64 hi, .bool ok]) ∧ W = w') (h1 : ok = true) (h2 : ¬ (n : Int) < lo) (h3 : ¬ (n : Int) > hi) (ak : Int) (bl off : Nat) (an am : Int) (ab : List UInt8) (hao : Hid (ao = some ⟨bl, off, none⟩)) (h4 : At4 w bl off ⟨ak, an, am, ab⟩) (hz : zf l n = false) (hn0 : (0 : Int) < (n : Int)) (xa5 : (ak == 5) = false)  :
    Calls Tryz.prog 23 #[.string ⟨#[110, 111, 114, 109]⟩, .slice ao n cap] w fun e w' => e = .returned (.tuple #[va 0 0 0 ⟨#[]⟩, .int .i64 31]) ∧ Below w.heap.size w w' := by
  obtain ⟨w0, hw0, bxr, Bw⟩ := res_box w
  go_enter Tryz.func23, Tryz.ntmps23
  go_upto_region 1 with fail
  rw [← hw0]
  clear hw0
  replace hv := hv.later Bw
  have NL := fun k n m b W => rnull7_any k n m b W
  go_wp2_with (go_at_call 81; refine (KN _).mono ?_; rintro e wc ⟨rfl, rfl⟩)
  clear KN
  go_loopw [9, 10] (fun s r wr => ∃ k : Nat, s = .bool (zf l k) ∧ r = .int .i64 (k : Int) ∧ k ≤ n ∧ Below w0.heap.size w0 wr) (fun _ r _ => n - (intOf r).toNat)
  case atStart => exact ⟨0, rfl, rfl, Nat.zero_le _, Below.refl _ _⟩
  case round =>
    obtain ⟨k, rfl, rfl, hk, hB⟩ := hrel
    by_cases hlt : k < n
    · have hlt' : (k : Int) < (n : Int) := by omega
      have k0 : (0 : Int) ≤ (k : Int) := by omega
      have hkl : k < l.length := by rw [HN.out]; exact hlt
      obtain ⟨b, off, rfl, hc⟩ := hv (by omega)
      obtain ⟨c0, c1, c2, c3⟩ := ((hc k (by omega)).later hB)
      have hg := (hc k (by omega)).lt
      have sB := hB.size
      have hg' : b < wr.heap.size := by omega
      have hr := hall.out l[k] (List.getElem_mem _)
      have HS : Hid (zf l (k + 1) = (zf l k || (l[k].k == 0))) := zf_step l k hkl
      obtain ⟨⟨vk, vn, vm, vb⟩, he⟩ : ∃ v : Va, v = l[k] := ⟨_, rfl⟩
      rw [← he] at c0 c1 c2 c3 hr HS
      have R : ∀ W, Calls Tryz.prog 46 #[va vk vn vm ⟨vb.toArray⟩] W fun e w' => e = .returned (.bool true) ∧ Below W.heap.size W w' := fun W => by
        have := rright_any vk vn vm ⟨vb.toArray⟩ W
        rwa [show vrt vk vn vm ⟨vb.toArray⟩ = true from hr] at this
      clear hc he hr hall hv bxr
      cases hz : zf l k
      · go_wp2_with (first
          | (go_at_call 46; refine (R _).mono ?_; rintro e wc ⟨rfl, bc⟩; obtain ⟨osc, dc, rfl⟩ := wide bc; clear bc)
          | (go_at_call 47; refine (NL _ _ _ _ _).mono ?_; rintro e wc ⟨rfl, os1, n1, rfl⟩))
        go_roundw
        case rel => exact ⟨k + 1, by rw [HS.out, hz]; rfl, by go_num, by omega, below_trans hB (Grown.below (by repeat (first | assumption | exact Grown.refl _ | apply Grown.drew | apply Grown.drewN | apply Grown.alloc | apply Grown.more | apply Grown.drawTo)))⟩
        case measure => simp [intOf]; omega
      · go_wp2_with (first
          | (go_at_call 46; refine (R _).mono ?_; rintro e wc ⟨rfl, bc⟩; obtain ⟨osc, dc, rfl⟩ := wide bc; clear bc)
          | (go_at_call 47; refine (NL _ _ _ _ _).mono ?_; rintro e wc ⟨rfl, os1, n1, rfl⟩))
        go_roundw
        case rel => exact ⟨k + 1, by rw [HS.out, hz]; rfl, by go_num, by omega, below_trans hB (Grown.below (by repeat (first | assumption | exact Grown.refl _ | apply Grown.drew | apply Grown.drewN | apply Grown.alloc | apply Grown.more | apply Grown.drawTo)))⟩
        case measure => simp [intOf]; omega
    · obtain rfl : k = n := by omega
      have br := bxr.later hB
      obtain ⟨r0, r1, r2, r3⟩ := br.at4
      dsimp only [nul] at r0 r1 r2 r3
      simp only [Nat.zero_add] at r1 r2 r3
      have f0 := br.free 0
      have f1 := br.free 1
      have f2 := br.free 2
      have f3 := br.free 3
      have lt1 := br.lt
      have lt2 : w.heap.size < wr.heap.size + 1 := by omega
      have lt3 : w.heap.size < wr.heap.size + 1 + 1 := by omega
      have Be := below_trans Bw hB
      replace hv := hv.later hB
      clear br bxr
      subst h1
      have hao' := hao.out
      subst hao'
      obtain ⟨c0, c1, c2, c3⟩ := (h4.later Be)
      have hg := (h4.later Be).lt
      have hg2 : bl < wr.heap.size + 1 := by omega
      have hg3 : bl < wr.heap.size + 1 + 1 := by omega
      dsimp only at c0 c1 c2 c3
      clear h4 hv hao
      go_wp2
      refine bodyPost_ret_by (v := .tuple #[va 0 0 0 ⟨#[]⟩, .int .i64 31]) ?_ rfl ⟨rfl, ?_⟩
      · simp [results, Tryz.results23, go_sem, r0, r1, r2, r3, lt1]
      · refine below_trans (Be.setCell (p := ⟨w.heap.size, 0, none⟩) (Nat.le_refl _) (.int .i64 0) |>.setCell (p := ⟨w.heap.size, 1, none⟩) (Nat.le_refl _) (.int .i64 0) |>.setCell (p := ⟨w.heap.size, 2, none⟩) (Nat.le_refl _) (.int .i64 0) |>.setCell (p := ⟨w.heap.size, 3, none⟩) (Nat.le_refl _) (.string ⟨#[]⟩)) (Grown.below ?_)
        repeat (first | assumption | exact Grown.refl _ | apply Grown.drew | apply Grown.drewN | apply Grown.alloc | apply Grown.more | apply Grown.drawTo)


set_option maxRecDepth 100000 in
set_option maxHeartbeats 4000000 in
theorem rfun_point_over (lo hi : Int) (ok : Bool) (ao : Option Addr) (l : List Va) (n cap : Nat) (w : World) (HN : Hid (l.length = n)) (hl : n ≤ 140737488351232) (hv : Vs w ao l) (hall : Hid (∀ x ∈ l, vr x = true))
    (KN : ∀ W, Calls Tryz.prog 81 #[.string ⟨#[112, 111, 105, 110, 116]⟩] W fun e w' => e = .returned (.tuple #[.int .i64 lo, .int .i64 hi, .bool ok]) ∧ W = w') (h1 : ok = true) (h2 : ¬ (n : Int) < lo) (h3 : ¬ (n : Int) > hi) (bl off : Nat) (an am : Int) (ab : List UInt8) (bn bm : Int) (bb : List UInt8) (hao : Hid (ao = some ⟨bl, off, none⟩)) (h4 : At4 w bl off ⟨1, an, am, ab⟩) (g4 : At4 w bl (off + 4) ⟨1, bn, bm, bb⟩) (hz : zf l n = false) (hn0 : (0 : Int) < (n : Int)) (hn1 : (1 : Int) < (n : Int))  (D : ∀ W, Calls Tryz.prog 83 #[dv an bn] W fun e w' => e = .returned (.bool false) ∧ Grew W w') :
    Calls Tryz.prog 23 #[.string ⟨#[112, 111, 105, 110, 116]⟩, .slice ao n cap] w fun e w' => e = .returned (.tuple #[va 0 0 0 ⟨#[]⟩, .int .i64 32]) ∧ Below w.heap.size w w' := by
  obtain ⟨w0, hw0, bxr, Bw⟩ := res_box w
  go_enter Tryz.func23, Tryz.ntmps23
  go_upto_region 1 with fail
  rw [← hw0]
  clear hw0
  replace hv := hv.later Bw
  have NL := fun k n m b W => rnull7_any k n m b W
  go_wp2_with (go_at_call 81; refine (KN _).mono ?_; rintro e wc ⟨rfl, rfl⟩)
  clear KN
  go_loopw [9, 10] (fun s r wr => ∃ k : Nat, s = .bool (zf l k) ∧ r = .int .i64 (k : Int) ∧ k ≤ n ∧ Below w0.heap.size w0 wr) (fun _ r _ => n - (intOf r).toNat)
  case atStart => exact ⟨0, rfl, rfl, Nat.zero_le _, Below.refl _ _⟩
  case round =>
    obtain ⟨k, rfl, rfl, hk, hB⟩ := hrel
    by_cases hlt : k < n
    · have hlt' : (k : Int) < (n : Int) := by omega
      have k0 : (0 : Int) ≤ (k : Int) := by omega
      have hkl : k < l.length := by rw [HN.out]; exact hlt
      obtain ⟨b, off, rfl, hc⟩ := hv (by omega)
      obtain ⟨c0, c1, c2, c3⟩ := ((hc k (by omega)).later hB)
      have hg := (hc k (by omega)).lt
      have sB := hB.size
      have hg' : b < wr.heap.size := by omega
      have hr := hall.out l[k] (List.getElem_mem _)
      have HS : Hid (zf l (k + 1) = (zf l k || (l[k].k == 0))) := zf_step l k hkl
      obtain ⟨⟨vk, vn, vm, vb⟩, he⟩ : ∃ v : Va, v = l[k] := ⟨_, rfl⟩
      rw [← he] at c0 c1 c2 c3 hr HS
      have R : ∀ W, Calls Tryz.prog 46 #[va vk vn vm ⟨vb.toArray⟩] W fun e w' => e = .returned (.bool true) ∧ Below W.heap.size W w' := fun W => by
        have := rright_any vk vn vm ⟨vb.toArray⟩ W
        rwa [show vrt vk vn vm ⟨vb.toArray⟩ = true from hr] at this
      clear hc he hr hall hv bxr
      cases hz : zf l k
      · go_wp2_with (first
          | (go_at_call 46; refine (R _).mono ?_; rintro e wc ⟨rfl, bc⟩; obtain ⟨osc, dc, rfl⟩ := wide bc; clear bc)
          | (go_at_call 47; refine (NL _ _ _ _ _).mono ?_; rintro e wc ⟨rfl, os1, n1, rfl⟩))
        go_roundw
        case rel => exact ⟨k + 1, by rw [HS.out, hz]; rfl, by go_num, by omega, below_trans hB (Grown.below (by repeat (first | assumption | exact Grown.refl _ | apply Grown.drew | apply Grown.drewN | apply Grown.alloc | apply Grown.more | apply Grown.drawTo)))⟩
        case measure => simp [intOf]; omega
      · go_wp2_with (first
          | (go_at_call 46; refine (R _).mono ?_; rintro e wc ⟨rfl, bc⟩; obtain ⟨osc, dc, rfl⟩ := wide bc; clear bc)
          | (go_at_call 47; refine (NL _ _ _ _ _).mono ?_; rintro e wc ⟨rfl, os1, n1, rfl⟩))
        go_roundw
        case rel => exact ⟨k + 1, by rw [HS.out, hz]; rfl, by go_num, by omega, below_trans hB (Grown.below (by repeat (first | assumption | exact Grown.refl _ | apply Grown.drew | apply Grown.drewN | apply Grown.alloc | apply Grown.more | apply Grown.drawTo)))⟩
        case measure => simp [intOf]; omega
    · obtain rfl : k = n := by omega
      have br := bxr.later hB
      obtain ⟨r0, r1, r2, r3⟩ := br.at4
      dsimp only [nul] at r0 r1 r2 r3
      simp only [Nat.zero_add] at r1 r2 r3
      have f0 := br.free 0
      have f1 := br.free 1
      have f2 := br.free 2
      have f3 := br.free 3
      have lt1 := br.lt
      have lt2 : w.heap.size < wr.heap.size + 1 := by omega
      have lt3 : w.heap.size < wr.heap.size + 1 + 1 := by omega
      have Be := below_trans Bw hB
      replace hv := hv.later hB
      clear br bxr
      subst h1
      have hao' := hao.out
      subst hao'
      obtain ⟨c0, c1, c2, c3⟩ := (h4.later Be)
      have hg := (h4.later Be).lt
      have hg2 : bl < wr.heap.size + 1 := by omega
      have hg3 : bl < wr.heap.size + 1 + 1 := by omega
      dsimp only at c0 c1 c2 c3
      obtain ⟨d0, d1, d2, d3⟩ := (g4.later Be)
      dsimp only at d0 d1 d2 d3
      have d1' : wr.cell? ⟨bl, off + 5, none⟩ = some (.int .i64 bn) := d1
      clear g4
      clear h4 hv hao
      go_wp2_with (first
        | (go_at_call 83; refine (D _).mono ?_; rintro e wc ⟨rfl, os4, n4, rfl⟩))
      go_region_held2 (fun W => W.cell? ⟨wr.heap.size, 1, none⟩ = some (.int .i64 an) ∧ W.cell? ⟨bl, off + 5, none⟩ = some (.int .i64 bn)) (simp (maxDischargeDepth := 12) [go_sem, d1', hg]) (fail)
      all_goals go_wp2_with (first
        | (go_at_call 83; refine (D _).mono ?_; rintro e wc ⟨rfl, os4, n4, rfl⟩)
        | (go_at_call 55; refine (rofPoint_any _ _ _ _).mono ?_; rintro e wc ⟨rfl, os5, n5, rfl⟩))
      all_goals refine bodyPost_ret_by (v := .tuple #[va 0 0 0 ⟨#[]⟩, .int .i64 32]) ?_ rfl ⟨rfl, ?_⟩
      · simp [results, Tryz.results23, go_sem, r0, r1, r2, r3, lt1, lt3]
      · refine below_trans (Be.setCell (p := ⟨w.heap.size, 0, none⟩) (Nat.le_refl _) (.int .i64 0) |>.setCell (p := ⟨w.heap.size, 1, none⟩) (Nat.le_refl _) (.int .i64 0) |>.setCell (p := ⟨w.heap.size, 2, none⟩) (Nat.le_refl _) (.int .i64 0) |>.setCell (p := ⟨w.heap.size, 3, none⟩) (Nat.le_refl _) (.string ⟨#[]⟩)) (Grown.below ?_)
        repeat (first | assumption | exact Grown.refl _ | apply Grown.drew | apply Grown.drewN | apply Grown.alloc | apply Grown.more | apply Grown.drawTo)


set_option maxRecDepth 100000 in
set_option maxHeartbeats 4000000 in
theorem rfun_round_noB1 (lo hi : Int) (ok : Bool) (ao : Option Addr) (l : List Va) (n cap : Nat) (w : World) (HN : Hid (l.length = n)) (hl : n ≤ 140737488351232) (hv : Vs w ao l) (hall : Hid (∀ x ∈ l, vr x = true))
    (KN : ∀ W, Calls Tryz.prog 81 #[.string ⟨#[114, 111, 117, 110, 100]⟩] W fun e w' => e = .returned (.tuple #[.int .i64 lo, .int .i64 hi, .bool ok]) ∧ W = w') (h1 : ok = true) (h2 : ¬ (n : Int) < lo) (h3 : ¬ (n : Int) > hi) (bk : Int) (bl off : Nat) (an am : Int) (ab : List UInt8) (bn bm : Int) (bb : List UInt8) (hao : Hid (ao = some ⟨bl, off, none⟩)) (h4 : At4 w bl off ⟨1, an, am, ab⟩) (g4 : At4 w bl (off + 4) ⟨bk, bn, bm, bb⟩) (hz : zf l n = false) (hn0 : (0 : Int) < (n : Int)) (hn1 : (1 : Int) < (n : Int)) (xb1 : (bk == 1) = false)  :
    Calls Tryz.prog 23 #[.string ⟨#[114, 111, 117, 110, 100]⟩, .slice ao n cap] w fun e w' => e = .returned (.tuple #[va 0 0 0 ⟨#[]⟩, .int .i64 31]) ∧ Below w.heap.size w w' := by
  obtain ⟨w0, hw0, bxr, Bw⟩ := res_box w
  go_enter Tryz.func23, Tryz.ntmps23
  go_upto_region 1 with fail
  rw [← hw0]
  clear hw0
  replace hv := hv.later Bw
  have NL := fun k n m b W => rnull7_any k n m b W
  go_wp2_with (go_at_call 81; refine (KN _).mono ?_; rintro e wc ⟨rfl, rfl⟩)
  clear KN
  go_loopw [9, 10] (fun s r wr => ∃ k : Nat, s = .bool (zf l k) ∧ r = .int .i64 (k : Int) ∧ k ≤ n ∧ Below w0.heap.size w0 wr) (fun _ r _ => n - (intOf r).toNat)
  case atStart => exact ⟨0, rfl, rfl, Nat.zero_le _, Below.refl _ _⟩
  case round =>
    obtain ⟨k, rfl, rfl, hk, hB⟩ := hrel
    by_cases hlt : k < n
    · have hlt' : (k : Int) < (n : Int) := by omega
      have k0 : (0 : Int) ≤ (k : Int) := by omega
      have hkl : k < l.length := by rw [HN.out]; exact hlt
      obtain ⟨b, off, rfl, hc⟩ := hv (by omega)
      obtain ⟨c0, c1, c2, c3⟩ := ((hc k (by omega)).later hB)
      have hg := (hc k (by omega)).lt
      have sB := hB.size
      have hg' : b < wr.heap.size := by omega
      have hr := hall.out l[k] (List.getElem_mem _)
      have HS : Hid (zf l (k + 1) = (zf l k || (l[k].k == 0))) := zf_step l k hkl
      obtain ⟨⟨vk, vn, vm, vb⟩, he⟩ : ∃ v : Va, v = l[k] := ⟨_, rfl⟩
      rw [← he] at c0 c1 c2 c3 hr HS
      have R : ∀ W, Calls Tryz.prog 46 #[va vk vn vm ⟨vb.toArray⟩] W fun e w' => e = .returned (.bool true) ∧ Below W.heap.size W w' := fun W => by
        have := rright_any vk vn vm ⟨vb.toArray⟩ W
        rwa [show vrt vk vn vm ⟨vb.toArray⟩ = true from hr] at this
      clear hc he hr hall hv bxr
      cases hz : zf l k
      · go_wp2_with (first
          | (go_at_call 46; refine (R _).mono ?_; rintro e wc ⟨rfl, bc⟩; obtain ⟨osc, dc, rfl⟩ := wide bc; clear bc)
          | (go_at_call 47; refine (NL _ _ _ _ _).mono ?_; rintro e wc ⟨rfl, os1, n1, rfl⟩))
        go_roundw
        case rel => exact ⟨k + 1, by rw [HS.out, hz]; rfl, by go_num, by omega, below_trans hB (Grown.below (by repeat (first | assumption | exact Grown.refl _ | apply Grown.drew | apply Grown.drewN | apply Grown.alloc | apply Grown.more | apply Grown.drawTo)))⟩
        case measure => simp [intOf]; omega
      · go_wp2_with (first
          | (go_at_call 46; refine (R _).mono ?_; rintro e wc ⟨rfl, bc⟩; obtain ⟨osc, dc, rfl⟩ := wide bc; clear bc)
          | (go_at_call 47; refine (NL _ _ _ _ _).mono ?_; rintro e wc ⟨rfl, os1, n1, rfl⟩))
        go_roundw
        case rel => exact ⟨k + 1, by rw [HS.out, hz]; rfl, by go_num, by omega, below_trans hB (Grown.below (by repeat (first | assumption | exact Grown.refl _ | apply Grown.drew | apply Grown.drewN | apply Grown.alloc | apply Grown.more | apply Grown.drawTo)))⟩
        case measure => simp [intOf]; omega
    · obtain rfl : k = n := by omega
      have br := bxr.later hB
      obtain ⟨r0, r1, r2, r3⟩ := br.at4
      dsimp only [nul] at r0 r1 r2 r3
      simp only [Nat.zero_add] at r1 r2 r3
      have f0 := br.free 0
      have f1 := br.free 1
      have f2 := br.free 2
      have f3 := br.free 3
      have lt1 := br.lt
      have lt2 : w.heap.size < wr.heap.size + 1 := by omega
      have lt3 : w.heap.size < wr.heap.size + 1 + 1 := by omega
      have Be := below_trans Bw hB
      replace hv := hv.later hB
      clear br bxr
      subst h1
      have hao' := hao.out
      subst hao'
      obtain ⟨c0, c1, c2, c3⟩ := (h4.later Be)
      have hg := (h4.later Be).lt
      have hg2 : bl < wr.heap.size + 1 := by omega
      have hg3 : bl < wr.heap.size + 1 + 1 := by omega
      dsimp only at c0 c1 c2 c3
      obtain ⟨d0, d1, d2, d3⟩ := (g4.later Be)
      dsimp only at d0 d1 d2 d3
      have d1' : wr.cell? ⟨bl, off + 5, none⟩ = some (.int .i64 bn) := d1
      clear g4
      clear h4 hv hao
      go_wp2_with (first
        | (go_at_call 70; refine (rnumber7_any _ _ _ _ _).mono ?_; rintro e wc ⟨rfl, os3, n3, rfl⟩))
      refine bodyPost_ret_by (v := .tuple #[va 0 0 0 ⟨#[]⟩, .int .i64 31]) ?_ rfl ⟨rfl, ?_⟩
      · simp [results, Tryz.results23, go_sem, r0, r1, r2, r3, lt1]
      · refine below_trans (Be.setCell (p := ⟨w.heap.size, 0, none⟩) (Nat.le_refl _) (.int .i64 0) |>.setCell (p := ⟨w.heap.size, 1, none⟩) (Nat.le_refl _) (.int .i64 0) |>.setCell (p := ⟨w.heap.size, 2, none⟩) (Nat.le_refl _) (.int .i64 0) |>.setCell (p := ⟨w.heap.size, 3, none⟩) (Nat.le_refl _) (.string ⟨#[]⟩)) (Grown.below ?_)
        repeat (first | assumption | exact Grown.refl _ | apply Grown.drew | apply Grown.drewN | apply Grown.alloc | apply Grown.more | apply Grown.drawTo)


set_option maxRecDepth 100000 in
set_option maxHeartbeats 4000000 in
theorem rfun_bad (B : ByteArray) (lo hi : Int) (ok : Bool) (ao : Option Addr) (l : List Va) (n cap : Nat) (w : World) (HN : Hid (l.length = n)) (hl : n ≤ 140737488351232) (hv : Vs w ao l)
    (KN : ∀ W, Calls Tryz.prog 81 #[.string B] W fun e w' => e = .returned (.tuple #[.int .i64 lo, .int .i64 hi, .bool ok]) ∧ W = w') (hbad : Hid (l.all vr = false))  :
    Calls Tryz.prog 23 #[.string B, .slice ao n cap] w fun e w' => e = .returned (.tuple #[va 0 0 0 ⟨#[]⟩, .int .i64 1]) ∧ Below w.heap.size w w' := by
  obtain ⟨w0, hw0, bxr, Bw⟩ := res_box w
  go_enter Tryz.func23, Tryz.ntmps23
  go_upto_region 1 with fail
  rw [← hw0]
  clear hw0
  replace hv := hv.later Bw
  have NL := fun k n m b W => rnull7_any k n m b W
  go_wp2_with (go_at_call 81; refine (KN _).mono ?_; rintro e wc ⟨rfl, rfl⟩)
  clear KN
  go_loopw [9, 10] (fun s r wr => ∃ k : Nat, s = .bool (zf l k) ∧ r = .int .i64 (k : Int) ∧ k ≤ n ∧ Below w0.heap.size w0 wr ∧ Hid (∀ i (h : i < l.length), i < k → vr l[i] = true)) (fun _ r _ => n - (intOf r).toNat)
  case atStart => exact ⟨0, rfl, rfl, Nat.zero_le _, Below.refl _ _, fun i _ h => by omega⟩
  case round =>
    obtain ⟨k, rfl, rfl, hk, hB, hA⟩ := hrel
    by_cases hlt : k < n
    · have hlt' : (k : Int) < (n : Int) := by omega
      have k0 : (0 : Int) ≤ (k : Int) := by omega
      have hkl : k < l.length := by rw [HN.out]; exact hlt
      obtain ⟨b, off, rfl, hc⟩ := hv (by omega)
      obtain ⟨c0, c1, c2, c3⟩ := ((hc k (by omega)).later hB)
      have hg := (hc k (by omega)).lt
      have sB := hB.size
      have hg' : b < wr.heap.size := by omega
      have HS : Hid (zf l (k + 1) = (zf l k || (l[k].k == 0))) := zf_step l k hkl
      obtain ⟨⟨vk, vn, vm, vb⟩, he⟩ : ∃ v : Va, v = l[k] := ⟨_, rfl⟩
      rw [← he] at c0 c1 c2 c3 HS
      have HV : Hid (Va.mk vk vn vm vb = l[k]) := he
      have R : ∀ W, Calls Tryz.prog 46 #[va vk vn vm ⟨vb.toArray⟩] W fun e w' => e = .returned (.bool (vr ⟨vk, vn, vm, vb⟩)) ∧ Below W.heap.size W w' := fun W => rright_any vk vn vm ⟨vb.toArray⟩ W
      have br := bxr.later hB
      obtain ⟨r0, r1, r2, r3⟩ := br.at4
      dsimp only [nul] at r0 r1 r2 r3
      simp only [Nat.zero_add] at r1 r2 r3
      have f0 := br.free 0
      have f1 := br.free 1
      have f2 := br.free 2
      have f3 := br.free 3
      have lt1 := br.lt
      have Be := below_trans Bw hB
      clear br
      cases hvr : vr ⟨vk, vn, vm, vb⟩
      · rw [hvr] at R
        clear hc he hv bxr hA HV HS
        go_wp2_with (go_at_call 46; refine (R _).mono ?_; rintro e wc ⟨rfl, bc⟩; obtain ⟨osc, dc, rfl⟩ := wide bc; clear bc)
        refine bodyPost_ret_by (v := .tuple #[va 0 0 0 ⟨#[]⟩, .int .i64 1]) ?_ rfl ⟨rfl, ?_⟩
        · simp [results, Tryz.results23, go_sem, r0, r1, r2, r3, lt1]
        · refine below_trans (Be.setCell (p := ⟨w.heap.size, 0, none⟩) (Nat.le_refl _) (.int .i64 0) |>.setCell (p := ⟨w.heap.size, 1, none⟩) (Nat.le_refl _) (.int .i64 0) |>.setCell (p := ⟨w.heap.size, 2, none⟩) (Nat.le_refl _) (.int .i64 0) |>.setCell (p := ⟨w.heap.size, 3, none⟩) (Nat.le_refl _) (.string ⟨#[]⟩)) (Grown.below ?_)
          repeat (first | assumption | exact Grown.refl _ | apply Grown.drew | apply Grown.drewN | apply Grown.alloc | apply Grown.more | apply Grown.drawTo)
      rw [hvr] at R
      have HA : Hid (∀ i (h : i < l.length), i < k + 1 → vr l[i] = true) := fun i hi hik => by
        by_cases h : i < k
        · exact hA.out i hi h
        · have : i = k := by omega
          subst this
          rw [← HV.out, hvr]
      clear hc he hv bxr hA HV r0 r1 r2 r3 f0 f1 f2 f3 lt1 Be
      cases hz : zf l k
      · go_wp2_with (first
          | (go_at_call 46; refine (R _).mono ?_; rintro e wc ⟨rfl, bc⟩; obtain ⟨osc, dc, rfl⟩ := wide bc; clear bc)
          | (go_at_call 47; refine (NL _ _ _ _ _).mono ?_; rintro e wc ⟨rfl, os1, n1, rfl⟩))
        go_roundw
        case rel => exact ⟨k + 1, by rw [HS.out, hz]; rfl, by go_num, by omega, below_trans hB (Grown.below (by repeat (first | assumption | exact Grown.refl _ | apply Grown.drew | apply Grown.drewN | apply Grown.alloc | apply Grown.more | apply Grown.drawTo))), HA.out⟩
        case measure => simp [intOf]; omega
      · go_wp2_with (first
          | (go_at_call 46; refine (R _).mono ?_; rintro e wc ⟨rfl, bc⟩; obtain ⟨osc, dc, rfl⟩ := wide bc; clear bc)
          | (go_at_call 47; refine (NL _ _ _ _ _).mono ?_; rintro e wc ⟨rfl, os1, n1, rfl⟩))
        go_roundw
        case rel => exact ⟨k + 1, by rw [HS.out, hz]; rfl, by go_num, by omega, below_trans hB (Grown.below (by repeat (first | assumption | exact Grown.refl _ | apply Grown.drew | apply Grown.drewN | apply Grown.alloc | apply Grown.more | apply Grown.drawTo))), HA.out⟩
        case measure => simp [intOf]; omega
    · exfalso
      have hall : l.all vr = true := by
        rw [List.all_eq_true]
        intro v hv'
        obtain ⟨i, hi, rfl⟩ := List.getElem_of_mem hv'
        exact hA.out i hi (by have := HN.out; omega)
      rw [hbad.out] at hall
      cases hall
end Go.Proofs.YtgapmofhnjfdiaaGreatDoor

namespace Go.Proofs.YtgapmofhnjfdiaaGreatDoor
open Go.RowKit Go.Shelf
attribute [local go_sem] cell?_more frozen?_more setCell_more more_lt more_more more_drew more_drewN setCell_drewN alloc_drewN cell?_drawTo frozen?_drawTo heap_drawTo setCell_drawTo alloc_drawTo drewN_drawTo drew_drawTo drawTo_drewN drawTo_drew drawTo_drawTo more_drawTo

set_option maxRecDepth 100000 in
set_option maxHeartbeats 4000000 in
theorem rfun_name2 (B : ByteArray) (lo hi : Int) (ok : Bool) (ao : Option Addr) (l : List Va) (n cap : Nat) (w : World) (HN : Hid (l.length = n)) (hl : n ≤ 140737488351232) (hv : Vs w ao l) (hall : Hid (∀ x ∈ l, vr x = true))
    (KN : ∀ W, Calls Tryz.prog 81 #[.string B] W fun e w' => e = .returned (.tuple #[.int .i64 lo, .int .i64 hi, .bool ok]) ∧ W = w') (h1 : ok = true) (h2 : (n : Int) < lo)  :
    Calls Tryz.prog 23 #[.string B, .slice ao n cap] w fun e w' => e = .returned (.tuple #[va 0 0 0 ⟨#[]⟩, .int .i64 34]) ∧ Below w.heap.size w w' := by
  obtain ⟨w0, hw0, bxr, Bw⟩ := res_box w
  go_enter Tryz.func23, Tryz.ntmps23
  go_upto_region 1 with fail
  rw [← hw0]
  clear hw0
  replace hv := hv.later Bw
  have NL := fun k n m b W => rnull7_any k n m b W
  go_wp2_with (go_at_call 81; refine (KN _).mono ?_; rintro e wc ⟨rfl, rfl⟩)
  clear KN
  go_loopw [9, 10] (fun s r wr => ∃ k : Nat, s = .bool (zf l k) ∧ r = .int .i64 (k : Int) ∧ k ≤ n ∧ Below w0.heap.size w0 wr) (fun _ r _ => n - (intOf r).toNat)
  case atStart => exact ⟨0, rfl, rfl, Nat.zero_le _, Below.refl _ _⟩
  case round =>
    obtain ⟨k, rfl, rfl, hk, hB⟩ := hrel
    by_cases hlt : k < n
    · have hlt' : (k : Int) < (n : Int) := by omega
      have k0 : (0 : Int) ≤ (k : Int) := by omega
      have hkl : k < l.length := by rw [HN.out]; exact hlt
      obtain ⟨b, off, rfl, hc⟩ := hv (by omega)
      obtain ⟨c0, c1, c2, c3⟩ := ((hc k (by omega)).later hB)
      have hg := (hc k (by omega)).lt
      have sB := hB.size
      have hg' : b < wr.heap.size := by omega
      have hr := hall.out l[k] (List.getElem_mem _)
      have HS : Hid (zf l (k + 1) = (zf l k || (l[k].k == 0))) := zf_step l k hkl
      obtain ⟨⟨vk, vn, vm, vb⟩, he⟩ : ∃ v : Va, v = l[k] := ⟨_, rfl⟩
      rw [← he] at c0 c1 c2 c3 hr HS
      have R : ∀ W, Calls Tryz.prog 46 #[va vk vn vm ⟨vb.toArray⟩] W fun e w' => e = .returned (.bool true) ∧ Below W.heap.size W w' := fun W => by
        have := rright_any vk vn vm ⟨vb.toArray⟩ W
        rwa [show vrt vk vn vm ⟨vb.toArray⟩ = true from hr] at this
      clear hc he hr hall hv bxr
      cases hz : zf l k
      · go_wp2_with (first
          | (go_at_call 46; refine (R _).mono ?_; rintro e wc ⟨rfl, bc⟩; obtain ⟨osc, dc, rfl⟩ := wide bc; clear bc)
          | (go_at_call 47; refine (NL _ _ _ _ _).mono ?_; rintro e wc ⟨rfl, os1, n1, rfl⟩))
        go_roundw
        case rel => exact ⟨k + 1, by rw [HS.out, hz]; rfl, by go_num, by omega, below_trans hB (Grown.below (by repeat (first | assumption | exact Grown.refl _ | apply Grown.drew | apply Grown.drewN | apply Grown.alloc | apply Grown.more | apply Grown.drawTo)))⟩
        case measure => simp [intOf]; omega
      · go_wp2_with (first
          | (go_at_call 46; refine (R _).mono ?_; rintro e wc ⟨rfl, bc⟩; obtain ⟨osc, dc, rfl⟩ := wide bc; clear bc)
          | (go_at_call 47; refine (NL _ _ _ _ _).mono ?_; rintro e wc ⟨rfl, os1, n1, rfl⟩))
        go_roundw
        case rel => exact ⟨k + 1, by rw [HS.out, hz]; rfl, by go_num, by omega, below_trans hB (Grown.below (by repeat (first | assumption | exact Grown.refl _ | apply Grown.drew | apply Grown.drewN | apply Grown.alloc | apply Grown.more | apply Grown.drawTo)))⟩
        case measure => simp [intOf]; omega
    · obtain rfl : k = n := by omega
      have br := bxr.later hB
      obtain ⟨r0, r1, r2, r3⟩ := br.at4
      dsimp only [nul] at r0 r1 r2 r3
      simp only [Nat.zero_add] at r1 r2 r3
      have f0 := br.free 0
      have f1 := br.free 1
      have f2 := br.free 2
      have f3 := br.free 3
      have lt1 := br.lt
      have lt2 : w.heap.size < wr.heap.size + 1 := by omega
      have lt3 : w.heap.size < wr.heap.size + 1 + 1 := by omega
      have Be := below_trans Bw hB
      replace hv := hv.later hB
      clear br bxr
      subst h1
      go_wp2
      refine bodyPost_ret_by (v := .tuple #[va 0 0 0 ⟨#[]⟩, .int .i64 34]) ?_ rfl ⟨rfl, ?_⟩
      · simp [results, Tryz.results23, go_sem, r0, r1, r2, r3]
      · refine below_trans (Be.setCell (p := ⟨w.heap.size, 0, none⟩) (Nat.le_refl _) (.int .i64 0) |>.setCell (p := ⟨w.heap.size, 1, none⟩) (Nat.le_refl _) (.int .i64 0) |>.setCell (p := ⟨w.heap.size, 2, none⟩) (Nat.le_refl _) (.int .i64 0) |>.setCell (p := ⟨w.heap.size, 3, none⟩) (Nat.le_refl _) (.string ⟨#[]⟩)) (Grown.below ?_)
        repeat (first | assumption | exact Grown.refl _ | apply Grown.drew | apply Grown.drewN | apply Grown.alloc | apply Grown.more | apply Grown.drawTo)


set_option maxRecDepth 100000 in
set_option maxHeartbeats 4000000 in
theorem rfun_abs1p (lo hi : Int) (ok : Bool) (ao : Option Addr) (l : List Va) (n cap : Nat) (w : World) (HN : Hid (l.length = n)) (hl : n ≤ 140737488351232) (hv : Vs w ao l) (hall : Hid (∀ x ∈ l, vr x = true))
    (KN : ∀ W, Calls Tryz.prog 81 #[.string ⟨#[97, 98, 115]⟩] W fun e w' => e = .returned (.tuple #[.int .i64 lo, .int .i64 hi, .bool ok]) ∧ W = w') (h1 : ok = true) (h2 : ¬ (n : Int) < lo) (h3 : ¬ (n : Int) > hi) (bl off : Nat) (an am : Int) (ab : List UInt8) (hao : Hid (ao = some ⟨bl, off, none⟩)) (h4 : At4 w bl off ⟨1, an, am, ab⟩) (hz : zf l n = false) (hn0 : (0 : Int) < (n : Int)) (hneg : ¬ an < 0)  :
    Calls Tryz.prog 23 #[.string ⟨#[97, 98, 115]⟩, .slice ao n cap] w fun e w' => e = .returned (.tuple #[va 1 an am ⟨ab.toArray⟩, .int .i64 0]) ∧ Below w.heap.size w w' := by
  obtain ⟨w0, hw0, bxr, Bw⟩ := res_box w
  go_enter Tryz.func23, Tryz.ntmps23
  go_upto_region 1 with fail
  rw [← hw0]
  clear hw0
  replace hv := hv.later Bw
  have NL := fun k n m b W => rnull7_any k n m b W
  go_wp2_with (go_at_call 81; refine (KN _).mono ?_; rintro e wc ⟨rfl, rfl⟩)
  clear KN
  go_loopw [9, 10] (fun s r wr => ∃ k : Nat, s = .bool (zf l k) ∧ r = .int .i64 (k : Int) ∧ k ≤ n ∧ Below w0.heap.size w0 wr) (fun _ r _ => n - (intOf r).toNat)
  case atStart => exact ⟨0, rfl, rfl, Nat.zero_le _, Below.refl _ _⟩
  case round =>
    obtain ⟨k, rfl, rfl, hk, hB⟩ := hrel
    by_cases hlt : k < n
    · have hlt' : (k : Int) < (n : Int) := by omega
      have k0 : (0 : Int) ≤ (k : Int) := by omega
      have hkl : k < l.length := by rw [HN.out]; exact hlt
      obtain ⟨b, off, rfl, hc⟩ := hv (by omega)
      obtain ⟨c0, c1, c2, c3⟩ := ((hc k (by omega)).later hB)
      have hg := (hc k (by omega)).lt
      have sB := hB.size
      have hg' : b < wr.heap.size := by omega
      have hr := hall.out l[k] (List.getElem_mem _)
      have HS : Hid (zf l (k + 1) = (zf l k || (l[k].k == 0))) := zf_step l k hkl
      obtain ⟨⟨vk, vn, vm, vb⟩, he⟩ : ∃ v : Va, v = l[k] := ⟨_, rfl⟩
      rw [← he] at c0 c1 c2 c3 hr HS
      have R : ∀ W, Calls Tryz.prog 46 #[va vk vn vm ⟨vb.toArray⟩] W fun e w' => e = .returned (.bool true) ∧ Below W.heap.size W w' := fun W => by
        have := rright_any vk vn vm ⟨vb.toArray⟩ W
        rwa [show vrt vk vn vm ⟨vb.toArray⟩ = true from hr] at this
      clear hc he hr hall hv bxr
      cases hz : zf l k
      · go_wp2_with (first
          | (go_at_call 46; refine (R _).mono ?_; rintro e wc ⟨rfl, bc⟩; obtain ⟨osc, dc, rfl⟩ := wide bc; clear bc)
          | (go_at_call 47; refine (NL _ _ _ _ _).mono ?_; rintro e wc ⟨rfl, os1, n1, rfl⟩))
        go_roundw
        case rel => exact ⟨k + 1, by rw [HS.out, hz]; rfl, by go_num, by omega, below_trans hB (Grown.below (by repeat (first | assumption | exact Grown.refl _ | apply Grown.drew | apply Grown.drewN | apply Grown.alloc | apply Grown.more | apply Grown.drawTo)))⟩
        case measure => simp [intOf]; omega
      · go_wp2_with (first
          | (go_at_call 46; refine (R _).mono ?_; rintro e wc ⟨rfl, bc⟩; obtain ⟨osc, dc, rfl⟩ := wide bc; clear bc)
          | (go_at_call 47; refine (NL _ _ _ _ _).mono ?_; rintro e wc ⟨rfl, os1, n1, rfl⟩))
        go_roundw
        case rel => exact ⟨k + 1, by rw [HS.out, hz]; rfl, by go_num, by omega, below_trans hB (Grown.below (by repeat (first | assumption | exact Grown.refl _ | apply Grown.drew | apply Grown.drewN | apply Grown.alloc | apply Grown.more | apply Grown.drawTo)))⟩
        case measure => simp [intOf]; omega
    · obtain rfl : k = n := by omega
      have br := bxr.later hB
      obtain ⟨r0, r1, r2, r3⟩ := br.at4
      dsimp only [nul] at r0 r1 r2 r3
      simp only [Nat.zero_add] at r1 r2 r3
      have f0 := br.free 0
      have f1 := br.free 1
      have f2 := br.free 2
      have f3 := br.free 3
      have lt1 := br.lt
      have lt2 : w.heap.size < wr.heap.size + 1 := by omega
      have lt3 : w.heap.size < wr.heap.size + 1 + 1 := by omega
      have Be := below_trans Bw hB
      replace hv := hv.later hB
      clear br bxr
      subst h1
      have hao' := hao.out
      subst hao'
      obtain ⟨c0, c1, c2, c3⟩ := (h4.later Be)
      have hg := (h4.later Be).lt
      have hg2 : bl < wr.heap.size + 1 := by omega
      have hg3 : bl < wr.heap.size + 1 + 1 := by omega
      dsimp only at c0 c1 c2 c3
      clear h4 hv hao
      go_wp2_with (first
        | (go_at_call 70; refine (rnumber7_any _ _ _ _ _).mono ?_; rintro e wc ⟨rfl, os3, n3, rfl⟩))
      refine bodyPost_ret_by (v := .tuple #[va 1 an am ⟨ab.toArray⟩, .int .i64 0]) ?_ rfl ⟨rfl, ?_⟩
      · simp [results, Tryz.results23, go_sem, r0, r1, r2, r3, lt1]
      · refine below_trans (Be.setCell (p := ⟨w.heap.size, 0, none⟩) (Nat.le_refl _) (.int .i64 1) |>.setCell (p := ⟨w.heap.size, 1, none⟩) (Nat.le_refl _) (.int .i64 an) |>.setCell (p := ⟨w.heap.size, 2, none⟩) (Nat.le_refl _) (.int .i64 am) |>.setCell (p := ⟨w.heap.size, 3, none⟩) (Nat.le_refl _) (.string ⟨ab.toArray⟩)) (Grown.below ?_)
        repeat (first | assumption | exact Grown.refl _ | apply Grown.drew | apply Grown.drewN | apply Grown.alloc | apply Grown.more | apply Grown.drawTo)


set_option maxRecDepth 100000 in
set_option maxHeartbeats 4000000 in
theorem rfun_px (lo hi : Int) (ok : Bool) (ao : Option Addr) (l : List Va) (n cap : Nat) (w : World) (HN : Hid (l.length = n)) (hl : n ≤ 140737488351232) (hv : Vs w ao l) (hall : Hid (∀ x ∈ l, vr x = true))
    (KN : ∀ W, Calls Tryz.prog 81 #[.string ⟨#[112, 120]⟩] W fun e w' => e = .returned (.tuple #[.int .i64 lo, .int .i64 hi, .bool ok]) ∧ W = w') (h1 : ok = true) (h2 : ¬ (n : Int) < lo) (h3 : ¬ (n : Int) > hi) (bl off : Nat) (an am : Int) (ab : List UInt8) (hao : Hid (ao = some ⟨bl, off, none⟩)) (h4 : At4 w bl off ⟨5, an, am, ab⟩) (hz : zf l n = false) (hn0 : (0 : Int) < (n : Int))   :
    Calls Tryz.prog 23 #[.string ⟨#[112, 120]⟩, .slice ao n cap] w fun e w' => e = .returned (rs (wholeR an 0)) ∧ Below w.heap.size w w' := by
  obtain ⟨w0, hw0, bxr, Bw⟩ := res_box w
  go_enter Tryz.func23, Tryz.ntmps23
  go_upto_region 1 with fail
  rw [← hw0]
  clear hw0
  replace hv := hv.later Bw
  have NL := fun k n m b W => rnull7_any k n m b W
  go_wp2_with (go_at_call 81; refine (KN _).mono ?_; rintro e wc ⟨rfl, rfl⟩)
  clear KN
  go_loopw [9, 10] (fun s r wr => ∃ k : Nat, s = .bool (zf l k) ∧ r = .int .i64 (k : Int) ∧ k ≤ n ∧ Below w0.heap.size w0 wr) (fun _ r _ => n - (intOf r).toNat)
  case atStart => exact ⟨0, rfl, rfl, Nat.zero_le _, Below.refl _ _⟩
  case round =>
    obtain ⟨k, rfl, rfl, hk, hB⟩ := hrel
    by_cases hlt : k < n
    · have hlt' : (k : Int) < (n : Int) := by omega
      have k0 : (0 : Int) ≤ (k : Int) := by omega
      have hkl : k < l.length := by rw [HN.out]; exact hlt
      obtain ⟨b, off, rfl, hc⟩ := hv (by omega)
      obtain ⟨c0, c1, c2, c3⟩ := ((hc k (by omega)).later hB)
      have hg := (hc k (by omega)).lt
      have sB := hB.size
      have hg' : b < wr.heap.size := by omega
      have hr := hall.out l[k] (List.getElem_mem _)
      have HS : Hid (zf l (k + 1) = (zf l k || (l[k].k == 0))) := zf_step l k hkl
      obtain ⟨⟨vk, vn, vm, vb⟩, he⟩ : ∃ v : Va, v = l[k] := ⟨_, rfl⟩
      rw [← he] at c0 c1 c2 c3 hr HS
      have R : ∀ W, Calls Tryz.prog 46 #[va vk vn vm ⟨vb.toArray⟩] W fun e w' => e = .returned (.bool true) ∧ Below W.heap.size W w' := fun W => by
        have := rright_any vk vn vm ⟨vb.toArray⟩ W
        rwa [show vrt vk vn vm ⟨vb.toArray⟩ = true from hr] at this
      clear hc he hr hall hv bxr
      cases hz : zf l k
      · go_wp2_with (first
          | (go_at_call 46; refine (R _).mono ?_; rintro e wc ⟨rfl, bc⟩; obtain ⟨osc, dc, rfl⟩ := wide bc; clear bc)
          | (go_at_call 47; refine (NL _ _ _ _ _).mono ?_; rintro e wc ⟨rfl, os1, n1, rfl⟩))
        go_roundw
        case rel => exact ⟨k + 1, by rw [HS.out, hz]; rfl, by go_num, by omega, below_trans hB (Grown.below (by repeat (first | assumption | exact Grown.refl _ | apply Grown.drew | apply Grown.drewN | apply Grown.alloc | apply Grown.more | apply Grown.drawTo)))⟩
        case measure => simp [intOf]; omega
      · go_wp2_with (first
          | (go_at_call 46; refine (R _).mono ?_; rintro e wc ⟨rfl, bc⟩; obtain ⟨osc, dc, rfl⟩ := wide bc; clear bc)
          | (go_at_call 47; refine (NL _ _ _ _ _).mono ?_; rintro e wc ⟨rfl, os1, n1, rfl⟩))
        go_roundw
        case rel => exact ⟨k + 1, by rw [HS.out, hz]; rfl, by go_num, by omega, below_trans hB (Grown.below (by repeat (first | assumption | exact Grown.refl _ | apply Grown.drew | apply Grown.drewN | apply Grown.alloc | apply Grown.more | apply Grown.drawTo)))⟩
        case measure => simp [intOf]; omega
    · obtain rfl : k = n := by omega
      have br := bxr.later hB
      obtain ⟨r0, r1, r2, r3⟩ := br.at4
      dsimp only [nul] at r0 r1 r2 r3
      simp only [Nat.zero_add] at r1 r2 r3
      have f0 := br.free 0
      have f1 := br.free 1
      have f2 := br.free 2
      have f3 := br.free 3
      have lt1 := br.lt
      have lt2 : w.heap.size < wr.heap.size + 1 := by omega
      have lt3 : w.heap.size < wr.heap.size + 1 + 1 := by omega
      have Be := below_trans Bw hB
      replace hv := hv.later hB
      clear br bxr
      subst h1
      have hao' := hao.out
      subst hao'
      obtain ⟨c0, c1, c2, c3⟩ := (h4.later Be)
      have hg := (h4.later Be).lt
      have hg2 : bl < wr.heap.size + 1 := by omega
      have hg3 : bl < wr.heap.size + 1 + 1 := by omega
      dsimp only at c0 c1 c2 c3
      clear h4 hv hao
      go_wp2_with (first
        | (go_at_call 53; refine (rofInt_any _ _ _).mono ?_; rintro e wc ⟨rfl, os2, n2, rfl⟩))
      refine bodyPost_ret_by (v := rs (wholeR an 0)) ?_ rfl ⟨rfl, ?_⟩
      · simp [results, Tryz.results23, go_sem, r0, r1, r2, r3, lt1]
      · refine below_trans (Be.setCell (p := ⟨w.heap.size, 0, none⟩) (Nat.le_refl _) (.int .i64 (wholeR an 0).1.k) |>.setCell (p := ⟨w.heap.size, 1, none⟩) (Nat.le_refl _) (.int .i64 (wholeR an 0).1.n) |>.setCell (p := ⟨w.heap.size, 2, none⟩) (Nat.le_refl _) (.int .i64 (wholeR an 0).1.m) |>.setCell (p := ⟨w.heap.size, 3, none⟩) (Nat.le_refl _) (.string ⟨(wholeR an 0).1.b.toArray⟩)) (Grown.below ?_)
        repeat (first | assumption | exact Grown.refl _ | apply Grown.drew | apply Grown.drewN | apply Grown.alloc | apply Grown.more | apply Grown.drawTo)


set_option maxRecDepth 100000 in
set_option maxHeartbeats 4000000 in
theorem rfun_point_noA (lo hi : Int) (ok : Bool) (ao : Option Addr) (l : List Va) (n cap : Nat) (w : World) (HN : Hid (l.length = n)) (hl : n ≤ 140737488351232) (hv : Vs w ao l) (hall : Hid (∀ x ∈ l, vr x = true))
    (KN : ∀ W, Calls Tryz.prog 81 #[.string ⟨#[112, 111, 105, 110, 116]⟩] W fun e w' => e = .returned (.tuple #[.int .i64 lo, .int .i64 hi, .bool ok]) ∧ W = w') (h1 : ok = true) (h2 : ¬ (n : Int) < lo) (h3 : ¬ (n : Int) > hi) (ak : Int) (bk : Int) (bl off : Nat) (an am : Int) (ab : List UInt8) (bn bm : Int) (bb : List UInt8) (hao : Hid (ao = some ⟨bl, off, none⟩)) (h4 : At4 w bl off ⟨ak, an, am, ab⟩) (g4 : At4 w bl (off + 4) ⟨bk, bn, bm, bb⟩) (hz : zf l n = false) (hn0 : (0 : Int) < (n : Int)) (hn1 : (1 : Int) < (n : Int)) (xa1 : (ak == 1) = false)  :
    Calls Tryz.prog 23 #[.string ⟨#[112, 111, 105, 110, 116]⟩, .slice ao n cap] w fun e w' => e = .returned (.tuple #[va 0 0 0 ⟨#[]⟩, .int .i64 31]) ∧ Below w.heap.size w w' := by
  obtain ⟨w0, hw0, bxr, Bw⟩ := res_box w
  go_enter Tryz.func23, Tryz.ntmps23
  go_upto_region 1 with fail
  rw [← hw0]
  clear hw0
  replace hv := hv.later Bw
  have NL := fun k n m b W => rnull7_any k n m b W
  go_wp2_with (go_at_call 81; refine (KN _).mono ?_; rintro e wc ⟨rfl, rfl⟩)
  clear KN
  go_loopw [9, 10] (fun s r wr => ∃ k : Nat, s = .bool (zf l k) ∧ r = .int .i64 (k : Int) ∧ k ≤ n ∧ Below w0.heap.size w0 wr) (fun _ r _ => n - (intOf r).toNat)
  case atStart => exact ⟨0, rfl, rfl, Nat.zero_le _, Below.refl _ _⟩
  case round =>
    obtain ⟨k, rfl, rfl, hk, hB⟩ := hrel
    by_cases hlt : k < n
    · have hlt' : (k : Int) < (n : Int) := by omega
      have k0 : (0 : Int) ≤ (k : Int) := by omega
      have hkl : k < l.length := by rw [HN.out]; exact hlt
      obtain ⟨b, off, rfl, hc⟩ := hv (by omega)
      obtain ⟨c0, c1, c2, c3⟩ := ((hc k (by omega)).later hB)
      have hg := (hc k (by omega)).lt
      have sB := hB.size
      have hg' : b < wr.heap.size := by omega
      have hr := hall.out l[k] (List.getElem_mem _)
      have HS : Hid (zf l (k + 1) = (zf l k || (l[k].k == 0))) := zf_step l k hkl
      obtain ⟨⟨vk, vn, vm, vb⟩, he⟩ : ∃ v : Va, v = l[k] := ⟨_, rfl⟩
      rw [← he] at c0 c1 c2 c3 hr HS
      have R : ∀ W, Calls Tryz.prog 46 #[va vk vn vm ⟨vb.toArray⟩] W fun e w' => e = .returned (.bool true) ∧ Below W.heap.size W w' := fun W => by
        have := rright_any vk vn vm ⟨vb.toArray⟩ W
        rwa [show vrt vk vn vm ⟨vb.toArray⟩ = true from hr] at this
      clear hc he hr hall hv bxr
      cases hz : zf l k
      · go_wp2_with (first
          | (go_at_call 46; refine (R _).mono ?_; rintro e wc ⟨rfl, bc⟩; obtain ⟨osc, dc, rfl⟩ := wide bc; clear bc)
          | (go_at_call 47; refine (NL _ _ _ _ _).mono ?_; rintro e wc ⟨rfl, os1, n1, rfl⟩))
        go_roundw
        case rel => exact ⟨k + 1, by rw [HS.out, hz]; rfl, by go_num, by omega, below_trans hB (Grown.below (by repeat (first | assumption | exact Grown.refl _ | apply Grown.drew | apply Grown.drewN | apply Grown.alloc | apply Grown.more | apply Grown.drawTo)))⟩
        case measure => simp [intOf]; omega
      · go_wp2_with (first
          | (go_at_call 46; refine (R _).mono ?_; rintro e wc ⟨rfl, bc⟩; obtain ⟨osc, dc, rfl⟩ := wide bc; clear bc)
          | (go_at_call 47; refine (NL _ _ _ _ _).mono ?_; rintro e wc ⟨rfl, os1, n1, rfl⟩))
        go_roundw
        case rel => exact ⟨k + 1, by rw [HS.out, hz]; rfl, by go_num, by omega, below_trans hB (Grown.below (by repeat (first | assumption | exact Grown.refl _ | apply Grown.drew | apply Grown.drewN | apply Grown.alloc | apply Grown.more | apply Grown.drawTo)))⟩
        case measure => simp [intOf]; omega
    · obtain rfl : k = n := by omega
      have br := bxr.later hB
      obtain ⟨r0, r1, r2, r3⟩ := br.at4
      dsimp only [nul] at r0 r1 r2 r3
      simp only [Nat.zero_add] at r1 r2 r3
      have f0 := br.free 0
      have f1 := br.free 1
      have f2 := br.free 2
      have f3 := br.free 3
      have lt1 := br.lt
      have lt2 : w.heap.size < wr.heap.size + 1 := by omega
      have lt3 : w.heap.size < wr.heap.size + 1 + 1 := by omega
      have Be := below_trans Bw hB
      replace hv := hv.later hB
      clear br bxr
      subst h1
      have hao' := hao.out
      subst hao'
      obtain ⟨c0, c1, c2, c3⟩ := (h4.later Be)
      have hg := (h4.later Be).lt
      have hg2 : bl < wr.heap.size + 1 := by omega
      have hg3 : bl < wr.heap.size + 1 + 1 := by omega
      dsimp only at c0 c1 c2 c3
      obtain ⟨d0, d1, d2, d3⟩ := (g4.later Be)
      dsimp only at d0 d1 d2 d3
      have d1' : wr.cell? ⟨bl, off + 5, none⟩ = some (.int .i64 bn) := d1
      clear g4
      clear h4 hv hao
      go_wp2
      refine bodyPost_ret_by (v := .tuple #[va 0 0 0 ⟨#[]⟩, .int .i64 31]) ?_ rfl ⟨rfl, ?_⟩
      · simp [results, Tryz.results23, go_sem, r0, r1, r2, r3, lt1]
      · refine below_trans (Be.setCell (p := ⟨w.heap.size, 0, none⟩) (Nat.le_refl _) (.int .i64 0) |>.setCell (p := ⟨w.heap.size, 1, none⟩) (Nat.le_refl _) (.int .i64 0) |>.setCell (p := ⟨w.heap.size, 2, none⟩) (Nat.le_refl _) (.int .i64 0) |>.setCell (p := ⟨w.heap.size, 3, none⟩) (Nat.le_refl _) (.string ⟨#[]⟩)) (Grown.below ?_)
        repeat (first | assumption | exact Grown.refl _ | apply Grown.drew | apply Grown.drewN | apply Grown.alloc | apply Grown.more | apply Grown.drawTo)


set_option maxRecDepth 100000 in
set_option maxHeartbeats 4000000 in
theorem rfun_round2 (lo hi : Int) (ok : Bool) (ao : Option Addr) (l : List Va) (n cap : Nat) (w : World) (HN : Hid (l.length = n)) (hl : n ≤ 140737488351232) (hv : Vs w ao l) (hall : Hid (∀ x ∈ l, vr x = true))
    (KN : ∀ W, Calls Tryz.prog 81 #[.string ⟨#[114, 111, 117, 110, 100]⟩] W fun e w' => e = .returned (.tuple #[.int .i64 lo, .int .i64 hi, .bool ok]) ∧ W = w') (h1 : ok = true) (h2 : ¬ (n : Int) < lo) (h3 : ¬ (n : Int) > hi) (bl off : Nat) (an am : Int) (ab : List UInt8) (bn bm : Int) (bb : List UInt8) (hao : Hid (ao = some ⟨bl, off, none⟩)) (h4 : At4 w bl off ⟨2, an, am, ab⟩) (g4 : At4 w bl (off + 4) ⟨1, bn, bm, bb⟩) (hz : zf l n = false) (hn0 : (0 : Int) < (n : Int)) (hn1 : (1 : Int) < (n : Int)) (b0 : ¬ bn < 0) (b6 : ¬ bn > 6) (z s x : Int) (D : ∀ W, Calls Tryz.prog 84 #[dv an am, .int .i64 bn] W fun e w' => e = .returned (.tuple #[dv z s, .int .i64 x]) ∧ Grew W w') :
    Calls Tryz.prog 23 #[.string ⟨#[114, 111, 117, 110, 100]⟩, .slice ao n cap] w fun e w' => e = .returned (rs (exactR z s x)) ∧ Below w.heap.size w w' := by
  obtain ⟨w0, hw0, bxr, Bw⟩ := res_box w
  go_enter Tryz.func23, Tryz.ntmps23
  go_upto_region 1 with fail
  rw [← hw0]
  clear hw0
  replace hv := hv.later Bw
  have NL := fun k n m b W => rnull7_any k n m b W
  go_wp2_with (go_at_call 81; refine (KN _).mono ?_; rintro e wc ⟨rfl, rfl⟩)
  clear KN
  go_loopw [9, 10] (fun s r wr => ∃ k : Nat, s = .bool (zf l k) ∧ r = .int .i64 (k : Int) ∧ k ≤ n ∧ Below w0.heap.size w0 wr) (fun _ r _ => n - (intOf r).toNat)
  case atStart => exact ⟨0, rfl, rfl, Nat.zero_le _, Below.refl _ _⟩
  case round =>
    obtain ⟨k, rfl, rfl, hk, hB⟩ := hrel
    by_cases hlt : k < n
    · have hlt' : (k : Int) < (n : Int) := by omega
      have k0 : (0 : Int) ≤ (k : Int) := by omega
      have hkl : k < l.length := by rw [HN.out]; exact hlt
      obtain ⟨b, off, rfl, hc⟩ := hv (by omega)
      obtain ⟨c0, c1, c2, c3⟩ := ((hc k (by omega)).later hB)
      have hg := (hc k (by omega)).lt
      have sB := hB.size
      have hg' : b < wr.heap.size := by omega
      have hr := hall.out l[k] (List.getElem_mem _)
      have HS : Hid (zf l (k + 1) = (zf l k || (l[k].k == 0))) := zf_step l k hkl
      obtain ⟨⟨vk, vn, vm, vb⟩, he⟩ : ∃ v : Va, v = l[k] := ⟨_, rfl⟩
      rw [← he] at c0 c1 c2 c3 hr HS
      have R : ∀ W, Calls Tryz.prog 46 #[va vk vn vm ⟨vb.toArray⟩] W fun e w' => e = .returned (.bool true) ∧ Below W.heap.size W w' := fun W => by
        have := rright_any vk vn vm ⟨vb.toArray⟩ W
        rwa [show vrt vk vn vm ⟨vb.toArray⟩ = true from hr] at this
      clear hc he hr hall hv bxr
      cases hz : zf l k
      · go_wp2_with (first
          | (go_at_call 46; refine (R _).mono ?_; rintro e wc ⟨rfl, bc⟩; obtain ⟨osc, dc, rfl⟩ := wide bc; clear bc)
          | (go_at_call 47; refine (NL _ _ _ _ _).mono ?_; rintro e wc ⟨rfl, os1, n1, rfl⟩))
        go_roundw
        case rel => exact ⟨k + 1, by rw [HS.out, hz]; rfl, by go_num, by omega, below_trans hB (Grown.below (by repeat (first | assumption | exact Grown.refl _ | apply Grown.drew | apply Grown.drewN | apply Grown.alloc | apply Grown.more | apply Grown.drawTo)))⟩
        case measure => simp [intOf]; omega
      · go_wp2_with (first
          | (go_at_call 46; refine (R _).mono ?_; rintro e wc ⟨rfl, bc⟩; obtain ⟨osc, dc, rfl⟩ := wide bc; clear bc)
          | (go_at_call 47; refine (NL _ _ _ _ _).mono ?_; rintro e wc ⟨rfl, os1, n1, rfl⟩))
        go_roundw
        case rel => exact ⟨k + 1, by rw [HS.out, hz]; rfl, by go_num, by omega, below_trans hB (Grown.below (by repeat (first | assumption | exact Grown.refl _ | apply Grown.drew | apply Grown.drewN | apply Grown.alloc | apply Grown.more | apply Grown.drawTo)))⟩
        case measure => simp [intOf]; omega
    · obtain rfl : k = n := by omega
      have br := bxr.later hB
      obtain ⟨r0, r1, r2, r3⟩ := br.at4
      dsimp only [nul] at r0 r1 r2 r3
      simp only [Nat.zero_add] at r1 r2 r3
      have f0 := br.free 0
      have f1 := br.free 1
      have f2 := br.free 2
      have f3 := br.free 3
      have lt1 := br.lt
      have lt2 : w.heap.size < wr.heap.size + 1 := by omega
      have lt3 : w.heap.size < wr.heap.size + 1 + 1 := by omega
      have Be := below_trans Bw hB
      replace hv := hv.later hB
      clear br bxr
      subst h1
      have hao' := hao.out
      subst hao'
      obtain ⟨c0, c1, c2, c3⟩ := (h4.later Be)
      have hg := (h4.later Be).lt
      have hg2 : bl < wr.heap.size + 1 := by omega
      have hg3 : bl < wr.heap.size + 1 + 1 := by omega
      dsimp only at c0 c1 c2 c3
      obtain ⟨d0, d1, d2, d3⟩ := (g4.later Be)
      dsimp only at d0 d1 d2 d3
      have d1' : wr.cell? ⟨bl, off + 5, none⟩ = some (.int .i64 bn) := d1
      clear g4
      clear h4 hv hao
      go_wp2_with (first
        | (go_at_call 70; refine (rnumber7_any _ _ _ _ _).mono ?_; rintro e wc ⟨rfl, os3, n3, rfl⟩))
      go_region_held2 (fun W => W.cell? ⟨wr.heap.size, 0, none⟩ = some (.int .i64 2) ∧ W.cell? ⟨wr.heap.size, 1, none⟩ = some (.int .i64 an) ∧ W.cell? ⟨wr.heap.size, 2, none⟩ = some (.int .i64 am) ∧ W.cell? ⟨wr.heap.size, 3, none⟩ = some (.string ⟨ab.toArray⟩) ∧ W.cell? ⟨bl, off + 5, none⟩ = some (.int .i64 bn)) (simp (maxDischargeDepth := 12) [go_sem, d1', hg]) (first
        | (go_at_call 52; refine (rdec7_any _ _ _ _ _).mono ?_; rintro e wc ⟨rfl, os4, n4, rfl⟩)
        | (go_at_call 84; refine (D _).mono ?_; rintro e wc ⟨rfl, os5, n5, rfl⟩)
        | (go_at_call 54; refine (rofDec_any _ _ _ _).mono ?_; rintro e wc ⟨rfl, os6, n6, rfl⟩))
      all_goals go_wp2
      all_goals refine bodyPost_ret_by (v := rs (exactR z s x)) ?_ rfl ⟨rfl, ?_⟩
      · simp [results, Tryz.results23, go_sem, r0, r1, r2, r3, lt1, lt2]
      · refine below_trans (Be.setCell (p := ⟨w.heap.size, 0, none⟩) (Nat.le_refl _) (.int .i64 (exactR z s x).1.k) |>.setCell (p := ⟨w.heap.size, 1, none⟩) (Nat.le_refl _) (.int .i64 (exactR z s x).1.n) |>.setCell (p := ⟨w.heap.size, 2, none⟩) (Nat.le_refl _) (.int .i64 (exactR z s x).1.m) |>.setCell (p := ⟨w.heap.size, 3, none⟩) (Nat.le_refl _) (.string ⟨(exactR z s x).1.b.toArray⟩)) (Grown.below ?_)
        repeat (first | assumption | exact Grown.refl _ | apply Grown.drew | apply Grown.drewN | apply Grown.alloc | apply Grown.more | apply Grown.drawTo)


set_option maxRecDepth 100000 in
set_option maxHeartbeats 4000000 in
theorem rfun_coal (lo hi : Int) (ok : Bool) (ao : Option Addr) (l : List Va) (n cap : Nat) (w : World) (HN : Hid (l.length = n)) (hl : n ≤ 140737488351232) (hv : Vs w ao l) (hall : Hid (∀ x ∈ l, vr x = true))
    (KN : ∀ W, Calls Tryz.prog 81 #[.string ⟨#[99, 111, 97, 108, 101, 115, 99, 101]⟩] W fun e w' => e = .returned (.tuple #[.int .i64 lo, .int .i64 hi, .bool ok]) ∧ W = w') (h1 : ok = true) (h2 : ¬ (n : Int) < lo) (h3 : ¬ (n : Int) > hi) (E : Va) (hE : E = firstK l)  :
    Calls Tryz.prog 23 #[.string ⟨#[99, 111, 97, 108, 101, 115, 99, 101]⟩, .slice ao n cap] w fun e w' => e = .returned (.tuple #[vv E, .int .i64 0]) ∧ Below w.heap.size w w' := by
  obtain ⟨w0, hw0, bxr, Bw⟩ := res_box w
  go_enter Tryz.func23, Tryz.ntmps23
  go_upto_region 1 with fail
  rw [← hw0]
  clear hw0
  replace hv := hv.later Bw
  have NL := fun k n m b W => rnull7_any k n m b W
  go_wp2_with (go_at_call 81; refine (KN _).mono ?_; rintro e wc ⟨rfl, rfl⟩)
  clear KN
  go_loopw [9, 10] (fun s r wr => ∃ k : Nat, s = .bool (zf l k) ∧ r = .int .i64 (k : Int) ∧ k ≤ n ∧ Below w0.heap.size w0 wr) (fun _ r _ => n - (intOf r).toNat)
  case atStart => exact ⟨0, rfl, rfl, Nat.zero_le _, Below.refl _ _⟩
  case round =>
    obtain ⟨k, rfl, rfl, hk, hB⟩ := hrel
    by_cases hlt : k < n
    · have hlt' : (k : Int) < (n : Int) := by omega
      have k0 : (0 : Int) ≤ (k : Int) := by omega
      have hkl : k < l.length := by rw [HN.out]; exact hlt
      obtain ⟨b, off, rfl, hc⟩ := hv (by omega)
      obtain ⟨c0, c1, c2, c3⟩ := ((hc k (by omega)).later hB)
      have hg := (hc k (by omega)).lt
      have sB := hB.size
      have hg' : b < wr.heap.size := by omega
      have hr := hall.out l[k] (List.getElem_mem _)
      have HS : Hid (zf l (k + 1) = (zf l k || (l[k].k == 0))) := zf_step l k hkl
      obtain ⟨⟨vk, vn, vm, vb⟩, he⟩ : ∃ v : Va, v = l[k] := ⟨_, rfl⟩
      rw [← he] at c0 c1 c2 c3 hr HS
      have R : ∀ W, Calls Tryz.prog 46 #[va vk vn vm ⟨vb.toArray⟩] W fun e w' => e = .returned (.bool true) ∧ Below W.heap.size W w' := fun W => by
        have := rright_any vk vn vm ⟨vb.toArray⟩ W
        rwa [show vrt vk vn vm ⟨vb.toArray⟩ = true from hr] at this
      clear hc he hr hall hv bxr
      cases hz : zf l k
      · go_wp2_with (first
          | (go_at_call 46; refine (R _).mono ?_; rintro e wc ⟨rfl, bc⟩; obtain ⟨osc, dc, rfl⟩ := wide bc; clear bc)
          | (go_at_call 47; refine (NL _ _ _ _ _).mono ?_; rintro e wc ⟨rfl, os1, n1, rfl⟩))
        go_roundw
        case rel => exact ⟨k + 1, by rw [HS.out, hz]; rfl, by go_num, by omega, below_trans hB (Grown.below (by repeat (first | assumption | exact Grown.refl _ | apply Grown.drew | apply Grown.drewN | apply Grown.alloc | apply Grown.more | apply Grown.drawTo)))⟩
        case measure => simp [intOf]; omega
      · go_wp2_with (first
          | (go_at_call 46; refine (R _).mono ?_; rintro e wc ⟨rfl, bc⟩; obtain ⟨osc, dc, rfl⟩ := wide bc; clear bc)
          | (go_at_call 47; refine (NL _ _ _ _ _).mono ?_; rintro e wc ⟨rfl, os1, n1, rfl⟩))
        go_roundw
        case rel => exact ⟨k + 1, by rw [HS.out, hz]; rfl, by go_num, by omega, below_trans hB (Grown.below (by repeat (first | assumption | exact Grown.refl _ | apply Grown.drew | apply Grown.drewN | apply Grown.alloc | apply Grown.more | apply Grown.drawTo)))⟩
        case measure => simp [intOf]; omega
    · obtain rfl : k = n := by omega
      have br := bxr.later hB
      obtain ⟨r0, r1, r2, r3⟩ := br.at4
      dsimp only [nul] at r0 r1 r2 r3
      simp only [Nat.zero_add] at r1 r2 r3
      have f0 := br.free 0
      have f1 := br.free 1
      have f2 := br.free 2
      have f3 := br.free 3
      have lt1 := br.lt
      have lt2 : w.heap.size < wr.heap.size + 1 := by omega
      have lt3 : w.heap.size < wr.heap.size + 1 + 1 := by omega
      have Be := below_trans Bw hB
      replace hv := hv.later hB
      clear br bxr
      subst h1
      have HE0 : Hid (E = firstK (l.drop 0)) := hE
      clear hE
      go_wp2
      go_loopw [11] (fun r ws => ∃ j : Nat, r = .int .i64 (j : Int) ∧ j ≤ k ∧ Below wr.heap.size wr ws ∧ Hid (E = firstK (l.drop j))) (fun r _ => k - (intOf r).toNat)
      case atStart => exact ⟨0, rfl, Nat.zero_le _, Below.refl _ _, HE0⟩
      case round =>
        rename World => ws
        obtain ⟨j, rfl, hj, hC, hA⟩ := hrel
        have sC := hC.size
        have Ce := below_trans Be hC
        have hcell : ∀ i : Nat, ws.cell? ⟨w.heap.size, i, none⟩ = wr.cell? ⟨w.heap.size, i, none⟩ := fun i => hC.cell (p := ⟨w.heap.size, i, none⟩) lt1
        have hfz : ∀ i : Nat, ws.frozen? ⟨w.heap.size, i, none⟩ = wr.frozen? ⟨w.heap.size, i, none⟩ := fun i => hC.frozen (p := ⟨w.heap.size, i, none⟩) lt1
        rw [← hcell] at r0 r1 r2 r3
        rw [← hfz] at f0 f1 f2 f3
        replace lt1 : w.heap.size < ws.heap.size := by omega
        clear hcell hfz
        by_cases hlt2 : j < k
        · have hlt2' : (j : Int) < (k : Int) := by omega
          have j0 : (0 : Int) ≤ (j : Int) := by omega
          have hjl : j < l.length := by rw [HN.out]; exact hlt2
          obtain ⟨b, off, rfl, hc⟩ := hv (by omega)
          obtain ⟨c0, c1, c2, c3⟩ := ((hc j (by omega)).later hC)
          have hg := (hc j (by omega)).lt
          have hg' : b < ws.heap.size := by omega
          have hdr : l.drop j = l[j] :: l.drop (j + 1) := List.drop_eq_getElem_cons hjl
          obtain ⟨⟨vk, vn, vm, vb⟩, he⟩ : ∃ v : Va, v = l[j] := ⟨_, rfl⟩
          rw [← he] at c0 c1 c2 c3 hdr
          have HST : Hid (E = firstK (⟨vk, vn, vm, vb⟩ :: l.drop (j + 1))) := by
            show E = _
            rw [hA.out, hdr]
          clear hc he hdr hA HE0
          by_cases hq : vk = 0
          · subst hq
            go_wp2_with (go_at_call 47; refine (NL _ _ _ _ _).mono ?_; rintro e wc ⟨rfl, os1, n1, rfl⟩)
            go_roundw
            case rel => exact ⟨j + 1, by go_num, by omega, below_trans hC (Grown.below (by repeat (first | assumption | exact Grown.refl _ | apply Grown.drew | apply Grown.drewN | apply Grown.alloc | apply Grown.more | apply Grown.drawTo))), HST.out⟩
            case measure => simp [intOf]; omega
          · have hq' : (vk == 0) = false := by simpa using hq
            have hE' : E = ⟨vk, vn, vm, vb⟩ := by
              have := HST.out
              rw [firstK, if_neg (by simpa using hq)] at this
              exact this
            subst hE'
            clear HST
            replace Be := Ce
            go_wp2_with (go_at_call 47; refine (NL _ _ _ _ _).mono ?_; rintro e wc ⟨rfl, os1, n1, rfl⟩)
            refine bodyPost_ret_by (v := .tuple #[va vk vn vm ⟨vb.toArray⟩, .int .i64 0]) ?_ rfl ⟨rfl, ?_⟩
            · simp [results, Tryz.results23, go_sem, r0, r1, r2, r3, lt1]
            · refine below_trans (Be.setCell (p := ⟨w.heap.size, 0, none⟩) (Nat.le_refl _) (.int .i64 vk) |>.setCell (p := ⟨w.heap.size, 1, none⟩) (Nat.le_refl _) (.int .i64 vn) |>.setCell (p := ⟨w.heap.size, 2, none⟩) (Nat.le_refl _) (.int .i64 vm) |>.setCell (p := ⟨w.heap.size, 3, none⟩) (Nat.le_refl _) (.string ⟨vb.toArray⟩)) (Grown.below ?_)
              repeat (first | assumption | exact Grown.refl _ | apply Grown.drew | apply Grown.drewN | apply Grown.alloc | apply Grown.more | apply Grown.drawTo)
        · obtain rfl : j = k := by omega
          have hE' : E = nul := by
            rw [hA.out, List.drop_eq_nil_of_le (by rw [HN.out]; omega)]; rfl
          subst hE'
          clear hA HE0
          replace Be := Ce
          go_wp2
          refine bodyPost_ret_by (v := .tuple #[va 0 0 0 ⟨#[]⟩, .int .i64 0]) ?_ rfl ⟨rfl, ?_⟩
          · simp [results, Tryz.results23, go_sem, r0, r1, r2, r3]
          · refine below_trans (Be.setCell (p := ⟨w.heap.size, 0, none⟩) (Nat.le_refl _) (.int .i64 0) |>.setCell (p := ⟨w.heap.size, 1, none⟩) (Nat.le_refl _) (.int .i64 0) |>.setCell (p := ⟨w.heap.size, 2, none⟩) (Nat.le_refl _) (.int .i64 0) |>.setCell (p := ⟨w.heap.size, 3, none⟩) (Nat.le_refl _) (.string ⟨#[]⟩)) (Grown.below ?_)
            repeat (first | assumption | exact Grown.refl _ | apply Grown.drew | apply Grown.drewN | apply Grown.alloc | apply Grown.more | apply Grown.drawTo)
end Go.Proofs.YtgapmofhnjfdiaaGreatDoor
