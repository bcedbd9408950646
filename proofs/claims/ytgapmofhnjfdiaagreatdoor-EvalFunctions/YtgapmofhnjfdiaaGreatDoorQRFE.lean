/-
  The document's answers for eval: Function, path by path.
-/
import Derived.Test.YtgapmofhnjfdiaaGreatDoorMLQLaw
import Derived.Test.YtgapmofhnjfdiaaGreatDoorQR7
import Derived.Test.YtgapmofhnjfdiaaGreatDoorDRefA
namespace Go.Proofs.YtgapmofhnjfdiaaGreatDoor
open Go.RowKit Go.Shelf
attribute [local go_sem] cell?_more frozen?_more setCell_more more_lt more_more more_drew more_drewN setCell_drewN alloc_drewN cell?_drawTo frozen?_drawTo heap_drawTo setCell_drawTo alloc_drawTo drewN_drawTo drew_drawTo drawTo_drewN drawTo_drew drawTo_drawTo more_drawTo

set_option maxRecDepth 100000 in
set_option maxHeartbeats 4000000 in
theorem rfun_length (lo hi : Int) (ok : Bool) (ao : Option Addr) (l : List Va) (n cap : Nat) (w : World) (HN : Hid (l.length = n)) (hl : n ≤ 140737488351232) (hv : Vs w ao l) (hall : Hid (∀ x ∈ l, vr x = true))
    (KN : ∀ W, Calls Tryz.prog 81 #[.string ⟨#[108, 101, 110, 103, 116, 104]⟩] W fun e w' => e = .returned (.tuple #[.int .i64 lo, .int .i64 hi, .bool ok]) ∧ W = w') (h1 : ok = true) (h2 : ¬ (n : Int) < lo) (h3 : ¬ (n : Int) > hi) (bl off : Nat) (an am : Int) (ab : List UInt8) (hao : Hid (ao = some ⟨bl, off, none⟩)) (h4 : At4 w bl off ⟨3, an, am, ab⟩) (hz : zf l n = false) (hn0 : (0 : Int) < (n : Int))   :
    Calls Tryz.prog 23 #[.string ⟨#[108, 101, 110, 103, 116, 104]⟩, .slice ao n cap] w fun e w' => e = .returned (rs (wholeR (ab.length : Int) 0)) ∧ Below w.heap.size w w' := by
  obtain ⟨w0, hw0, bxr, Bw⟩ := res_box w
  go_enter Tryz.func23, Tryz.ntmps23
  go_upto_region 1 with fail
  rw [← hw0]
  clear hw0
  replace hv := hv.later Bw
  have NL := fun k n m b W => rnull7_any k n m b W
  go_wp2_with (go_at_call 81; refine (KN _).mono ?_; rintro e wc ⟨rfl, rfl⟩)
  clear KN
  go_loopw [9, 10] (fun s r wr => ∃ k : Nat, s = .bool (zf l k) ∧ r = .int .i64 (k : Int) ∧ k ≤ n ∧ Below w0.heap.size w0 wr) (fun _ r _ => n - (intOf r).toNat)
  case atStart => exact ⟨0, rfl, rfl, Nat.zero_le _, Below.refl _ _⟩
  case round =>
    obtain ⟨k, rfl, rfl, hk, hB⟩ := hrel
    by_cases hlt : k < n
    · have hlt' : (k : Int) < (n : Int) := by omega
      have k0 : (0 : Int) ≤ (k : Int) := by omega
      have hkl : k < l.length := by rw [HN.out]; exact hlt
      obtain ⟨b, off, rfl, hc⟩ := hv (by omega)
      obtain ⟨c0, c1, c2, c3⟩ := ((hc k (by omega)).later hB)
      have hg := (hc k (by omega)).lt
      have sB := hB.size
      have hg' : b < wr.heap.size := by omega
      have hr := hall.out l[k] (List.getElem_mem _)
      have HS : Hid (zf l (k + 1) = (zf l k || (l[k].k == 0))) := zf_step l k hkl
      obtain ⟨⟨vk, vn, vm, vb⟩, he⟩ : ∃ v : Va, v = l[k] := ⟨_, rfl⟩
      rw [← he] at c0 c1 c2 c3 hr HS
      have R : ∀ W, Calls Tryz.prog 46 #[va vk vn vm ⟨vb.toArray⟩] W fun e w' => e = .returned (.bool true) ∧ Below W.heap.size W w' := fun W => by
        have := rright_any vk vn vm ⟨vb.toArray⟩ W
        rwa [show vrt vk vn vm ⟨vb.toArray⟩ = true from hr] at this
      clear hc he hr hall hv bxr
      cases hz : zf l k
      · go_wp2_with (first
          | (go_at_call 46; refine (R _).mono ?_; rintro e wc ⟨rfl, bc⟩; obtain ⟨osc, dc, rfl⟩ := wide bc; clear bc)
          | (go_at_call 47; refine (NL _ _ _ _ _).mono ?_; rintro e wc ⟨rfl, os1, n1, rfl⟩))
        go_roundw
        case rel => exact ⟨k + 1, by rw [HS.out, hz]; rfl, by go_num, by omega, below_trans hB (Grown.below (by repeat (first | assumption | exact Grown.refl _ | apply Grown.drew | apply Grown.drewN | apply Grown.alloc | apply Grown.more | apply Grown.drawTo)))⟩
        case measure => simp [intOf]; omega
      · go_wp2_with (first
          | (go_at_call 46; refine (R _).mono ?_; rintro e wc ⟨rfl, bc⟩; obtain ⟨osc, dc, rfl⟩ := wide bc; clear bc)
          | (go_at_call 47; refine (NL _ _ _ _ _).mono ?_; rintro e wc ⟨rfl, os1, n1, rfl⟩))
        go_roundw
        case rel => exact ⟨k + 1, by rw [HS.out, hz]; rfl, by go_num, by omega, below_trans hB (Grown.below (by repeat (first | assumption | exact Grown.refl _ | apply Grown.drew | apply Grown.drewN | apply Grown.alloc | apply Grown.more | apply Grown.drawTo)))⟩
        case measure => simp [intOf]; omega
    · obtain rfl : k = n := by omega
      have br := bxr.later hB
      obtain ⟨r0, r1, r2, r3⟩ := br.at4
      dsimp only [nul] at r0 r1 r2 r3
      simp only [Nat.zero_add] at r1 r2 r3
      have f0 := br.free 0
      have f1 := br.free 1
      have f2 := br.free 2
      have f3 := br.free 3
      have lt1 := br.lt
      have lt2 : w.heap.size < wr.heap.size + 1 := by omega
      have lt3 : w.heap.size < wr.heap.size + 1 + 1 := by omega
      have Be := below_trans Bw hB
      replace hv := hv.later hB
      clear br bxr
      subst h1
      have hao' := hao.out
      subst hao'
      obtain ⟨c0, c1, c2, c3⟩ := (h4.later Be)
      have hg := (h4.later Be).lt
      have hg2 : bl < wr.heap.size + 1 := by omega
      have hg3 : bl < wr.heap.size + 1 + 1 := by omega
      dsimp only at c0 c1 c2 c3
      clear h4 hv hao
      go_wp2_with (first
        | (go_at_call 53; refine (rofInt_any _ _ _).mono ?_; rintro e wc ⟨rfl, os2, n2, rfl⟩))
      refine bodyPost_ret_by (v := rs (wholeR (ab.length : Int) 0)) ?_ rfl ⟨rfl, ?_⟩
      · simp [results, Tryz.results23, go_sem, r0, r1, r2, r3, lt1]
      · refine below_trans (Be.setCell (p := ⟨w.heap.size, 0, none⟩) (Nat.le_refl _) (.int .i64 (wholeR (ab.length : Int) 0).1.k) |>.setCell (p := ⟨w.heap.size, 1, none⟩) (Nat.le_refl _) (.int .i64 (wholeR (ab.length : Int) 0).1.n) |>.setCell (p := ⟨w.heap.size, 2, none⟩) (Nat.le_refl _) (.int .i64 (wholeR (ab.length : Int) 0).1.m) |>.setCell (p := ⟨w.heap.size, 3, none⟩) (Nat.le_refl _) (.string ⟨(wholeR (ab.length : Int) 0).1.b.toArray⟩)) (Grown.below ?_)
        repeat (first | assumption | exact Grown.refl _ | apply Grown.drew | apply Grown.drewN | apply Grown.alloc | apply Grown.more | apply Grown.drawTo)


set_option maxRecDepth 100000 in
set_option maxHeartbeats 4000000 in
theorem rfun_abs_no (lo hi : Int) (ok : Bool) (ao : Option Addr) (l : List Va) (n cap : Nat) (w : World) (HN : Hid (l.length = n)) (hl : n ≤ 140737488351232) (hv : Vs w ao l) (hall : Hid (∀ x ∈ l, vr x = true))
    (KN : ∀ W, Calls Tryz.prog 81 #[.string ⟨#[97, 98, 115]⟩] W fun e w' => e = .returned (.tuple #[.int .i64 lo, .int .i64 hi, .bool ok]) ∧ W = w') (h1 : ok = true) (h2 : ¬ (n : Int) < lo) (h3 : ¬ (n : Int) > hi) (ak : Int) (bl off : Nat) (an am : Int) (ab : List UInt8) (hao : Hid (ao = some ⟨bl, off, none⟩)) (h4 : At4 w bl off ⟨ak, an, am, ab⟩) (hz : zf l n = false) (hn0 : (0 : Int) < (n : Int)) (xa1 : (ak == 1) = false) (xa2 : (ak == 2) = false)  :
    Calls Tryz.prog 23 #[.string ⟨#[97, 98, 115]⟩, .slice ao n cap] w fun e w' => e = .returned (.tuple #[va 0 0 0 ⟨#[]⟩, .int .i64 31]) ∧ Below w.heap.size w w' := by
  obtain ⟨w0, hw0, bxr, Bw⟩ := res_box w
  go_enter Tryz.func23, Tryz.ntmps23
  go_upto_region 1 with fail
  rw [← hw0]
  clear hw0
  replace hv := hv.later Bw
  have NL := fun k n m b W => rnull7_any k n m b W
  go_wp2_with (go_at_call 81; refine (KN _).mono ?_; rintro e wc ⟨rfl, rfl⟩)
  clear KN
  go_loopw [9, 10] (fun s r wr => ∃ k : Nat, s = .bool (zf l k) ∧ r = .int .i64 (k : Int) ∧ k ≤ n ∧ Below w0.heap.size w0 wr) (fun _ r _ => n - (intOf r).toNat)
  case atStart => exact ⟨0, rfl, rfl, Nat.zero_le _, Below.refl _ _⟩
  case round =>
    obtain ⟨k, rfl, rfl, hk, hB⟩ := hrel
    by_cases hlt : k < n
    · have hlt' : (k : Int) < (n : Int) := by omega
      have k0 : (0 : Int) ≤ (k : Int) := by omega
      have hkl : k < l.length := by rw [HN.out]; exact hlt
      obtain ⟨b, off, rfl, hc⟩ := hv (by omega)
      obtain ⟨c0, c1, c2, c3⟩ := ((hc k (by omega)).later hB)
      have hg := (hc k (by omega)).lt
      have sB := hB.size
      have hg' : b < wr.heap.size := by omega
      have hr := hall.out l[k] (List.getElem_mem _)
      have HS : Hid (zf l (k + 1) = (zf l k || (l[k].k == 0))) := zf_step l k hkl
      obtain ⟨⟨vk, vn, vm, vb⟩, he⟩ : ∃ v : Va, v = l[k] := ⟨_, rfl⟩
      rw [← he] at c0 c1 c2 c3 hr HS
      have R : ∀ W, Calls Tryz.prog 46 #[va vk vn vm ⟨vb.toArray⟩] W fun e w' => e = .returned (.bool true) ∧ Below W.heap.size W w' := fun W => by
        have := rright_any vk vn vm ⟨vb.toArray⟩ W
        rwa [show vrt vk vn vm ⟨vb.toArray⟩ = true from hr] at this
      clear hc he hr hall hv bxr
      cases hz : zf l k
      · go_wp2_with (first
          | (go_at_call 46; refine (R _).mono ?_; rintro e wc ⟨rfl, bc⟩; obtain ⟨osc, dc, rfl⟩ := wide bc; clear bc)
          | (go_at_call 47; refine (NL _ _ _ _ _).mono ?_; rintro e wc ⟨rfl, os1, n1, rfl⟩))
        go_roundw
        case rel => exact ⟨k + 1, by rw [HS.out, hz]; rfl, by go_num, by omega, below_trans hB (Grown.below (by repeat (first | assumption | exact Grown.refl _ | apply Grown.drew | apply Grown.drewN | apply Grown.alloc | apply Grown.more | apply Grown.drawTo)))⟩
        case measure => simp [intOf]; omega
      · go_wp2_with (first
          | (go_at_call 46; refine (R _).mono ?_; rintro e wc ⟨rfl, bc⟩; obtain ⟨osc, dc, rfl⟩ := wide bc; clear bc)
          | (go_at_call 47; refine (NL _ _ _ _ _).mono ?_; rintro e wc ⟨rfl, os1, n1, rfl⟩))
        go_roundw
        case rel => exact ⟨k + 1, by rw [HS.out, hz]; rfl, by go_num, by omega, below_trans hB (Grown.below (by repeat (first | assumption | exact Grown.refl _ | apply Grown.drew | apply Grown.drewN | apply Grown.alloc | apply Grown.more | apply Grown.drawTo)))⟩
        case measure => simp [intOf]; omega
    · obtain rfl : k = n := by omega
      have br := bxr.later hB
      obtain ⟨r0, r1, r2, r3⟩ := br.at4
      dsimp only [nul] at r0 r1 r2 r3
      simp only [Nat.zero_add] at r1 r2 r3
      have f0 := br.free 0
      have f1 := br.free 1
      have f2 := br.free 2
      have f3 := br.free 3
      have lt1 := br.lt
      have lt2 : w.heap.size < wr.heap.size + 1 := by omega
      have lt3 : w.heap.size < wr.heap.size + 1 + 1 := by omega
      have Be := below_trans Bw hB
      replace hv := hv.later hB
      clear br bxr
      subst h1
      have hao' := hao.out
      subst hao'
      obtain ⟨c0, c1, c2, c3⟩ := (h4.later Be)
      have hg := (h4.later Be).lt
      have hg2 : bl < wr.heap.size + 1 := by omega
      have hg3 : bl < wr.heap.size + 1 + 1 := by omega
      dsimp only at c0 c1 c2 c3
      clear h4 hv hao
      go_wp2_with (first
        | (go_at_call 70; refine (rnumber7_any _ _ _ _ _).mono ?_; rintro e wc ⟨rfl, os3, n3, rfl⟩))
      refine bodyPost_ret_by (v := .tuple #[va 0 0 0 ⟨#[]⟩, .int .i64 31]) ?_ rfl ⟨rfl, ?_⟩
      · simp [results, Tryz.results23, go_sem, r0, r1, r2, r3, lt1]
      · refine below_trans (Be.setCell (p := ⟨w.heap.size, 0, none⟩) (Nat.le_refl _) (.int .i64 0) |>.setCell (p := ⟨w.heap.size, 1, none⟩) (Nat.le_refl _) (.int .i64 0) |>.setCell (p := ⟨w.heap.size, 2, none⟩) (Nat.le_refl _) (.int .i64 0) |>.setCell (p := ⟨w.heap.size, 3, none⟩) (Nat.le_refl _) (.string ⟨#[]⟩)) (Grown.below ?_)
        repeat (first | assumption | exact Grown.refl _ | apply Grown.drew | apply Grown.drewN | apply Grown.alloc | apply Grown.more | apply Grown.drawTo)


set_option maxRecDepth 100000 in
set_option maxHeartbeats 4000000 in
theorem rfun_py_no (lo hi : Int) (ok : Bool) (ao : Option Addr) (l : List Va) (n cap : Nat) (w : World) (HN : Hid (l.length = n)) (hl : n ≤ 140737488351232) (hv : Vs w ao l) (hall : Hid (∀ x ∈ l, vr x = true))
    (KN : ∀ W, Calls Tryz.prog 81 #[.string ⟨#[112, 121]⟩] W fun e w' => e = .returned (.tuple #[.int .i64 lo, .int .i64 hi, .bool ok]) ∧ W = w') (h1 : ok = true) (h2 : ¬ (n : Int) < lo) (h3 : ¬ (n : Int) > hi) (ak : Int) (bl off : Nat) (an am : Int) (ab : List UInt8) (hao : Hid (ao = some ⟨bl, off, none⟩)) (h4 : At4 w bl off ⟨ak, an, am, ab⟩) (hz : zf l n = false) (hn0 : (0 : Int) < (n : Int)) (xa5 : (ak == 5) = false)  :
    Calls Tryz.prog 23 #[.string ⟨#[112, 121]⟩, .slice ao n cap] w fun e w' => e = .returned (.tuple #[va 0 0 0 ⟨#[]⟩, .int .i64 31]) ∧ Below w.heap.size w w' := by
  obtain ⟨w0, hw0, bxr, Bw⟩ := res_box w
  go_enter Tryz.func23, Tryz.ntmps23
  go_upto_region 1 with fail
  rw [← hw0]
  clear hw0
  replace hv := hv.later Bw
  have NL := fun k n m b W => rnull7_any k n m b W
  go_wp2_with (go_at_call 81; refine (KN _).mono ?_; rintro e wc ⟨rfl, rfl⟩)
  clear KN
  go_loopw [9, 10] (fun s r wr => ∃ k : Nat, s = .bool (zf l k) ∧ r = .int .i64 (k : Int) ∧ k ≤ n ∧ Below w0.heap.size w0 wr) (fun _ r _ => n - (intOf r).toNat)
  case atStart => exact ⟨0, rfl, rfl, Nat.zero_le _, Below.refl _ _⟩
  case round =>
    obtain ⟨k, rfl, rfl, hk, hB⟩ := hrel
    by_cases hlt : k < n
    · have hlt' : (k : Int) < (n : Int) := by omega
      have k0 : (0 : Int) ≤ (k : Int) := by omega
      have hkl : k < l.length := by rw [HN.out]; exact hlt
      obtain ⟨b, off, rfl, hc⟩ := hv (by omega)
      obtain ⟨c0, c1, c2, c3⟩ := ((hc k (by omega)).later hB)
      have hg := (hc k (by omega)).lt
      have sB := hB.size
      have hg' : b < wr.heap.size := by omega
      have hr := hall.out l[k] (List.getElem_mem _)
      have HS : Hid (zf l (k + 1) = (zf l k || (l[k].k == 0))) := zf_step l k hkl
      obtain ⟨⟨vk, vn, vm, vb⟩, he⟩ : ∃ v : Va, v = l[k] := ⟨_, rfl⟩
      rw [← he] at c0 c1 c2 c3 hr HS
      have R : ∀ W, Calls Tryz.prog 46 #[va vk vn vm ⟨vb.toArray⟩] W fun e w' => e = .returned (.bool true) ∧ Below W.heap.size W w' := fun W => by
        have := rright_any vk vn vm ⟨vb.toArray⟩ W
        rwa [show vrt vk vn vm ⟨vb.toArray⟩ = true from hr] at this
      clear hc he hr hall hv bxr
      cases hz : zf l k
      · go_wp2_with (first
          | (go_at_call 46; refine (R _).mono ?_; rintro e wc ⟨rfl, bc⟩; obtain ⟨osc, dc, rfl⟩ := wide bc; clear bc)
          | (go_at_call 47; refine (NL _ _ _ _ _).mono ?_; rintro e wc ⟨rfl, os1, n1, rfl⟩))
        go_roundw
        case rel => exact ⟨k + 1, by rw [HS.out, hz]; rfl, by go_num, by omega, below_trans hB (Grown.below (by repeat (first | assumption | exact Grown.refl _ | apply Grown.drew | apply Grown.drewN | apply Grown.alloc | apply Grown.more | apply Grown.drawTo)))⟩
        case measure => simp [intOf]; omega
      · go_wp2_with (first
          | (go_at_call 46; refine (R _).mono ?_; rintro e wc ⟨rfl, bc⟩; obtain ⟨osc, dc, rfl⟩ := wide bc; clear bc)
          | (go_at_call 47; refine (NL _ _ _ _ _).mono ?_; rintro e wc ⟨rfl, os1, n1, rfl⟩))
        go_roundw
        case rel => exact ⟨k + 1, by rw [HS.out, hz]; rfl, by go_num, by omega, below_trans hB (Grown.below (by repeat (first | assumption | exact Grown.refl _ | apply Grown.drew | apply Grown.drewN | apply Grown.alloc | apply Grown.more | apply Grown.drawTo)))⟩
        case measure => simp [intOf]; omega
    · obtain rfl : k = n := by omega
      have br := bxr.later hB
      obtain ⟨r0, r1, r2, r3⟩ := br.at4
      dsimp only [nul] at r0 r1 r2 r3
      simp only [Nat.zero_add] at r1 r2 r3
      have f0 := br.free 0
      have f1 := br.free 1
      have f2 := br.free 2
      have f3 := br.free 3
      have lt1 := br.lt
      have lt2 : w.heap.size < wr.heap.size + 1 := by omega
      have lt3 : w.heap.size < wr.heap.size + 1 + 1 := by omega
      have Be := below_trans Bw hB
      replace hv := hv.later hB
      clear br bxr
      subst h1
      have hao' := hao.out
      subst hao'
      obtain ⟨c0, c1, c2, c3⟩ := (h4.later Be)
      have hg := (h4.later Be).lt
      have hg2 : bl < wr.heap.size + 1 := by omega
      have hg3 : bl < wr.heap.size + 1 + 1 := by omega
      dsimp only at c0 c1 c2 c3
      clear h4 hv hao
      go_wp2
      refine bodyPost_ret_by (v := .tuple #[va 0 0 0 ⟨#[]⟩, .int .i64 31]) ?_ rfl ⟨rfl, ?_⟩
      · simp [results, Tryz.results23, go_sem, r0, r1, r2, r3, lt1]
      · refine below_trans (Be.setCell (p := ⟨w.heap.size, 0, none⟩) (Nat.le_refl _) (.int .i64 0) |>.setCell (p := ⟨w.heap.size, 1, none⟩) (Nat.le_refl _) (.int .i64 0) |>.setCell (p := ⟨w.heap.size, 2, none⟩) (Nat.le_refl _) (.int .i64 0) |>.setCell (p := ⟨w.heap.size, 3, none⟩) (Nat.le_refl _) (.string ⟨#[]⟩)) (Grown.below ?_)
        repeat (first | assumption | exact Grown.refl _ | apply Grown.drew | apply Grown.drewN | apply Grown.alloc | apply Grown.more | apply Grown.drawTo)


set_option maxRecDepth 100000 in
set_option maxHeartbeats 4000000 in
theorem rfun_round1lo (lo hi : Int) (ok : Bool) (ao : Option Addr) (l : List Va) (n cap : Nat) (w : World) (HN : Hid (l.length = n)) (hl : n ≤ 140737488351232) (hv : Vs w ao l) (hall : Hid (∀ x ∈ l, vr x = true))
    (KN : ∀ W, Calls Tryz.prog 81 #[.string ⟨#[114, 111, 117, 110, 100]⟩] W fun e w' => e = .returned (.tuple #[.int .i64 lo, .int .i64 hi, .bool ok]) ∧ W = w') (h1 : ok = true) (h2 : ¬ (n : Int) < lo) (h3 : ¬ (n : Int) > hi) (bl off : Nat) (an am : Int) (ab : List UInt8) (bn bm : Int) (bb : List UInt8) (hao : Hid (ao = some ⟨bl, off, none⟩)) (h4 : At4 w bl off ⟨1, an, am, ab⟩) (g4 : At4 w bl (off + 4) ⟨1, bn, bm, bb⟩) (hz : zf l n = false) (hn0 : (0 : Int) < (n : Int)) (hn1 : (1 : Int) < (n : Int)) (b0 : bn < 0)  :
    Calls Tryz.prog 23 #[.string ⟨#[114, 111, 117, 110, 100]⟩, .slice ao n cap] w fun e w' => e = .returned (.tuple #[va 0 0 0 ⟨#[]⟩, .int .i64 32]) ∧ Below w.heap.size w w' := by
  obtain ⟨w0, hw0, bxr, Bw⟩ := res_box w
  go_enter Tryz.func23, Tryz.ntmps23
  go_upto_region 1 with fail
  rw [← hw0]
  clear hw0
  replace hv := hv.later Bw
  have NL := fun k n m b W => rnull7_any k n m b W
  go_wp2_with (go_at_call 81; refine (KN _).mono ?_; rintro e wc ⟨rfl, rfl⟩)
  clear KN
  go_loopw [9, 10] (fun s r wr => ∃ k : Nat, s = .bool (zf l k) ∧ r = .int .i64 (k : Int) ∧ k ≤ n ∧ Below w0.heap.size w0 wr) (fun _ r _ => n - (intOf r).toNat)
  case atStart => exact ⟨0, rfl, rfl, Nat.zero_le _, Below.refl _ _⟩
  case round =>
    obtain ⟨k, rfl, rfl, hk, hB⟩ := hrel
    by_cases hlt : k < n
    · have hlt' : (k : Int) < (n : Int) := by omega
      have k0 : (0 : Int) ≤ (k : Int) := by omega
      have hkl : k < l.length := by rw [HN.out]; exact hlt
      obtain ⟨b, off, rfl, hc⟩ := hv (by omega)
      obtain ⟨c0, c1, c2, c3⟩ := ((hc k (by omega)).later hB)
      have hg := (hc k (by omega)).lt
      have sB := hB.size
      have hg' : b < wr.heap.size := by omega
      have hr := hall.out l[k] (List.getElem_mem _)
      have HS : Hid (zf l (k + 1) = (zf l k || (l[k].k == 0))) := zf_step l k hkl
      obtain ⟨⟨vk, vn, vm, vb⟩, he⟩ : ∃ v : Va, v = l[k] := ⟨_, rfl⟩
      rw [← he] at c0 c1 c2 c3 hr HS
      have R : ∀ W, Calls Tryz.prog 46 #[va vk vn vm ⟨vb.toArray⟩] W fun e w' => e = .returned (.bool true) ∧ Below W.heap.size W w' := fun W => by
        have := rright_any vk vn vm ⟨vb.toArray⟩ W
        rwa [show vrt vk vn vm ⟨vb.toArray⟩ = true from hr] at this
      clear hc he hr hall hv bxr
      cases hz : zf l k
      · go_wp2_with (first
          | (go_at_call 46; refine (R _).mono ?_; rintro e wc ⟨rfl, bc⟩; obtain ⟨osc, dc, rfl⟩ := wide bc; clear bc)
          | (go_at_call 47; refine (NL _ _ _ _ _).mono ?_; rintro e wc ⟨rfl, os1, n1, rfl⟩))
        go_roundw
        case rel => exact ⟨k + 1, by rw [HS.out, hz]; rfl, by go_num, by omega, below_trans hB (Grown.below (by repeat (first | assumption | exact Grown.refl _ | apply Grown.drew | apply Grown.drewN | apply Grown.alloc | apply Grown.more | apply Grown.drawTo)))⟩
        case measure => simp [intOf]; omega
      · go_wp2_with (first
          | (go_at_call 46; refine (R _).mono ?_; rintro e wc ⟨rfl, bc⟩; obtain ⟨osc, dc, rfl⟩ := wide bc; clear bc)
          | (go_at_call 47; refine (NL _ _ _ _ _).mono ?_; rintro e wc ⟨rfl, os1, n1, rfl⟩))
        go_roundw
        case rel => exact ⟨k + 1, by rw [HS.out, hz]; rfl, by go_num, by omega, below_trans hB (Grown.below (by repeat (first | assumption | exact Grown.refl _ | apply Grown.drew | apply Grown.drewN | apply Grown.alloc | apply Grown.more | apply Grown.drawTo)))⟩
        case measure => simp [intOf]; omega
    · obtain rfl : k = n := by omega
      have br := bxr.later hB
      obtain ⟨r0, r1, r2, r3⟩ := br.at4
      dsimp only [nul] at r0 r1 r2 r3
      simp only [Nat.zero_add] at r1 r2 r3
      have f0 := br.free 0
      have f1 := br.free 1
      have f2 := br.free 2
      have f3 := br.free 3
      have lt1 := br.lt
      have lt2 : w.heap.size < wr.heap.size + 1 := by omega
      have lt3 : w.heap.size < wr.heap.size + 1 + 1 := by omega
      have Be := below_trans Bw hB
      replace hv := hv.later hB
      clear br bxr
      subst h1
      have hao' := hao.out
      subst hao'
      obtain ⟨c0, c1, c2, c3⟩ := (h4.later Be)
      have hg := (h4.later Be).lt
      have hg2 : bl < wr.heap.size + 1 := by omega
      have hg3 : bl < wr.heap.size + 1 + 1 := by omega
      dsimp only at c0 c1 c2 c3
      obtain ⟨d0, d1, d2, d3⟩ := (g4.later Be)
      dsimp only at d0 d1 d2 d3
      have d1' : wr.cell? ⟨bl, off + 5, none⟩ = some (.int .i64 bn) := d1
      clear g4
      clear h4 hv hao
      go_wp2_with (first
        | (go_at_call 70; refine (rnumber7_any _ _ _ _ _).mono ?_; rintro e wc ⟨rfl, os3, n3, rfl⟩))
      refine bodyPost_ret_by (v := .tuple #[va 0 0 0 ⟨#[]⟩, .int .i64 32]) ?_ rfl ⟨rfl, ?_⟩
      · simp [results, Tryz.results23, go_sem, r0, r1, r2, r3, lt1]
      · refine below_trans (Be.setCell (p := ⟨w.heap.size, 0, none⟩) (Nat.le_refl _) (.int .i64 0) |>.setCell (p := ⟨w.heap.size, 1, none⟩) (Nat.le_refl _) (.int .i64 0) |>.setCell (p := ⟨w.heap.size, 2, none⟩) (Nat.le_refl _) (.int .i64 0) |>.setCell (p := ⟨w.heap.size, 3, none⟩) (Nat.le_refl _) (.string ⟨#[]⟩)) (Grown.below ?_)
        repeat (first | assumption | exact Grown.refl _ | apply Grown.drew | apply Grown.drewN | apply Grown.alloc | apply Grown.more | apply Grown.drawTo)


set_option maxRecDepth 100000 in
set_option maxHeartbeats 4000000 in
theorem rfun_round_noB2 (lo hi : Int) (ok : Bool) (ao : Option Addr) (l : List Va) (n cap : Nat) (w : World) (HN : Hid (l.length = n)) (hl : n ≤ 140737488351232) (hv : Vs w ao l) (hall : Hid (∀ x ∈ l, vr x = true))
    (KN : ∀ W, Calls Tryz.prog 81 #[.string ⟨#[114, 111, 117, 110, 100]⟩] W fun e w' => e = .returned (.tuple #[.int .i64 lo, .int .i64 hi, .bool ok]) ∧ W = w') (h1 : ok = true) (h2 : ¬ (n : Int) < lo) (h3 : ¬ (n : Int) > hi) (bk : Int) (bl off : Nat) (an am : Int) (ab : List UInt8) (bn bm : Int) (bb : List UInt8) (hao : Hid (ao = some ⟨bl, off, none⟩)) (h4 : At4 w bl off ⟨2, an, am, ab⟩) (g4 : At4 w bl (off + 4) ⟨bk, bn, bm, bb⟩) (hz : zf l n = false) (hn0 : (0 : Int) < (n : Int)) (hn1 : (1 : Int) < (n : Int)) (xb1 : (bk == 1) = false)  :
    Calls Tryz.prog 23 #[.string ⟨#[114, 111, 117, 110, 100]⟩, .slice ao n cap] w fun e w' => e = .returned (.tuple #[va 0 0 0 ⟨#[]⟩, .int .i64 31]) ∧ Below w.heap.size w w' := by
  obtain ⟨w0, hw0, bxr, Bw⟩ := res_box w
  go_enter Tryz.func23, Tryz.ntmps23
  go_upto_region 1 with fail
  rw [← hw0]
  clear hw0
  replace hv := hv.later Bw
  have NL := fun k n m b W => rnull7_any k n m b W
  go_wp2_with (go_at_call 81; refine (KN _).mono ?_; rintro e wc ⟨rfl, rfl⟩)
  clear KN
  go_loopw [9, 10] (fun s r wr => ∃ k : Nat, s = .bool (zf l k) ∧ r = .int .i64 (k : Int) ∧ k ≤ n ∧ Below w0.heap.size w0 wr) (fun _ r _ => n - (intOf r).toNat)
  case atStart => exact ⟨0, rfl, rfl, Nat.zero_le _, Below.refl _ _⟩
  case round =>
    obtain ⟨k, rfl, rfl, hk, hB⟩ := hrel
    by_cases hlt : k < n
    · have hlt' : (k : Int) < (n : Int) := by omega
      have k0 : (0 : Int) ≤ (k : Int) := by omega
      have hkl : k < l.length := by rw [HN.out]; exact hlt
      obtain ⟨b, off, rfl, hc⟩ := hv (by omega)
      obtain ⟨c0, c1, c2, c3⟩ := ((hc k (by omega)).later hB)
      have hg := (hc k (by omega)).lt
      have sB := hB.size
      have hg' : b < wr.heap.size := by omega
      have hr := hall.out l[k] (List.getElem_mem _)
      have HS : Hid (zf l (k + 1) = (zf l k || (l[k].k == 0))) := zf_step l k hkl
      obtain ⟨⟨vk, vn, vm, vb⟩, he⟩ : ∃ v : Va, v = l[k] := ⟨_, rfl⟩
      rw [← he] at c0 c1 c2 c3 hr HS
      have R : ∀ W, Calls Tryz.prog 46 #[va vk vn vm ⟨vb.toArray⟩] W fun e w' => e = .returned (.bool true) ∧ Below W.heap.size W w' := fun W => by
        have := rright_any vk vn vm ⟨vb.toArray⟩ W
        rwa [show vrt vk vn vm ⟨vb.toArray⟩ = true from hr] at this
      clear hc he hr hall hv bxr
      cases hz : zf l k
      · go_wp2_with (first
          | (go_at_call 46; refine (R _).mono ?_; rintro e wc ⟨rfl, bc⟩; obtain ⟨osc, dc, rfl⟩ := wide bc; clear bc)
          | (go_at_call 47; refine (NL _ _ _ _ _).mono ?_; rintro e wc ⟨rfl, os1, n1, rfl⟩))
        go_roundw
        case rel => exact ⟨k + 1, by rw [HS.out, hz]; rfl, by go_num, by omega, below_trans hB (Grown.below (by repeat (first | assumption | exact Grown.refl _ | apply Grown.drew | apply Grown.drewN | apply Grown.alloc | apply Grown.more | apply Grown.drawTo)))⟩
        case measure => simp [intOf]; omega
      · go_wp2_with (first
          | (go_at_call 46; refine (R _).mono ?_; rintro e wc ⟨rfl, bc⟩; obtain ⟨osc, dc, rfl⟩ := wide bc; clear bc)
          | (go_at_call 47; refine (NL _ _ _ _ _).mono ?_; rintro e wc ⟨rfl, os1, n1, rfl⟩))
        go_roundw
        case rel => exact ⟨k + 1, by rw [HS.out, hz]; rfl, by go_num, by omega, below_trans hB (Grown.below (by repeat (first | assumption | exact Grown.refl _ | apply Grown.drew | apply Grown.drewN | apply Grown.alloc | apply Grown.more | apply Grown.drawTo)))⟩
        case measure => simp [intOf]; omega
    · obtain rfl : k = n := by omega
      have br := bxr.later hB
      obtain ⟨r0, r1, r2, r3⟩ := br.at4
      dsimp only [nul] at r0 r1 r2 r3
      simp only [Nat.zero_add] at r1 r2 r3
      have f0 := br.free 0
      have f1 := br.free 1
      have f2 := br.free 2
      have f3 := br.free 3
      have lt1 := br.lt
      have lt2 : w.heap.size < wr.heap.size + 1 := by omega
      have lt3 : w.heap.size < wr.heap.size + 1 + 1 := by omega
      have Be := below_trans Bw hB
      replace hv := hv.later hB
      clear br bxr
      subst h1
      have hao' := hao.out
      subst hao'
      obtain ⟨c0, c1, c2, c3⟩ := (h4.later Be)
      have hg := (h4.later Be).lt
      have hg2 : bl < wr.heap.size + 1 := by omega
      have hg3 : bl < wr.heap.size + 1 + 1 := by omega
      dsimp only at c0 c1 c2 c3
      obtain ⟨d0, d1, d2, d3⟩ := (g4.later Be)
      dsimp only at d0 d1 d2 d3
      have d1' : wr.cell? ⟨bl, off + 5, none⟩ = some (.int .i64 bn) := d1
      clear g4
      clear h4 hv hao
      go_wp2_with (first
        | (go_at_call 70; refine (rnumber7_any _ _ _ _ _).mono ?_; rintro e wc ⟨rfl, os3, n3, rfl⟩))
      refine bodyPost_ret_by (v := .tuple #[va 0 0 0 ⟨#[]⟩, .int .i64 31]) ?_ rfl ⟨rfl, ?_⟩
      · simp [results, Tryz.results23, go_sem, r0, r1, r2, r3, lt1]
      · refine below_trans (Be.setCell (p := ⟨w.heap.size, 0, none⟩) (Nat.le_refl _) (.int .i64 0) |>.setCell (p := ⟨w.heap.size, 1, none⟩) (Nat.le_refl _) (.int .i64 0) |>.setCell (p := ⟨w.heap.size, 2, none⟩) (Nat.le_refl _) (.int .i64 0) |>.setCell (p := ⟨w.heap.size, 3, none⟩) (Nat.le_refl _) (.string ⟨#[]⟩)) (Grown.below ?_)
        repeat (first | assumption | exact Grown.refl _ | apply Grown.drew | apply Grown.drewN | apply Grown.alloc | apply Grown.more | apply Grown.drawTo)
end Go.Proofs.YtgapmofhnjfdiaaGreatDoor
