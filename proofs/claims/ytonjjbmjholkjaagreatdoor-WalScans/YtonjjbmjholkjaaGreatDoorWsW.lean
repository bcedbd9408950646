/-
  The walk of WalScans.
-/
import Derived.Test.YtonjjbmjholkjaaGreatDoorWsS
import Derived.Test.YtonjjbmjholkjaaGreatDoorWsM
import Derived.Test.YtonjjbmjholkjaaGreatDoorWsLt
namespace Go.Proofs.YtonjjbmjholkjaaGreatDoor
open Go.RowKit Go.Shelf

set_option maxRecDepth 20000 in
set_option maxHeartbeats 2000000 in
theorem wscans_any (b0 : Int) (h1 : -9223372036854775808 ≤ b0) (h2 : b0 ≤ 9223372036854775807) (ao : Option Addr) (n cap : Nat) (bs : List UInt8) (w : World) (hT : Tab w) (hr : Rd w ao n cap bs) :
    Calls Tryz.prog 3 #[.int .i64 b0, .slice ao n cap] w fun e w' => e = .returned (.bool true) ∧ Below w.heap.size w w' := by
  have CK := wknows_any w hT
  by_cases hn : 20000 < n
  · have hnI : (20000 : Int) < (n : Int) := by omega
    clear hT hr
    go_enter Tryz.func3, Tryz.ntmps3
    go_wp2_with (go_at_call 5; refine CK.mono ?_; rintro e w9 ⟨rfl, b9⟩)
    go_ret
    exact ⟨rfl, b9⟩
  · have hnI : ¬ (20000 : Int) < (n : Int) := by omega
    obtain ⟨hm1, hm2⟩ : -4611686018427387904 ≤ b0.tmod 1000000 ∧ b0.tmod 1000000 ≤ 4611686018427387904 := by
      rcases (by omega : b0 < 0 ∨ 0 ≤ b0) with h | h
      · have e : b0.tmod 1000000 = -((-b0) % 1000000) := by
          rw [show b0 = -(-b0) by omega, Int.neg_tmod, Int.tmod_eq_emod_of_nonneg (by omega)]; simp
        rw [e]; omega
      · rw [Int.tmod_eq_emod_of_nonneg h]; omega
    have hwq : IntKind.i64.wrap (b0.tmod 1000000) = b0.tmod 1000000 := by rw [IntKind.wrap_i64]; omega
    have CL := lent_any ao n cap bs w hr (by omega)
    have HR : Hid (Rd w ao n cap bs) := hr
    have HT : Hid (Tab w) := hT
    clear hr hT CK
    go_enter Tryz.func3, Tryz.ntmps3
    go_wp2_with fail
    obtain ⟨q, hq⟩ : ∃ q, q = b0.tmod 1000000 := ⟨_, rfl⟩
    rw [← hq] at hm1 hm2 ⊢
    clear hq hwq
    refine CL.mono ?_
    rintro e w1 ⟨g, c, rfl, hg, m1, b1⟩
    have T1 := HT.out.later b1 HT.out.pos
    have r1 := HR.out.later b1
    have nl := HR.out.1
    have MR := m1.rd
    rw [nl] at MR
    have CS := scan_any q (some ⟨g, 0, none⟩) n c bs w1 T1 MR hm1 hm2 (by omega)
    have HM : Hid (Marked w1 g c bs ∧ Tab w1 ∧ Rd w1 ao n cap bs ∧ Below w.heap.size w w1) := ⟨m1, T1, r1, b1⟩
    clear CL m1 T1 r1 b1 MR
    go_wp2_with fail
    refine CS.mono ?_
    rintro e w2 ⟨xs, v2, rfl, hx, rowx, inx, b2⟩
    have CR := rscan_any q ao n cap bs w2 (HM.out.2.2.1.later b2) hm1 hm2 (by omega)
    clear CS
    go_wp2_with fail
    refine CR.mono ?_
    rintro e w3 ⟨ys, v3, rfl, hy, rowy, iny, b3⟩
    have hxl : xs.length ≤ 16777217 := by
      have e1 := congrArg List.length hx
      have e2 := rcs_len 0 bs
      rw [List.length_map] at e1
      omega
    have b13 : Below w1.heap.size w1 w3 := b2.trans (b3.mono b2.size)
    have CM := same_any q _ _ xs ys v2 v3 w3 (hx.trans hy.symm) (own_later rowx b3) (inx.later b3) rowy iny hxl
    have H3 : Hid (Below w1.heap.size w1 w3) := b13
    obtain ⟨ax, cx, rfl⟩ := row_len rowx
    obtain ⟨ay, cy, rfl⟩ := row_len rowy
    have hlen : ys.length = xs.length := by have := congrArg List.length (hx.trans hy.symm); simpa using this.symm
    clear CR hx hy rowx rowy inx iny b2 b3 b13 hxl hlen
    go_wp2_with (first
      | (go_at_call 9; refine CM.mono ?_; rintro e w4 ⟨rfl, b4⟩)
      | (go_at_call 10; refine (stays_any g c n ao cap bs _ (HM.out.1.later (H3.out.trans (b4.mono H3.out.size))) (HM.out.2.2.1.later (H3.out.trans (b4.mono H3.out.size)))).mono ?_; rintro e w5 ⟨rfl, nq, rfl⟩)
      | (go_at_call 5; refine (wknows_any _ (Tab.drewN (HM.out.2.1.later (H3.out.trans (b4.mono H3.out.size)) HM.out.2.1.pos) nq)).mono ?_; rintro e w9 ⟨rfl, b9⟩))
    go_ret
    have b14 := H3.out.trans (b4.mono H3.out.size)
    have bw4 := HM.out.2.2.2.trans (b14.mono HM.out.2.2.2.size)
    exact ⟨rfl, (below_drewN bw4 nq).trans (b9.mono bw4.size)⟩
end Go.Proofs.YtonjjbmjholkjaaGreatDoor
