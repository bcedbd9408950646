/-
  The law's same: rows of tokens that are the same.
-/
import Derived.Test.YtoadhfcjegfanaaGreatDoorLRight
import Derived.Test.YtoadhfcjegfanaaGreatDoorMGVRef
import Derived.Deep.RegionHeld2
namespace Go.Proofs.YtoadhfcjegfanaaGreatDoor
open Go.RowKit Go.Shelf
attribute [local go_sem] cell?_more frozen?_more setCell_more more_lt more_more more_drew more_drewN setCell_drewN alloc_drewN

set_option maxRecDepth 20000 in
set_option maxHeartbeats 4000000 in
theorem same5_true (ao ao2 : Option Addr) (cap cap2 : Nat) (xs ys : List Ti) (w : World) (hx : Tw w ao xs) (hy : Tw w ao2 ys) (hn : xs.length ≤ 140737488351232) (hlen : ys.length = xs.length)
    (heq : ∀ i (h : i < xs.length) (h' : i < ys.length), xs[i].k = ys[i].k ∧ xs[i].t = ys[i].t ∧ xs[i].v = ys[i].v ∧ xs[i].a = ys[i].a) :
    Calls Tryz.prog 16 #[.slice ao xs.length cap, .slice ao2 ys.length cap2, .bool true] w fun e w' => e = .returned (.bool true) ∧ Below w.heap.size w w' := by
  obtain ⟨n, hnn⟩ : ∃ n, xs.length = n := ⟨_, rfl⟩
  have HN : Hid (xs.length = n) := hnn
  have HM : Hid (ys.length = n) := hlen.trans hnn
  have HE : Hid (∀ i (h : i < xs.length) (h' : i < ys.length), xs[i].k = ys[i].k ∧ xs[i].t = ys[i].t ∧ xs[i].v = ys[i].v ∧ xs[i].a = ys[i].a) := heq
  rw [hlen, hnn]
  rw [hnn] at hn
  clear hnn hlen heq
  go_enter Tryz.func16, Tryz.ntmps16
  go_wp2
  go_loopw [7] (fun r7 wr => ∃ k : Nat, r7 = .int .i64 (k : Int) ∧ k ≤ n ∧ Below w.heap.size w wr) (fun r _ => n - (intOf r).toNat)
  case atStart => exact ⟨0, rfl, Nat.zero_le _, Below.refl _ _⟩
  case round =>
    obtain ⟨k, rfl, hk, hbw⟩ := hrel
    have sB := hbw.size
    by_cases hlt : k < n
    · have hlt' : (k : Int) < (n : Int) := by omega
      have j0 : (0 : Int) ≤ (k : Int) := by omega
      have kx : k < xs.length := by rw [HN.out]; exact hlt
      have ky : k < ys.length := by rw [HM.out]; exact hlt
      obtain ⟨b, off, rfl, hc⟩ := hx (by omega)
      obtain ⟨b2, off2, rfl, hc2⟩ := hy (by omega)
      have h1 := (hc k kx).later hbw
      have h2 := (hc2 k ky).later hbw
      have hb := h1.lt
      have hb2 := h2.lt
      have he := HE.out k kx ky
      generalize xs[k] = x at h1 he
      generalize ys[k] = y at h2 he
      obtain ⟨xk, xt, xv, xa⟩ := x
      obtain ⟨yk, yt, yv, ya⟩ := y
      obtain ⟨e1, e2, e3, e4⟩ := he
      simp only at e1 e2 e3 e4
      subst e1; subst e2; subst e3
      obtain ⟨c0, c1, c2, c3, c4, c5, c6⟩ := h1
      obtain ⟨d0, d1, d2, d3, d4, d5, d6⟩ := h2
      have Sm : ∀ W, Calls Tryz.prog 36 #[va xv.k xv.n xv.m ⟨xv.b.toArray⟩, va xv.k xv.n xv.m ⟨xv.b.toArray⟩] W fun e w' => e = .returned (.bool true) ∧ Grew W w' := fun W => by
        have := rsame_any xv.k xv.n xv.m ⟨xv.b.toArray⟩ xv.k xv.n xv.m ⟨xv.b.toArray⟩ W
        simpa using this
      clear hc hc2 hx hy HE HN HM
      subst e4
      go_wp2
      go_region_held2 (fun W => W.cell? ⟨b, off + k * 7, none⟩ = some (.int .i64 xk) ∧ W.cell? ⟨b, off + k * 7 + 1, none⟩ = some (.string ⟨xt.toArray⟩) ∧ W.cell? ⟨b, off + k * 7 + 2, none⟩ = some (.int .i64 xv.k) ∧ W.cell? ⟨b, off + k * 7 + 3, none⟩ = some (.int .i64 xv.n) ∧ W.cell? ⟨b, off + k * 7 + 4, none⟩ = some (.int .i64 xv.m) ∧ W.cell? ⟨b, off + k * 7 + 5, none⟩ = some (.string ⟨xv.b.toArray⟩) ∧ W.cell? ⟨b, off + k * 7 + 6, none⟩ = some (.int .i64 xa) ∧ W.cell? ⟨b2, off2 + k * 7, none⟩ = some (.int .i64 xk) ∧ W.cell? ⟨b2, off2 + k * 7 + 1, none⟩ = some (.string ⟨xt.toArray⟩) ∧ W.cell? ⟨b2, off2 + k * 7 + 2, none⟩ = some (.int .i64 xv.k) ∧ W.cell? ⟨b2, off2 + k * 7 + 3, none⟩ = some (.int .i64 xv.n) ∧ W.cell? ⟨b2, off2 + k * 7 + 4, none⟩ = some (.int .i64 xv.m) ∧ W.cell? ⟨b2, off2 + k * 7 + 5, none⟩ = some (.string ⟨xv.b.toArray⟩) ∧ W.cell? ⟨b2, off2 + k * 7 + 6, none⟩ = some (.int .i64 xa)) (simp (maxDischargeDepth := 12) [go_sem, c0, c1, c2, c3, c4, c5, c6, d0, d1, d2, d3, d4, d5, d6, hb, hb2]) ((go_at_call 36; refine (Sm _).mono ?_; rintro e w' ⟨rfl, os1, n1, rfl⟩))
      all_goals go_wp2
      all_goals exact ⟨⟨k + 1, by rw [cast1], by omega, hbw.trans ((Grew.below (by repeat (first | assumption | exact Grew.refl _ | apply Grew.drew | apply Grew.drewN | apply Grew.alloc | apply Grew.more))).mono sB)⟩, by simp [intOf] <;> omega⟩
    · have hlt' : ¬ (k : Int) < (n : Int) := by omega
      go_wp2
      go_ret
      exact ⟨rfl, hbw⟩
end Go.Proofs.YtoadhfcjegfanaaGreatDoor
