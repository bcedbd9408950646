/-
  The law's same: rows of tokens that are the same.
  The walk of LexerSplits: for every text.
-/
import Derived.Test.YtlfeficldhlbaaaGreatDoorLRight
import Derived.Test.YtlfeficldhlbaaaGreatDoorMB
import Derived.Deep.RegionHeld2
import Derived.Test.YtlfeficldhlbaaaGreatDoorMD
import Derived.Test.YtlfeficldhlbaaaGreatDoorLKnow
namespace Go.Proofs.YtlfeficldhlbaaaGreatDoor
open Go.RowKit Go.Shelf
attribute [local go_sem] cell?_more frozen?_more setCell_more more_lt more_more more_drew more_drewN setCell_drewN alloc_drewN

set_option maxRecDepth 20000 in
set_option maxHeartbeats 4000000 in
theorem same5_true (ao ao2 : Option Addr) (cap cap2 : Nat) (xs ys : List Ti) (w : World) (hx : Tw w ao xs) (hy : Tw w ao2 ys) (hn : xs.length ≤ 140737488351232) (hlen : ys.length = xs.length)
    (heq : ∀ i (h : i < xs.length) (h' : i < ys.length), xs[i].k = ys[i].k ∧ xs[i].t = ys[i].t ∧ xs[i].v = ys[i].v ∧ xs[i].a = ys[i].a) :
    Calls Tryz.prog 11 #[.slice ao xs.length cap, .slice ao2 ys.length cap2, .bool true] w fun e w' => e = .returned (.bool true) ∧ Below w.heap.size w w' := by
  obtain ⟨n, hnn⟩ : ∃ n, xs.length = n := ⟨_, rfl⟩
  have HN : Hid (xs.length = n) := hnn
  have HM : Hid (ys.length = n) := hlen.trans hnn
  have HE : Hid (∀ i (h : i < xs.length) (h' : i < ys.length), xs[i].k = ys[i].k ∧ xs[i].t = ys[i].t ∧ xs[i].v = ys[i].v ∧ xs[i].a = ys[i].a) := heq
  rw [hlen, hnn]
  rw [hnn] at hn
  clear hnn hlen heq
  go_enter Tryz.func11, Tryz.ntmps11
  go_wp2
  go_loopw [7] (fun r7 wr => ∃ k : Nat, r7 = .int .i64 (k : Int) ∧ k ≤ n ∧ Below w.heap.size w wr) (fun r _ => n - (intOf r).toNat)
  case atStart => exact ⟨0, rfl, Nat.zero_le _, Below.refl _ _⟩
  case round =>
    obtain ⟨k, rfl, hk, hbw⟩ := hrel
    have sB := hbw.size
    by_cases hlt : k < n
    · have hlt' : (k : Int) < (n : Int) := by omega
      have j0 : (0 : Int) ≤ (k : Int) := by omega
      have kx : k < xs.length := by rw [HN.out]; exact hlt
      have ky : k < ys.length := by rw [HM.out]; exact hlt
      obtain ⟨b, off, rfl, hc⟩ := hx (by omega)
      obtain ⟨b2, off2, rfl, hc2⟩ := hy (by omega)
      have h1 := (hc k kx).later hbw
      have h2 := (hc2 k ky).later hbw
      have hb := h1.lt
      have hb2 := h2.lt
      have he := HE.out k kx ky
      generalize xs[k] = x at h1 he
      generalize ys[k] = y at h2 he
      obtain ⟨xk, xt, xv, xa⟩ := x
      obtain ⟨yk, yt, yv, ya⟩ := y
      obtain ⟨e1, e2, e3, e4⟩ := he
      simp only at e1 e2 e3 e4
      subst e1; subst e2; subst e3
      obtain ⟨c0, c1, c2, c3, c4, c5, c6⟩ := h1
      obtain ⟨d0, d1, d2, d3, d4, d5, d6⟩ := h2
      have Sm : ∀ W, Calls Tryz.prog 24 #[va xv.k xv.n xv.m ⟨xv.b.toArray⟩, va xv.k xv.n xv.m ⟨xv.b.toArray⟩] W fun e w' => e = .returned (.bool true) ∧ Grew W w' := fun W => by
        have := rsame_any xv.k xv.n xv.m ⟨xv.b.toArray⟩ xv.k xv.n xv.m ⟨xv.b.toArray⟩ W
        simpa using this
      clear hc hc2 hx hy HE HN HM
      subst e4
      go_wp2
      go_region_held2 (fun W => W.cell? ⟨b, off + k * 7, none⟩ = some (.int .i64 xk) ∧ W.cell? ⟨b, off + k * 7 + 1, none⟩ = some (.string ⟨xt.toArray⟩) ∧ W.cell? ⟨b, off + k * 7 + 2, none⟩ = some (.int .i64 xv.k) ∧ W.cell? ⟨b, off + k * 7 + 3, none⟩ = some (.int .i64 xv.n) ∧ W.cell? ⟨b, off + k * 7 + 4, none⟩ = some (.int .i64 xv.m) ∧ W.cell? ⟨b, off + k * 7 + 5, none⟩ = some (.string ⟨xv.b.toArray⟩) ∧ W.cell? ⟨b, off + k * 7 + 6, none⟩ = some (.int .i64 xa) ∧ W.cell? ⟨b2, off2 + k * 7, none⟩ = some (.int .i64 xk) ∧ W.cell? ⟨b2, off2 + k * 7 + 1, none⟩ = some (.string ⟨xt.toArray⟩) ∧ W.cell? ⟨b2, off2 + k * 7 + 2, none⟩ = some (.int .i64 xv.k) ∧ W.cell? ⟨b2, off2 + k * 7 + 3, none⟩ = some (.int .i64 xv.n) ∧ W.cell? ⟨b2, off2 + k * 7 + 4, none⟩ = some (.int .i64 xv.m) ∧ W.cell? ⟨b2, off2 + k * 7 + 5, none⟩ = some (.string ⟨xv.b.toArray⟩) ∧ W.cell? ⟨b2, off2 + k * 7 + 6, none⟩ = some (.int .i64 xa)) (simp (maxDischargeDepth := 12) [go_sem, c0, c1, c2, c3, c4, c5, c6, d0, d1, d2, d3, d4, d5, d6, hb, hb2]) ((go_at_call 24; refine (Sm _).mono ?_; rintro e w' ⟨rfl, os1, n1, rfl⟩))
      all_goals go_wp2
      all_goals exact ⟨⟨k + 1, by rw [cast1], by omega, hbw.trans ((Grew.below (by repeat (first | assumption | exact Grew.refl _ | apply Grew.drew | apply Grew.drewN | apply Grew.alloc | apply Grew.more))).mono sB)⟩, by simp [intOf] <;> omega⟩
    · have hlt' : ¬ (k : Int) < (n : Int) := by omega
      go_wp2
      go_ret
      exact ⟨rfl, hbw⟩
end Go.Proofs.YtlfeficldhlbaaaGreatDoor

namespace Go.Proofs.YtlfeficldhlbaaaGreatDoor
open Go.RowKit Go.Shelf
attribute [local go_sem] cell?_more frozen?_more setCell_more more_lt more_more more_drew more_drewN setCell_drewN alloc_drewN

abbrev Know (w : World) : Prop := ∀ W, Below w.heap.size w W → Calls Tryz.prog 13 #[] W fun e w' => e = .returned (.bool true) ∧ Below W.heap.size W w'
theorem know_of {w : World} (hT : Tabs w) (hP : Ptab w) : Know w := fun W h => knows5_any W (hT.later h) (hP.later h)

theorem lex_count (l : List UInt8) : ∀ i x, lexL vz dpv l i = some x → x.length ≤ l.length := by
  induction h : l.length using Nat.strongRecOn generalizing l with
  | ind m ih =>
    intro i x hx
    match x, hx with
    | [], _ => simp
    | t :: x, hx =>
      obtain ⟨_, _, h3, h4, _, h6⟩ := lex_first hx
      have := ih (l.drop (blankN l + t.t.length)).length (by rw [List.length_drop]; omega) _ rfl _ _ h6
      rw [List.length_drop] at this
      simp; omega

theorem Rowns.shape {w : World} {base : Nat} {v : Value} {x : List Tok} (h : Rowns w base v x) :
    ∃ ao cap, v = .slice ao x.length cap ∧ Tw w ao (x.map tin) := by
  obtain ⟨h1, h2⟩ := h
  rcases h2 with ⟨rfl, hn⟩ | ⟨g, cap, cur, rfl, hb, hg, hnc, hcm, hcs, htake⟩
  · refine ⟨none, 0, by rw [hn], fun hp => ?_⟩
    rw [List.length_map] at hp
    omega
  · refine ⟨some ⟨g, 0, none⟩, cap, rfl, fun hp => ⟨g, 0, rfl, fun i hi => ?_⟩⟩
    rw [List.length_map] at hi
    have hc : ∀ j, j < 7 → w.cell? ⟨g, 0 + i * 7 + j, none⟩ = (tcs x[i])[j]? := by
      intro j hj
      rw [← tcells_at x i j hi hj, cell_of_row w g (0 + i * 7 + j) cur _ (0, 0) hg, ← htake]
      rw [List.getElem?_take, if_pos (by omega), Nat.zero_add]
      simp
    rw [List.getElem_map]
    exact ⟨hc 0 (by decide), hc 1 (by decide), hc 2 (by decide), hc 3 (by decide), hc 4 (by decide), hc 5 (by decide), hc 6 (by decide)⟩

theorem rsplit_big (B : ByteArray) (w : World) (hl : 4096 < B.size) :
    Calls Tryz.prog 10 #[.string B] w fun e w' => e = .returned (.tuple #[.slice none 0 0, .int .i64 6]) ∧ w = w' := by
  have hl' : (4096 : Int) < (B.size : Int) := by omega
  go_enter Tryz.func10, Tryz.ntmps10
  go_wp2
  refine bodyPost_ret_by (v := .tuple #[.slice none 0 0, .int .i64 6]) ?_ rfl ⟨rfl, rfl⟩
  simp [results, Tryz.results10, go_sem]

set_option maxHeartbeats 4000000 in
theorem spl_walk (S : ByteArray) (E : Int) (x : List Tok) (w : World) (hxl : x.length ≤ 4096) (K : Know w)
    (CS : ∀ W, Below w.heap.size w W → Calls Tryz.prog 9 #[.string S] W fun e w' => (∃ v, e = .returned (.tuple #[v, .int .i64 E]) ∧ Towns w' W.heap.size v x) ∧ Below W.heap.size W w')
    (CR : ∀ W, Calls Tryz.prog 10 #[.string S] W fun e w' => (∃ v, e = .returned (.tuple #[v, .int .i64 E]) ∧ Rowns w' W.heap.size v x) ∧ Below W.heap.size W w') :
    Calls Tryz.prog 3 #[.string S] w fun e w' => e = .returned (.bool true) ∧ Below w.heap.size w w' := by
  have N := fun n W => num5_any n W
  go_enter Tryz.func3, Tryz.ntmps3
  go_wp2_with (first
    | (go_at_call 9; refine (CS _ (Below.refl _ _)).mono ?_; rintro e w1 ⟨⟨v1, rfl, ho1⟩, b1⟩; obtain ⟨ao, cap, rfl, hw1⟩ := ho1.shape; clear ho1)
    | (go_at_call 10; refine (CR _).mono ?_; rintro e w2 ⟨⟨v2, rfl, ho2⟩, b2⟩; have B2 := below_trans b1 b2; obtain ⟨ao2, cap2, rfl, hw2⟩ := ho2.shape; clear ho2; have hx2 : Tw w2 ao (x.map tin) := hw1.later b2; have SM : Calls Tryz.prog 11 #[.slice ao x.length cap, .slice ao2 x.length cap2, .bool true] w2 (fun e w' => e = .returned (.bool true) ∧ Below w2.heap.size w2 w') := (by have := same5_true ao ao2 cap cap2 (x.map tin) (x.map tin) w2 hx2 hw2 (by rw [List.length_map]; omega) rfl (fun i h h' => ⟨rfl, rfl, rfl, rfl⟩); rw [List.length_map] at this; exact this); clear hw1 hw2 hx2 b1 b2)
    | (go_at_call 11; refine SM.mono ?_; rintro e w3 ⟨rfl, b3⟩; have B3 := below_trans B2 b3; clear SM)
    | (go_at_call 12; refine (N _ _).mono ?_; rintro e w' ⟨rfl, rfl⟩)
    | (go_at_call 13; refine (K _ B3).mono ?_; rintro e w4 ⟨rfl, b4⟩))
  go_ret
  exact ⟨rfl, below_trans B3 b4⟩

theorem spl_any (l : List UInt8) (w : World) (hT : Tabs w) (hP : Ptab w) :
    Calls Tryz.prog 3 #[.string ⟨l.toArray⟩] w fun e w' => e = .returned (.bool true) ∧ Below w.heap.size w w' := by
  have K := know_of hT hP
  by_cases hl : l.length ≤ 4096
  · have CS : ∀ W, Below w.heap.size w W → _ := fun W h => split_any l W hl (hT.later h) (hP.later h)
    have CR := fun W => rsplit_any l W hl
    cases hx : lexL vz dpv l 0 with
    | none =>
      rw [hx] at CS CR
      exact spl_walk _ 30 [] w (by simp) K (fun W h => (CS W h).mono fun e w' ⟨h1, h2⟩ => ⟨⟨_, h1, World.ownsRow_nil _ _ _ _⟩, h2⟩) (fun W => (CR W).mono fun e w' ⟨h1, h2⟩ => ⟨⟨_, h1, World.ownsRow_nil _ _ _ _⟩, h2⟩)
    | some x =>
      rw [hx] at CS CR
      exact spl_walk _ 0 x w (Nat.le_trans (lex_count l 0 x hx) hl) K CS CR
  · refine spl_walk _ 6 [] w (by simp) K (fun W _ => (split_big ⟨l.toArray⟩ W (by show 4096 < l.length; omega)).mono ?_) (fun W => (rsplit_big ⟨l.toArray⟩ W (by show 4096 < l.length; omega)).mono ?_)
    · rintro e w' ⟨rfl, rfl⟩
      exact ⟨⟨_, rfl, World.ownsRow_nil _ _ _ _⟩, Below.refl _ _⟩
    · rintro e w' ⟨rfl, rfl⟩
      exact ⟨⟨_, rfl, World.ownsRow_nil _ _ _ _⟩, Below.refl _ _⟩

theorem spl_anyB (S : ByteArray) (w : World) (hT : Tabs w) (hP : Ptab w) :
    Calls Tryz.prog 3 #[.string S] w fun e w' => e = .returned (.bool true) ∧ Below w.heap.size w w' := by
  obtain ⟨⟨l⟩⟩ := S
  exact spl_any l w hT hP
end Go.Proofs.YtlfeficldhlbaaaGreatDoor
