/-
  The contract of expr.Read.
  Names of nodes that came in are not too long.
  The contract of longstoplaw06.Own: the program's nodes out of the document's.
-/
import Derived.Test.YtclhmmgdhagloaaGreatDoorMLEUn2
import Derived.Test.YtclhmmgdhagloaaGreatDoorMALSplit
import Derived.Deep.RegionHeld3
import Derived.Deep.AppendLies
namespace Go.Proofs.YtclhmmgdhagloaaGreatDoor
open Go.RowKit Go.Shelf
attribute [local go_sem] cell?_more frozen?_more setCell_more more_lt more_more more_drew more_drewN setCell_drewN alloc_drewN

theorem ncells_at (x : List Nd) : ∀ (i j : Nat) (hi : i < x.length), j < 8 → (ncells x)[i * 8 + j]? = (ncs x[i])[j]? := by
  induction x with
  | nil => intro i j hi; simp at hi
  | cons t x ih =>
    intro i j hi hj
    have e : ncells (t :: x) = (ncs t).toList ++ ncells x := by simp [ncells]
    rw [e]
    cases i with
    | zero =>
      rw [List.getElem?_append_left (by simpa using hj)]
      simp
    | succ i =>
      rw [List.getElem?_append_right (by simp; omega)]
      simp at hi
      have := ih i j hi hj
      simp only [List.getElem_cons_succ]
      rw [← this]
      congr 1
      simp; omega
/-- A slice of nodes of one's own, as what is called sees it. -/
theorem Nowns.lies {w : World} {base : Nat} {v : Value} {x : List Nd} (h : Nowns w base v x) :
    ∃ ao cap, v = .slice ao x.length cap ∧ Nw w ao x := by
  obtain ⟨h1, h2⟩ := h
  rcases h2 with ⟨rfl, hn⟩ | ⟨g, cap, cur, rfl, hb, hg, hnc, hcm, hcs, htake⟩
  · exact ⟨none, 0, by rw [hn], fun hp => by omega⟩
  · refine ⟨some ⟨g, 0, none⟩, cap, rfl, fun hp => ⟨g, 0, rfl, fun i hi => ?_⟩⟩
    have hc : ∀ j, j < 8 → w.cell? ⟨g, 0 + i * 8 + j, none⟩ = (ncs x[i])[j]? := by
      intro j hj
      rw [← ncells_at x i j hi hj, cell_of_row w g (0 + i * 8 + j) cur _ (0, 0) hg, ← htake]
      rw [List.getElem?_take, if_pos (by omega), Nat.zero_add]
      simp
    exact ⟨hc 0 (by decide), hc 1 (by decide), hc 2 (by decide), hc 3 (by decide), hc 4 (by decide), hc 5 (by decide), hc 6 (by decide), hc 7 (by decide)⟩

/-- Nodes whose names are short. -/
def shN (l : List Nd) : Prop := ∀ x ∈ l, x.t.length ≤ 140737488351232 ∧ x.n.length ≤ 140737488351232
/-- May a node be? One with names beyond all bounds may not. -/
theorem depth_of (ao : Option Addr) (cap : Nat) (l : List Nd) (w : World) (hv : Nw w ao l) (hn : l.length ≤ 140737488351232) (hs : shN l) (hT : Tabs w) :
    Calls Tryz.prog 11 #[.slice ao l.length cap] w fun e w' => e = .returned (.int .i64 (depN mayN l : Int)) ∧ Below w.heap.size w w' :=
  depth_any mayN ao cap l w hv hn mayN_ops (fun x hx W h => mayBe_any x W (hT.later h) (hs x hx).1 (hs x hx).2)

theorem right_of (ao : Option Addr) (cap : Nat) (l : List Nd) (w : World) (hv : Nw w ao l) (hn : l.length ≤ 140737488351232) (hs : shN l) (hT : Tabs w) :
    Calls Tryz.prog 9 #[.slice ao l.length cap] w fun e w' => e = .returned (.bool (decide (0 < depN mayN l))) ∧ Below w.heap.size w w' := by
  have D := depth_of ao cap l w hv hn hs hT
  generalize depN mayN l = d at *
  have e : decide (0 < d) = decide ((0 : Int) < (d : Int)) := by simp
  rw [e]
  clear e hv hs hT
  go_enter Tryz.func9, Tryz.ntmps9
  go_wp2_with (go_at_call 11; refine D.mono ?_; rintro e w1 ⟨rfl, b1⟩)
  go_ret
  exact ⟨by show Ending.returned _ = _; congr 2; simp, b1⟩

/-- What Read answers. -/
def readP (R : Rz) (base : Nat) (e : Ending) (w' : World) : Prop :=
  if R.1 = 0 then (if 0 < depN mayN R.2.2 then ∃ v, e = .returned (.tuple #[v, .int .i64 (R.2.1 : Int), .int .i64 0]) ∧ Nowns w' base v R.2.2 else e = .returned (.tuple #[.slice none 0 0, .int .i64 0, .int .i64 38]))
  else e = .returned (.tuple #[.slice none 0 0, .int .i64 0, .int .i64 (R.1 : Int)])

set_option maxRecDepth 20000 in
set_option maxHeartbeats 4000000 in
theorem read_any (ao : Option Addr) (ts : List Ti) (cap : Nat) (V : List UInt8 → Option Va) (w : World) (E : Env w ao ts) (PA : Pars w ts V) (R : Rz) (hR : rdx (nxt ts) V (ts.length + 1) (7 + 8 * ts.length) .ex 0 [] 0 = R) (hsh : shN R.2.2) :
    Calls Tryz.prog 43 #[.slice ao ts.length cap] w fun e w' => readP R w.heap.size e w' ∧ Below w.heap.size w w' := by
  have A0 := (Below.refl w.heap.size w).alloc (Nat.le_refl _) (.cells (rcs ao ts.length cap 0 tz (.slice none 0 0) 0) 114)
  have B0 : Rb (w.alloc (.cells (rcs ao ts.length cap 0 tz (.slice none 0 0) 0) 114)) w.heap.size ao ts.length cap ((0 : Nat) : Int) tz (.slice none 0 0) 0 := Cbox.new w _ _
  have L := look_any w w.heap.size ao ts cap 0 0 tz (.slice none 0 0) _ E A0 (Nat.le_refl _) B0
  have X : Hid (∀ W, Stt w ao ts cap w.heap.size W 0 (.slice none 0 0) [] 0 → Does w ao ts cap w.heap.size 74 0 0 [] (.slice none 0 0) W R) := fun W h => by
    have := all_parts w ao ts cap w.heap.size E V PA (7 + 8 * ts.length) .ex 0 [] (.slice none 0 0) W 0 h (by simp [NT.rank])
    rw [hR] at this
    exact this
  have HT : Hid (Tabs w) := E.tabs
  clear E PA hR
  obtain ⟨re, rk, rc⟩ := R
  simp only at hsh
  go_enter Tryz.func43, Tryz.ntmps43
  go_wp2_with fail
  refine L.mono ?_
  rintro e w1 ⟨rfl, h1, g1⟩
  have S1 : Stt w ao ts cap w.heap.size w1 0 (.slice none 0 0) [] 0 := ⟨g1.below A0 (by simp) (Nat.le_refl _) (fun k e => by cases e), Nat.le_refl _, h1, World.ownsRow_nil _ _ _ _, Nat.zero_le _, by simp, by omega⟩
  have X1 := X.out w1 S1
  unfold Does at X1
  simp only at X1
  clear L X S1 h1 g1 A0 B0
  go_wp2_with fail
  refine X1.mono ?_
  rintro e w2 ⟨rfl, ⟨n2, S2, G2⟩, _⟩
  clear X1 G2
  by_cases hre : re = 0
  case neg =>
    have hre' : ¬ (re : Int) = 0 := by omega
    have b2 := S2.low
    clear S2
    go_wp2
    refine bodyPost_ret_by (v := .tuple #[.slice none 0 0, .int .i64 0, .int .i64 (re : Int)]) ?_ rfl ⟨by unfold readP; rw [if_neg hre], b2⟩
    simp [results, Tryz.results43, go_sem]
  subst hre
  obtain ⟨na, nc, rfl, hnw⟩ := S2.own.lies
  have c9 := S2.rb.at 9
  have c1 := S2.rb.at 1
  have hl2 := S2.rb.lt
  have hfew := S2.few
  have RI := right_of na nc rc w2 hnw (by omega) hsh (HT.out.later S2.low)
  have HS2 : Hid (Stt w ao ts cap w.heap.size w2 rk (.slice na rc.length nc) rc 0) := S2
  clear S2 hnw hsh
  by_cases hd : 0 < depN mayN rc
  · rw [decide_eq_true hd] at RI
    have HD : Hid (0 < depN mayN rc) := hd
    clear hd
    go_wp2_with fail
    refine RI.mono ?_
    rintro e w3 ⟨rfl, b3⟩
    have S3 := HS2.out.later b3
    have d9 := S3.rb.at 9
    have d1 := S3.rb.at 1
    have hl3 := S3.rb.lt
    have ho3 := S3.own
    have hb3 := S3.low
    clear S3 HS2 RI c9 c1 hl2
    go_wp2
    go_region
    all_goals go_wp2
    all_goals refine bodyPost_ret_by (v := .tuple #[.slice na rc.length nc, .int .i64 (rk : Int), .int .i64 0]) ?_ rfl ⟨by unfold readP; rw [if_pos rfl, if_pos HD.out]; exact ⟨_, rfl, ho3⟩, by first | exact hb3 | exact hb3.drew⟩
    all_goals simp [results, Tryz.results43, go_sem]
  · rw [decide_eq_false hd] at RI
    have HD : Hid (¬ 0 < depN mayN rc) := hd
    have b2 := HS2.out.low
    clear hd
    go_wp2_with fail
    refine RI.mono ?_
    rintro e w3 ⟨rfl, b3⟩
    go_wp2
    refine bodyPost_ret_by (v := .tuple #[.slice none 0 0, .int .i64 0, .int .i64 38]) ?_ rfl ⟨by unfold readP; rw [if_pos rfl, if_neg HD.out], below_trans b2 b3⟩
    simp [results, Tryz.results43, go_sem]
end Go.Proofs.YtclhmmgdhagloaaGreatDoor

namespace Go.Proofs.YtclhmmgdhagloaaGreatDoor
open Go.ChangeShapes Go.WideShapes Go.ChangeAt Go.WideMaps Go.WideElems Go.RowKit Go.Shelf Go.Lib

/-- Names of nodes that came in are no longer than what can be reached. -/
theorem sh_of {H : Type} {ts : List TypeId} {ds : List (DataW H)} {j : Nat} {d : DataW H} {l : List Nd} (h : (DataW.weightsEach Tryz.prog ts ds).all (· ≤ reachBytes) = true) (ht : ts[j]? = some 22) (hd : ds[j]? = some d)
    (hl : ∀ v ∈ l, v.t.length ∈ d.weights Tryz.prog 22 ∧ v.n.length ∈ d.weights Tryz.prog 22) : shN l := by
  intro x hx
  have h1 := List.all_eq_true.1 h _ (DataW.weights_mem_each ht hd _ (hl x hx).1)
  have h2 := List.all_eq_true.1 h _ (DataW.weights_mem_each ht hd _ (hl x hx).2)
  simp only [decide_eq_true_eq] at h1 h2
  exact ⟨h1, h2⟩
end Go.Proofs.YtclhmmgdhagloaaGreatDoor

namespace Go.Proofs.YtclhmmgdhagloaaGreatDoor
open Go.RowKit Go.Shelf
attribute [local go_sem] cell?_more frozen?_more setCell_more more_lt more_more more_drew more_drewN setCell_drewN alloc_drewN

set_option maxRecDepth 20000 in
set_option maxHeartbeats 4000000 in
theorem own6_any (ao : Option Addr) (cap : Nat) (xs : List Nd) (w : World) (hv : Nw w ao xs) (hn : xs.length * 88 ≤ 140737488351232) :
    Calls Tryz.prog 8 #[.slice ao xs.length cap] w fun e w' => (∃ ao' cap', e = .returned (.slice ao' xs.length cap') ∧ Nw w' ao' xs ∧ Nowns w' w.heap.size (.slice ao' xs.length cap') xs) ∧ Below w.heap.size w w' := by
  obtain ⟨i0, hi, hz0, hz1, hz2⟩ := info_parts infoNd
  obtain ⟨n, hnn⟩ : ∃ n, xs.length = n := ⟨_, rfl⟩
  rw [hnn] at hn ⊢
  have HN : Hid (xs.length = n) := hnn
  clear hnn
  go_enter Tryz.func8, Tryz.ntmps8
  go_wp2
  go_loopw [3, 4] (fun r3 r4 wr => ∃ k : Nat, r4 = .int .i64 (k : Int) ∧ k ≤ n ∧ Nowns wr w.heap.size r3 (xs.take k) ∧ Below w.heap.size w wr) (fun _ r _ => n - (intOf r).toNat)
  case atStart => exact ⟨0, rfl, Nat.zero_le _, World.ownsRow_nil _ _ _ _, Below.refl _ _⟩
  case round =>
    obtain ⟨k, rfl, hk, ho, hB⟩ := hrel
    have sB := hB.size
    by_cases hlt : k < n
    · have hlt' : (k : Int) < (n : Int) := by omega
      have k0 : (0 : Int) ≤ (k : Int) := by omega
      have hkl : k < xs.length := by rw [HN.out]; exact hlt
      obtain ⟨b, off, rfl, hc⟩ := hv (by omega)
      obtain ⟨c0, c1, c2, c3, c4, c5, c6, c7⟩ := ((hc k (by omega)).later hB)
      have hg := (hc k (by omega)).lt
      have hg' : b < wr.heap.size := by omega
      have htk : xs.take (k + 1) = xs.take k ++ [xs[k]] := List.take_succ_eq_append_getElem hkl
      have hlk : (xs.take k).length = k := by rw [List.length_take]; omega
      obtain ⟨x, he⟩ : ∃ x : Nd, x = xs[k] := ⟨_, rfl⟩
      rw [← he] at c0 c1 c2 c3 c4 c5 c6 c7 htk
      have HT : Hid (xs.take (k + 1) = xs.take k ++ [x]) := htk
      have HL : Hid ((xs.take k).length = k) := hlk
      have ho' : wr.ownsRow w.heap.size 44 8 u3 k (ncells (xs.take k)) := by rw [← hlk]; rw [hlk]; have := ho; unfold Nowns at this; rw [hlk] at this; exact this
      obtain ⟨xo, xt, xn, xv, xa⟩ := x
      clear hc he htk hlk ho
      go_wp2_with fail
      go_region_held3 (fun W => W.cell? ⟨b, off + k * 8, none⟩ = some (.int .i64 xo) ∧ W.cell? ⟨b, off + k * 8 + 1, none⟩ = some (.string ⟨xt.toArray⟩) ∧ W.cell? ⟨b, off + k * 8 + 2, none⟩ = some (.string ⟨xn.toArray⟩) ∧ W.cell? ⟨b, off + k * 8 + 3, none⟩ = some (.int .i64 xv.k) ∧ W.cell? ⟨b, off + k * 8 + 4, none⟩ = some (.int .i64 xv.n) ∧ W.cell? ⟨b, off + k * 8 + 5, none⟩ = some (.int .i64 xv.m) ∧ W.cell? ⟨b, off + k * 8 + 6, none⟩ = some (.string ⟨xv.b.toArray⟩) ∧ W.cell? ⟨b, off + k * 8 + 7, none⟩ = some (.int .i64 xa))
        (first
          | go_keep
          | (go_split_ands
             refine ⟨?_, ?_, ?_, ?_, ?_, ?_, ?_, ?_⟩
             · (rw [hgrow.cell_far _ (by simp; omega) (by intro h; have := (World.ownsRow.lt ho' _ h.symm).1; simp at this; omega)]; assumption)
             · (rw [hgrow.cell_far _ (by simp; omega) (by intro h; have := (World.ownsRow.lt ho' _ h.symm).1; simp at this; omega)]; assumption)
             · (rw [hgrow.cell_far _ (by simp; omega) (by intro h; have := (World.ownsRow.lt ho' _ h.symm).1; simp at this; omega)]; assumption)
             · (rw [hgrow.cell_far _ (by simp; omega) (by intro h; have := (World.ownsRow.lt ho' _ h.symm).1; simp at this; omega)]; assumption)
             · (rw [hgrow.cell_far _ (by simp; omega) (by intro h; have := (World.ownsRow.lt ho' _ h.symm).1; simp at this; omega)]; assumption)
             · (rw [hgrow.cell_far _ (by simp; omega) (by intro h; have := (World.ownsRow.lt ho' _ h.symm).1; simp at this; omega)]; assumption)
             · (rw [hgrow.cell_far _ (by simp; omega) (by intro h; have := (World.ownsRow.lt ho' _ h.symm).1; simp at this; omega)]; assumption)
             · (rw [hgrow.cell_far _ (by simp; omega) (by intro h; have := (World.ownsRow.lt ho' _ h.symm).1; simp at this; omega)]; assumption)))
        ((refine step_append_lies _ (by rfl) _ _ _ (by rfl) w.heap.size 44 i0 _ 8 88 Tryz.underlying24 hi hz0 hz1 hz2 rfl (by omega) _ k (ncells (xs.take k)) (by rfl) ((World.ownsRow.alloc ho' _).drew)
            ⟨wr.heap.size, 0, none⟩ 1 1 (ncs ⟨xo, xt, xn, xv, xa⟩).toList (by rfl) (by rfl) (World.news_of_block (cs := ncs ⟨xo, xt, xn, xv, xa⟩) (t := 44) (fr := (0, 0)) (heap_alloc_new wr _)) (one_nd ⟨xo, xt, xn, xv, xa⟩)
            (by omega) (by unfold maxLen; omega) (by omega) (by simp; omega) (wr.heap.size + 1) (by simp) ?_; intro gg cap w2 hown2 hgrow hat hlt1))
      have hb2 : Below w.heap.size w w2 := ((hB.alloc sB _).drew.grown hgrow (by simp; omega) (fun k hk => (World.ownsRow.lt ho' k hk).1))
      have ho2 := Nowns.push (x := ⟨xo, xt, xn, xv, xa⟩) hown2 (by rw [HL.out])
      rw [← HT.out] at ho2
      clear hown2 hgrow ho' hat
      go_wp2
      exact ⟨⟨k + 1, by rw [cast1], by omega, ho2, hb2⟩, by simp [intOf]; omega⟩
    · have hlt' : ¬ (k : Int) < (n : Int) := by omega
      have hkn : k = n := by omega
      rw [List.take_of_length_le (by rw [HN.out]; omega)] at ho
      obtain ⟨ao', cap', hve, hw⟩ := ho.lies
      rw [HN.out] at hve
      subst hve
      go_wp2
      go_ret
      first | exact ⟨⟨ao', cap', rfl, hw, ho⟩, hB⟩ | exact ⟨⟨ao', ⟨cap', rfl, ho⟩, hw⟩, hB⟩ | exact ⟨⟨ao', hw, cap', rfl, ho⟩, hB⟩
end Go.Proofs.YtclhmmgdhagloaaGreatDoor
