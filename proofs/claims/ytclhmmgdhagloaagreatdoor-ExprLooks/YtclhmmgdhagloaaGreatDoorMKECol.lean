/-
  The contract of expr.Read.
  Names of nodes that came in are not too long.
  The contract of longstoplaw06.Own: the program's nodes out of the document's.
  The contracts of slices.Contains at nodes and of expr.Columns.
-/
import Derived.Test.YtclhmmgdhagloaaGreatDoorMJEUn2
import Derived.Test.YtclhmmgdhagloaaGreatDoorMFEFit
import Derived.Deep.RegionHeld3
import Derived.Deep.AppendLies
namespace Go.Proofs.YtclhmmgdhagloaaGreatDoor
open Go.RowKit Go.Shelf
attribute [local go_sem] cell?_more frozen?_more setCell_more more_lt more_more more_drew more_drewN setCell_drewN alloc_drewN

theorem ncells_at (x : List Nd) : ∀ (i j : Nat) (hi : i < x.length), j < 8 → (ncells x)[i * 8 + j]? = (ncs x[i])[j]? := by
  induction x with
  | nil => intro i j hi; simp at hi
  | cons t x ih =>
    intro i j hi hj
    have e : ncells (t :: x) = (ncs t).toList ++ ncells x := by simp [ncells]
    rw [e]
    cases i with
    | zero =>
      rw [List.getElem?_append_left (by simpa using hj)]
      simp
    | succ i =>
      rw [List.getElem?_append_right (by simp; omega)]
      simp at hi
      have := ih i j hi hj
      simp only [List.getElem_cons_succ]
      rw [← this]
      congr 1
      simp; omega
/-- A slice of nodes of one's own, as what is called sees it. -/
theorem Nowns.lies {w : World} {base : Nat} {v : Value} {x : List Nd} (h : Nowns w base v x) :
    ∃ ao cap, v = .slice ao x.length cap ∧ Nw w ao x := by
  obtain ⟨h1, h2⟩ := h
  rcases h2 with ⟨rfl, hn⟩ | ⟨g, cap, cur, rfl, hb, hg, hnc, hcm, hcs, htake⟩
  · exact ⟨none, 0, by rw [hn], fun hp => by omega⟩
  · refine ⟨some ⟨g, 0, none⟩, cap, rfl, fun hp => ⟨g, 0, rfl, fun i hi => ?_⟩⟩
    have hc : ∀ j, j < 8 → w.cell? ⟨g, 0 + i * 8 + j, none⟩ = (ncs x[i])[j]? := by
      intro j hj
      rw [← ncells_at x i j hi hj, cell_of_row w g (0 + i * 8 + j) cur _ (0, 0) hg, ← htake]
      rw [List.getElem?_take, if_pos (by omega), Nat.zero_add]
      simp
    exact ⟨hc 0 (by decide), hc 1 (by decide), hc 2 (by decide), hc 3 (by decide), hc 4 (by decide), hc 5 (by decide), hc 6 (by decide), hc 7 (by decide)⟩

/-- Nodes whose names are short. -/
def shN (l : List Nd) : Prop := ∀ x ∈ l, x.t.length ≤ 140737488351232 ∧ x.n.length ≤ 140737488351232
/-- May a node be? One with names beyond all bounds may not. -/
theorem depth_of (ao : Option Addr) (cap : Nat) (l : List Nd) (w : World) (hv : Nw w ao l) (hn : l.length ≤ 140737488351232) (hs : shN l) (hT : Tabs w) :
    Calls Tryz.prog 11 #[.slice ao l.length cap] w fun e w' => e = .returned (.int .i64 (depN mayN l : Int)) ∧ Below w.heap.size w w' :=
  depth_any mayN ao cap l w hv hn mayN_ops (fun x hx W h => mayBe_any x W (hT.later h) (hs x hx).1 (hs x hx).2)

theorem right_of (ao : Option Addr) (cap : Nat) (l : List Nd) (w : World) (hv : Nw w ao l) (hn : l.length ≤ 140737488351232) (hs : shN l) (hT : Tabs w) :
    Calls Tryz.prog 9 #[.slice ao l.length cap] w fun e w' => e = .returned (.bool (decide (0 < depN mayN l))) ∧ Below w.heap.size w w' := by
  have D := depth_of ao cap l w hv hn hs hT
  generalize depN mayN l = d at *
  have e : decide (0 < d) = decide ((0 : Int) < (d : Int)) := by simp
  rw [e]
  clear e hv hs hT
  go_enter Tryz.func9, Tryz.ntmps9
  go_wp2_with (go_at_call 11; refine D.mono ?_; rintro e w1 ⟨rfl, b1⟩)
  go_ret
  exact ⟨by show Ending.returned _ = _; congr 2; simp, b1⟩

/-- What Read answers. -/
def readP (R : Rz) (base : Nat) (e : Ending) (w' : World) : Prop :=
  if R.1 = 0 then (if 0 < depN mayN R.2.2 then ∃ v, e = .returned (.tuple #[v, .int .i64 (R.2.1 : Int), .int .i64 0]) ∧ Nowns w' base v R.2.2 else e = .returned (.tuple #[.slice none 0 0, .int .i64 0, .int .i64 38]))
  else e = .returned (.tuple #[.slice none 0 0, .int .i64 0, .int .i64 (R.1 : Int)])

set_option maxRecDepth 20000 in
set_option maxHeartbeats 4000000 in
theorem read_any (ao : Option Addr) (ts : List Ti) (cap : Nat) (V : List UInt8 → Option Va) (w : World) (E : Env w ao ts) (PA : Pars w ts V) (R : Rz) (hR : rdx (nxt ts) V (ts.length + 1) (7 + 8 * ts.length) .ex 0 [] 0 = R) (hsh : shN R.2.2) :
    Calls Tryz.prog 43 #[.slice ao ts.length cap] w fun e w' => readP R w.heap.size e w' ∧ Below w.heap.size w w' := by
  have A0 := (Below.refl w.heap.size w).alloc (Nat.le_refl _) (.cells (rcs ao ts.length cap 0 tz (.slice none 0 0) 0) 114)
  have B0 : Rb (w.alloc (.cells (rcs ao ts.length cap 0 tz (.slice none 0 0) 0) 114)) w.heap.size ao ts.length cap ((0 : Nat) : Int) tz (.slice none 0 0) 0 := Cbox.new w _ _
  have L := look_any w w.heap.size ao ts cap 0 0 tz (.slice none 0 0) _ E A0 (Nat.le_refl _) B0
  have X : Hid (∀ W, Stt w ao ts cap w.heap.size W 0 (.slice none 0 0) [] 0 → Does w ao ts cap w.heap.size 74 0 0 [] (.slice none 0 0) W R) := fun W h => by
    have := all_parts w ao ts cap w.heap.size E V PA (7 + 8 * ts.length) .ex 0 [] (.slice none 0 0) W 0 h (by simp [NT.rank])
    rw [hR] at this
    exact this
  have HT : Hid (Tabs w) := E.tabs
  clear E PA hR
  obtain ⟨re, rk, rc⟩ := R
  simp only at hsh
  go_enter Tryz.func43, Tryz.ntmps43
  go_wp2_with fail
  refine L.mono ?_
  rintro e w1 ⟨rfl, h1, g1⟩
  have S1 : Stt w ao ts cap w.heap.size w1 0 (.slice none 0 0) [] 0 := ⟨g1.below A0 (by simp) (Nat.le_refl _) (fun k e => by cases e), Nat.le_refl _, h1, World.ownsRow_nil _ _ _ _, Nat.zero_le _, by simp, by omega⟩
  have X1 := X.out w1 S1
  unfold Does at X1
  simp only at X1
  clear L X S1 h1 g1 A0 B0
  go_wp2_with fail
  refine X1.mono ?_
  rintro e w2 ⟨rfl, ⟨n2, S2, G2⟩, _⟩
  clear X1 G2
  by_cases hre : re = 0
  case neg =>
    have hre' : ¬ (re : Int) = 0 := by omega
    have b2 := S2.low
    clear S2
    go_wp2
    refine bodyPost_ret_by (v := .tuple #[.slice none 0 0, .int .i64 0, .int .i64 (re : Int)]) ?_ rfl ⟨by unfold readP; rw [if_neg hre], b2⟩
    simp [results, Tryz.results43, go_sem]
  subst hre
  obtain ⟨na, nc, rfl, hnw⟩ := S2.own.lies
  have c9 := S2.rb.at 9
  have c1 := S2.rb.at 1
  have hl2 := S2.rb.lt
  have hfew := S2.few
  have RI := right_of na nc rc w2 hnw (by omega) hsh (HT.out.later S2.low)
  have HS2 : Hid (Stt w ao ts cap w.heap.size w2 rk (.slice na rc.length nc) rc 0) := S2
  clear S2 hnw hsh
  by_cases hd : 0 < depN mayN rc
  · rw [decide_eq_true hd] at RI
    have HD : Hid (0 < depN mayN rc) := hd
    clear hd
    go_wp2_with fail
    refine RI.mono ?_
    rintro e w3 ⟨rfl, b3⟩
    have S3 := HS2.out.later b3
    have d9 := S3.rb.at 9
    have d1 := S3.rb.at 1
    have hl3 := S3.rb.lt
    have ho3 := S3.own
    have hb3 := S3.low
    clear S3 HS2 RI c9 c1 hl2
    go_wp2
    go_region
    all_goals go_wp2
    all_goals refine bodyPost_ret_by (v := .tuple #[.slice na rc.length nc, .int .i64 (rk : Int), .int .i64 0]) ?_ rfl ⟨by unfold readP; rw [if_pos rfl, if_pos HD.out]; exact ⟨_, rfl, ho3⟩, by first | exact hb3 | exact hb3.drew⟩
    all_goals simp [results, Tryz.results43, go_sem]
  · rw [decide_eq_false hd] at RI
    have HD : Hid (¬ 0 < depN mayN rc) := hd
    have b2 := HS2.out.low
    clear hd
    go_wp2_with fail
    refine RI.mono ?_
    rintro e w3 ⟨rfl, b3⟩
    go_wp2
    refine bodyPost_ret_by (v := .tuple #[.slice none 0 0, .int .i64 0, .int .i64 38]) ?_ rfl ⟨by unfold readP; rw [if_pos rfl, if_neg HD.out], below_trans b2 b3⟩
    simp [results, Tryz.results43, go_sem]
end Go.Proofs.YtclhmmgdhagloaaGreatDoor

namespace Go.Proofs.YtclhmmgdhagloaaGreatDoor
open Go.ChangeShapes Go.WideShapes Go.ChangeAt Go.WideMaps Go.WideElems Go.RowKit Go.Shelf Go.Lib

/-- Names of nodes that came in are no longer than what can be reached. -/
theorem sh_of {H : Type} {ts : List TypeId} {ds : List (DataW H)} {j : Nat} {d : DataW H} {l : List Nd} (h : (DataW.weightsEach Tryz.prog ts ds).all (· ≤ reachBytes) = true) (ht : ts[j]? = some 22) (hd : ds[j]? = some d)
    (hl : ∀ v ∈ l, v.t.length ∈ d.weights Tryz.prog 22 ∧ v.n.length ∈ d.weights Tryz.prog 22) : shN l := by
  intro x hx
  have h1 := List.all_eq_true.1 h _ (DataW.weights_mem_each ht hd _ (hl x hx).1)
  have h2 := List.all_eq_true.1 h _ (DataW.weights_mem_each ht hd _ (hl x hx).2)
  simp only [decide_eq_true_eq] at h1 h2
  exact ⟨h1, h2⟩
end Go.Proofs.YtclhmmgdhagloaaGreatDoor

namespace Go.Proofs.YtclhmmgdhagloaaGreatDoor
open Go.RowKit Go.Shelf
attribute [local go_sem] cell?_more frozen?_more setCell_more more_lt more_more more_drew more_drewN setCell_drewN alloc_drewN

set_option maxRecDepth 20000 in
set_option maxHeartbeats 4000000 in
theorem own6_any (ao : Option Addr) (cap : Nat) (xs : List Nd) (w : World) (hv : Nw w ao xs) (hn : xs.length * 88 ≤ 140737488351232) :
    Calls Tryz.prog 8 #[.slice ao xs.length cap] w fun e w' => (∃ ao' cap', e = .returned (.slice ao' xs.length cap') ∧ Nw w' ao' xs ∧ Nowns w' w.heap.size (.slice ao' xs.length cap') xs) ∧ Below w.heap.size w w' := by
  obtain ⟨i0, hi, hz0, hz1, hz2⟩ := info_parts infoNd
  obtain ⟨n, hnn⟩ : ∃ n, xs.length = n := ⟨_, rfl⟩
  rw [hnn] at hn ⊢
  have HN : Hid (xs.length = n) := hnn
  clear hnn
  go_enter Tryz.func8, Tryz.ntmps8
  go_wp2
  go_loopw [3, 4] (fun r3 r4 wr => ∃ k : Nat, r4 = .int .i64 (k : Int) ∧ k ≤ n ∧ Nowns wr w.heap.size r3 (xs.take k) ∧ Below w.heap.size w wr) (fun _ r _ => n - (intOf r).toNat)
  case atStart => exact ⟨0, rfl, Nat.zero_le _, World.ownsRow_nil _ _ _ _, Below.refl _ _⟩
  case round =>
    obtain ⟨k, rfl, hk, ho, hB⟩ := hrel
    have sB := hB.size
    by_cases hlt : k < n
    · have hlt' : (k : Int) < (n : Int) := by omega
      have k0 : (0 : Int) ≤ (k : Int) := by omega
      have hkl : k < xs.length := by rw [HN.out]; exact hlt
      obtain ⟨b, off, rfl, hc⟩ := hv (by omega)
      obtain ⟨c0, c1, c2, c3, c4, c5, c6, c7⟩ := ((hc k (by omega)).later hB)
      have hg := (hc k (by omega)).lt
      have hg' : b < wr.heap.size := by omega
      have htk : xs.take (k + 1) = xs.take k ++ [xs[k]] := List.take_succ_eq_append_getElem hkl
      have hlk : (xs.take k).length = k := by rw [List.length_take]; omega
      obtain ⟨x, he⟩ : ∃ x : Nd, x = xs[k] := ⟨_, rfl⟩
      rw [← he] at c0 c1 c2 c3 c4 c5 c6 c7 htk
      have HT : Hid (xs.take (k + 1) = xs.take k ++ [x]) := htk
      have HL : Hid ((xs.take k).length = k) := hlk
      have ho' : wr.ownsRow w.heap.size 44 8 u3 k (ncells (xs.take k)) := by rw [← hlk]; rw [hlk]; have := ho; unfold Nowns at this; rw [hlk] at this; exact this
      obtain ⟨xo, xt, xn, xv, xa⟩ := x
      clear hc he htk hlk ho
      go_wp2_with fail
      go_region_held3 (fun W => W.cell? ⟨b, off + k * 8, none⟩ = some (.int .i64 xo) ∧ W.cell? ⟨b, off + k * 8 + 1, none⟩ = some (.string ⟨xt.toArray⟩) ∧ W.cell? ⟨b, off + k * 8 + 2, none⟩ = some (.string ⟨xn.toArray⟩) ∧ W.cell? ⟨b, off + k * 8 + 3, none⟩ = some (.int .i64 xv.k) ∧ W.cell? ⟨b, off + k * 8 + 4, none⟩ = some (.int .i64 xv.n) ∧ W.cell? ⟨b, off + k * 8 + 5, none⟩ = some (.int .i64 xv.m) ∧ W.cell? ⟨b, off + k * 8 + 6, none⟩ = some (.string ⟨xv.b.toArray⟩) ∧ W.cell? ⟨b, off + k * 8 + 7, none⟩ = some (.int .i64 xa))
        (first
          | go_keep
          | (go_split_ands
             refine ⟨?_, ?_, ?_, ?_, ?_, ?_, ?_, ?_⟩
             · (rw [hgrow.cell_far _ (by simp; omega) (by intro h; have := (World.ownsRow.lt ho' _ h.symm).1; simp at this; omega)]; assumption)
             · (rw [hgrow.cell_far _ (by simp; omega) (by intro h; have := (World.ownsRow.lt ho' _ h.symm).1; simp at this; omega)]; assumption)
             · (rw [hgrow.cell_far _ (by simp; omega) (by intro h; have := (World.ownsRow.lt ho' _ h.symm).1; simp at this; omega)]; assumption)
             · (rw [hgrow.cell_far _ (by simp; omega) (by intro h; have := (World.ownsRow.lt ho' _ h.symm).1; simp at this; omega)]; assumption)
             · (rw [hgrow.cell_far _ (by simp; omega) (by intro h; have := (World.ownsRow.lt ho' _ h.symm).1; simp at this; omega)]; assumption)
             · (rw [hgrow.cell_far _ (by simp; omega) (by intro h; have := (World.ownsRow.lt ho' _ h.symm).1; simp at this; omega)]; assumption)
             · (rw [hgrow.cell_far _ (by simp; omega) (by intro h; have := (World.ownsRow.lt ho' _ h.symm).1; simp at this; omega)]; assumption)
             · (rw [hgrow.cell_far _ (by simp; omega) (by intro h; have := (World.ownsRow.lt ho' _ h.symm).1; simp at this; omega)]; assumption)))
        ((refine step_append_lies _ (by rfl) _ _ _ (by rfl) w.heap.size 44 i0 _ 8 88 Tryz.underlying24 hi hz0 hz1 hz2 rfl (by omega) _ k (ncells (xs.take k)) (by rfl) ((World.ownsRow.alloc ho' _).drew)
            ⟨wr.heap.size, 0, none⟩ 1 1 (ncs ⟨xo, xt, xn, xv, xa⟩).toList (by rfl) (by rfl) (World.news_of_block (cs := ncs ⟨xo, xt, xn, xv, xa⟩) (t := 44) (fr := (0, 0)) (heap_alloc_new wr _)) (one_nd ⟨xo, xt, xn, xv, xa⟩)
            (by omega) (by unfold maxLen; omega) (by omega) (by simp; omega) (wr.heap.size + 1) (by simp) ?_; intro gg cap w2 hown2 hgrow hat hlt1))
      have hb2 : Below w.heap.size w w2 := ((hB.alloc sB _).drew.grown hgrow (by simp; omega) (fun k hk => (World.ownsRow.lt ho' k hk).1))
      have ho2 := Nowns.push (x := ⟨xo, xt, xn, xv, xa⟩) hown2 (by rw [HL.out])
      rw [← HT.out] at ho2
      clear hown2 hgrow ho' hat
      go_wp2
      exact ⟨⟨k + 1, by rw [cast1], by omega, ho2, hb2⟩, by simp [intOf]; omega⟩
    · have hlt' : ¬ (k : Int) < (n : Int) := by omega
      have hkn : k = n := by omega
      rw [List.take_of_length_le (by rw [HN.out]; omega)] at ho
      obtain ⟨ao', cap', hve, hw⟩ := ho.lies
      rw [HN.out] at hve
      subst hve
      go_wp2
      go_ret
      first | exact ⟨⟨ao', cap', rfl, hw, ho⟩, hB⟩ | exact ⟨⟨ao', ⟨cap', rfl, ho⟩, hw⟩, hB⟩ | exact ⟨⟨ao', hw, cap', rfl, ho⟩, hB⟩
end Go.Proofs.YtclhmmgdhagloaaGreatDoor

namespace Go.Proofs.YtclhmmgdhagloaaGreatDoor
open Go.RowKit Go.Shelf
attribute [local go_sem] cell?_more frozen?_more setCell_more more_lt more_more more_drew more_drewN setCell_drewN alloc_drewN

/-- Is a node among others? -/
def memN (l : List Nd) (v : Nd) : Bool := l.any fun x => sameN v x

set_option maxRecDepth 20000 in
set_option maxHeartbeats 4000000 in
theorem idx_any (ao : Option Addr) (cap : Nat) (l : List Nd) (v : Nd) (w : World) (hv : Nw w ao l) (hn : l.length ≤ 140737488351232) :
    Calls Tryz.prog 60 #[.slice ao l.length cap, ndv v] w fun e w' => (∃ i : Int, e = .returned (.int .i64 i) ∧ decide (0 ≤ i) = memN l v) ∧ Below w.heap.size w w' := by
  obtain ⟨R, hR⟩ : ∃ R, R = memN l v := ⟨_, rfl⟩
  rw [← hR]
  have HR : Hid (R = memN (l.drop 0) v) := hR
  clear hR
  obtain ⟨n, hnn⟩ : ∃ n, l.length = n := ⟨_, rfl⟩
  rw [hnn] at hn ⊢
  have HN : Hid (l.length = n) := hnn
  clear hnn
  obtain ⟨vo, vt, vn, vv', va'⟩ := v
  go_enter Tryz.func60, Tryz.ntmps60
  go_wp2
  go_loopw [8] (fun r wr => ∃ k : Nat, r = .int .i64 (k : Int) ∧ k ≤ n ∧ Cbox wr w.heap.size (ncs ⟨vo, vt, vn, vv', va'⟩) 44 ∧ Below w.heap.size w wr ∧ Hid (R = memN (l.drop k) ⟨vo, vt, vn, vv', va'⟩)) (fun r _ => n - (intOf r).toNat)
  case atStart => exact ⟨0, rfl, Nat.zero_le _, Cbox.new w _ _, (Below.refl _ w).alloc (Nat.le_refl _) _, HR⟩
  case round =>
    obtain ⟨k, rfl, hk, hc, hb, hH⟩ := hrel
    have sB := hb.size
    by_cases hlt : k < n
    · have hlt' : (k : Int) < (n : Int) := by omega
      have k0 : (0 : Int) ≤ (k : Int) := by omega
      have hkl : k < l.length := by rw [HN.out]; exact hlt
      obtain ⟨b, off, rfl, hcl⟩ := hv (by omega)
      obtain ⟨c0, c1, c2, c3, c4, c5, c6, c7⟩ := ((hcl k hkl).later hb)
      have hg := (hcl k hkl).lt
      have hg' : b < wr.heap.size := by omega
      have hdr : l.drop k = l[k] :: l.drop (k + 1) := List.drop_eq_getElem_cons hkl
      obtain ⟨x, he⟩ : ∃ x : Nd, x = l[k] := ⟨_, rfl⟩
      rw [← he] at c0 c1 c2 c3 c4 c5 c6 c7 hdr
      have hst : R = (sameN ⟨vo, vt, vn, vv', va'⟩ x || memN (l.drop (k + 1)) ⟨vo, vt, vn, vv', va'⟩) := by
        rw [hH.out, hdr]; rfl
      have HST : Hid (R = (sameN ⟨vo, vt, vn, vv', va'⟩ x || memN (l.drop (k + 1)) ⟨vo, vt, vn, vv', va'⟩)) := hst
      have eqx := fun W => eqNd ⟨vo, vt, vn, vv', va'⟩ x W
      obtain ⟨xo, xt, xn, xv, xa⟩ := x
      generalize sameN ⟨vo, vt, vn, vv', va'⟩ ⟨xo, xt, xn, xv, xa⟩ = q at eqx HST
      have eqx' : ∀ W, (Op.equalIn 10000 44 (.agg #[.int .i64 vo, .string ⟨vt.toArray⟩, .string ⟨vn.toArray⟩, .int .i64 vv'.k, .int .i64 vv'.n, .int .i64 vv'.m, .string ⟨vv'.b.toArray⟩, .int .i64 va']) (.agg #[.int .i64 xo, .string ⟨xt.toArray⟩, .string ⟨xn.toArray⟩, .int .i64 xv.k, .int .i64 xv.n, .int .i64 xv.m, .string ⟨xv.b.toArray⟩, .int .i64 xa])).run Tryz.prog W = .ok q W := eqx
      have z0 := hc.at 0
      have z1 := hc.at 1
      have z2 := hc.at 2
      have z3 := hc.at 3
      have z4 := hc.at 4
      have z5 := hc.at 5
      have z6 := hc.at 6
      have z7 := hc.at 7
      have zl := hc.lt
      have HC : Hid (Cbox wr w.heap.size (ncs ⟨vo, vt, vn, vv', va'⟩) 44) := hc
      clear eqx hst hdr he hcl hH HR hc
      cases q with
      | true =>
        go_wp2
        go_region
        all_goals go_wp2
        all_goals go_ret
        all_goals exact ⟨⟨(k : Int), rfl, by rw [HST.out]; simp⟩, by first | exact hb | exact hb.drew⟩
      | false =>
        have HF : Hid (R = memN (l.drop (k + 1)) ⟨vo, vt, vn, vv', va'⟩) := by show R = _; rw [HST.out, Bool.false_or]
        go_wp2
        go_region
        all_goals go_wp2
        all_goals exact ⟨⟨k + 1, by rw [cst1], by omega, HC.out, by first | exact hb | exact hb.drew, HF⟩, by simp [intOf]; omega⟩
    · have hlt' : ¬ (k : Int) < (n : Int) := by omega
      have HF : Hid (R = false) := by
        show R = false
        rw [hH.out, List.drop_eq_nil_of_le (by rw [HN.out]; omega)]; rfl
      clear hH HR hc
      go_wp2
      go_ret
      exact ⟨⟨-1, rfl, by rw [HF.out]; rfl⟩, hb⟩

theorem contains_nd (ao : Option Addr) (cap : Nat) (l : List Nd) (v : Nd) (w : World) (hv : Nw w ao l) (hn : l.length ≤ 140737488351232) :
    Calls Tryz.prog 37 #[.slice ao l.length cap, ndv v] w fun e w' => e = .returned (.bool (memN l v)) ∧ Below w.heap.size w w' := by
  have I : ∀ W, Below w.heap.size w W → _ := fun W h => idx_any ao cap l v W (hv.later h) hn
  obtain ⟨vo, vt, vn, vv', va'⟩ := v
  have A0 := (Below.refl w.heap.size w).alloc (Nat.le_refl _) (.cells (ncs ⟨vo, vt, vn, vv', va'⟩) 44)
  clear hv
  generalize memN l ⟨vo, vt, vn, vv', va'⟩ = q at *
  generalize l.length = n at *
  go_enter Tryz.func37, Tryz.ntmps37
  go_wp2_with fail
  refine (I _ (by first | exact A0 | exact Below.refl _ _)).mono ?_
  rintro e w1 ⟨⟨i, rfl, hi⟩, b1⟩
  have HI : Hid (decide (0 ≤ i) = q) := hi
  clear hi I
  go_wp2
  go_ret
  exact ⟨by rw [← HI.out]; rfl, by first | exact A0.trans (b1.mono A0.size) | exact b1⟩

/-- The columns of nodes, each once. -/
def colsL : List Nd → List Nd → List Nd
  | [], out => out
  | x :: l, out => colsL l (if x.o = 2 ∧ memN out x = false then out ++ [⟨2, x.t, x.n, vz0, 0⟩] else out)

theorem Nowns.later {w w' : World} {base : Nat} {v : Value} {x : List Nd} (h : Nowns w base v x) (hb : Below w.heap.size w w') : Nowns w' base v x :=
  World.ownsRow.kept (row := none) h ⟨hb.os, hb.tape, hb.output, hb.size, fun k hk _ => hb.block k hk⟩ (by
    cases hv : v.ownBlock with
    | none => exact .inl rfl
    | some k => exact .inr (by simp))

set_option maxRecDepth 20000 in
set_option maxHeartbeats 4000000 in
theorem columns_any (ao : Option Addr) (cap : Nat) (l : List Nd) (w : World) (hv : Nw w ao l) (hn : l.length ≤ 140737488351232) (hs : shN l) (hT : Tabs w) :
    Calls Tryz.prog 14 #[.slice ao l.length cap] w fun e w' => (∃ v, e = .returned v ∧ Nowns w' w.heap.size v (if 0 < depN mayN l then colsL l [] else [])) ∧ Below w.heap.size w w' := by
  obtain ⟨i0, hi, hz0, hz1, hz2⟩ := info_parts infoNd
  have RI := right_of ao cap l w hv hn hs hT
  by_cases hd : 0 < depN mayN l
  case neg =>
    rw [if_neg hd]
    rw [decide_eq_false hd] at RI
    clear hd hv hs hT
    generalize l.length = n at *
    go_enter Tryz.func14, Tryz.ntmps14
    go_wp2_with (go_at_call 9; refine RI.mono ?_; rintro e w1 ⟨rfl, b1⟩)
    go_ret
    exact ⟨⟨_, rfl, World.ownsRow_nil _ _ _ _⟩, b1⟩
  rw [if_pos hd]
  rw [decide_eq_true hd] at RI
  have hlen : l.length ≤ 256 := by
    unfold depN at hd
    split at hd
    · assumption
    · omega
  obtain ⟨R, hR⟩ : ∃ R, R = colsL l [] := ⟨_, rfl⟩
  rw [← hR]
  have HR : Hid (colsL (l.drop 0) [] = R) := hR.symm
  have HSH : Hid (shN l) := hs
  clear hR hd hs hT
  obtain ⟨n, hnn⟩ : ∃ n, l.length = n := ⟨_, rfl⟩
  rw [hnn] at hn hlen RI ⊢
  have HN : Hid (l.length = n) := hnn
  clear hnn
  go_enter Tryz.func14, Tryz.ntmps14
  go_wp2_with (go_at_call 9; refine RI.mono ?_; rintro e w1 ⟨rfl, b1⟩)
  go_loopw [3, 11] (fun r3 r11 wr => ∃ (k : Nat) (out : List Nd), r11 = .int .i64 (k : Int) ∧ k ≤ n ∧ out.length ≤ k ∧ Nowns wr w.heap.size r3 out ∧ Below w.heap.size w wr ∧ Hid (colsL (l.drop k) out = R)) (fun _ r _ => n - (intOf r).toNat)
  case atStart => exact ⟨0, [], rfl, Nat.zero_le _, Nat.zero_le _, World.ownsRow_nil _ _ _ _, b1, HR⟩
  case round =>
    obtain ⟨k, out, rfl, hk, hol, ho, hb, hH⟩ := hrel
    have sB := hb.size
    by_cases hlt : k < n
    · have hlt' : (k : Int) < (n : Int) := by omega
      have hkl : k < l.length := by rw [HN.out]; exact hlt
      obtain ⟨b, off, rfl, hcl⟩ := hv (by omega)
      obtain ⟨c0, c1, c2, c3, c4, c5, c6, c7⟩ := ((hcl k hkl).later hb)
      have hg := (hcl k hkl).lt
      have hg' : b < wr.heap.size := by omega
      have hdr : l.drop k = l[k] :: l.drop (k + 1) := List.drop_eq_getElem_cons hkl
      have hshx := HSH.out l[k] (List.getElem_mem _)
      obtain ⟨x, he⟩ : ∃ x : Nd, x = l[k] := ⟨_, rfl⟩
      rw [← he] at c0 c1 c2 c3 c4 c5 c6 c7 hdr hshx
      have HST : Hid (colsL (l.drop (k + 1)) (if x.o = 2 ∧ memN out x = false then out ++ [⟨2, x.t, x.n, vz0, 0⟩] else out) = R) := by
        have := hH.out
        rw [hdr] at this
        exact this
      obtain ⟨oa, oc, rfl, hnw⟩ := ho.lies
      have A1 : Below w.heap.size w (wr.alloc (.cells (ncs x) 44)) := hb.alloc sB _
      have A2 : Below wr.heap.size wr (wr.alloc (.cells (ncs x) 44)) := (Below.refl _ _).alloc (Nat.le_refl _) _
      have CN := contains_nd oa oc out x _ (hnw.later A2) (by omega)
      have BX : Hid (Cbox (wr.alloc (.cells (ncs x) 44)) wr.heap.size (ncs x) 44) := Cbox.new wr _ _
      have HO : Hid (Nowns wr w.heap.size (.slice oa out.length oc) out) := ho
      clear hcl he hH HR hdr ho
      by_cases h2 : x.o = 2
      case neg =>
        have h2' : (x.o == 2) = false := by rw [beq_eq_false_iff_ne]; exact h2
        rw [if_neg (fun h => h2 h.1)] at HST
        clear CN BX
        obtain ⟨xo, xt, xn, xv, xa⟩ := x
        simp only at h2' h2
        go_wp2
        exact ⟨⟨k + 1, out, by rw [cst1], by omega, by omega, World.ownsRow.alloc HO.out _, A1, HST⟩, by simp [intOf]; omega⟩
      · obtain ⟨xo, xt, xn, xv, xa⟩ := x
        simp only at h2
        subst h2
        simp only at hshx
        cases hm : memN out ⟨2, xt, xn, xv, xa⟩ with
        | true =>
          rw [hm] at CN
          rw [if_neg (by rw [hm]; simp)] at HST
          go_wp2_with (go_at_call 37; refine CN.mono ?_; rintro e w2 ⟨rfl, b2⟩)
          have B2 : Below w.heap.size w w2 := A1.trans (b2.mono A1.size)
          exact ⟨⟨k + 1, out, by rw [cst1], by omega, by omega, Nowns.later (World.ownsRow.alloc HO.out _) b2, B2, HST⟩, by simp [intOf]; omega⟩
        | false =>
          rw [hm] at CN
          rw [if_pos (by rw [hm]; exact ⟨rfl, rfl⟩)] at HST
          have C1 := fun W => clone_any ⟨xt.toArray⟩ W hshx.1
          have C2 := fun W => clone_any ⟨xn.toArray⟩ W hshx.2
          go_wp2_with (go_at_call 37; refine CN.mono ?_; rintro e w2 ⟨rfl, b2⟩)
          have B2 : Below w.heap.size w w2 := A1.trans (b2.mono A1.size)
          have ho2 := Nowns.later (World.ownsRow.alloc HO.out (.cells (ncs ⟨2, xt, xn, xv, xa⟩) 44)) b2
          have bx2 := Cbox.later BX.out b2
          refine wp_region_held_drew (S := (fun W => Cbox W wr.heap.size (ncs ⟨2, xt, xn, xv, xa⟩) 44 ∧ Below w.heap.size w W)) (by kernel_rfl) ?_ (fun hHeld => ?_)
          · exact ⟨bx2, B2.drew⟩
          refine wpAnyH_take (i := 0) (oi := { dst := some 24, op := Op.move (Operand.tmp 3), type := 24, pos := "expr.go:65", after := #[], guard := none }) (v := ?_) rfl (by kernel_rfl) (by kernel_rfl) (by kernel_rfl) (fun _ _ _ h => h) (Or.inl ⟨by rfl, ?_⟩) (by assumption) ?_
          rotate_left
          · (intro W hSw; (try dsimp only at hSw); have C := hSw.1; have e1 := C.at 1; have e2 := C.at 2; clear C; first | (go_simp; done) | (go_simp; with_reducible rfl))
          try simp only [Act.put, List.setIfInBounds_toArray, List.set_cons_zero, List.set_cons_succ]
          refine wpAnyH_take (i := 1) (oi := { dst := some 25, op := Op.fieldAddr 44 (Operand.tmp 5) 1, type := 0, pos := "expr.go:65", after := #[], guard := none }) (v := ?_) rfl (by kernel_rfl) (by kernel_rfl) (by kernel_rfl) (fun _ _ _ h => h) (Or.inl ⟨by rfl, ?_⟩) (by assumption) ?_
          rotate_left
          · (intro W hSw; (try dsimp only at hSw); have C := hSw.1; have e1 := C.at 1; have e2 := C.at 2; clear C; first | (go_simp; done) | (go_simp; with_reducible rfl))
          try simp only [Act.put, List.setIfInBounds_toArray, List.set_cons_zero, List.set_cons_succ]
          refine wpAnyH_take (i := 2) (oi := { dst := some 26, op := Op.load 9 (Operand.tmp 25), type := 9, pos := "expr.go:65", after := #[{ on := 1, ground := Ground.data }], guard := none }) (v := ?_) rfl (by kernel_rfl) (by kernel_rfl) (by kernel_rfl) (fun _ _ _ h => h) (Or.inl ⟨by rfl, ?_⟩) (by assumption) ?_
          rotate_left
          · (intro W hSw; (try dsimp only at hSw); have C := hSw.1; have e1 := C.at 1; have e2 := C.at 2; clear C; first | (go_simp; done) | (go_simp; with_reducible rfl))
          try simp only [Act.put, List.setIfInBounds_toArray, List.set_cons_zero, List.set_cons_succ]
          refine wpAnyH_take (i := 4) (oi := { dst := some 28, op := Op.fieldAddr 44 (Operand.tmp 5) 2, type := 0, pos := "expr.go:65", after := #[], guard := none }) (v := ?_) rfl (by kernel_rfl) (by kernel_rfl) (by kernel_rfl) (fun _ _ _ h => h) (Or.inl ⟨by rfl, ?_⟩) (by assumption) ?_
          rotate_left
          · (intro W hSw; (try dsimp only at hSw); have C := hSw.1; have e1 := C.at 1; have e2 := C.at 2; clear C; first | (go_simp; done) | (go_simp; with_reducible rfl))
          try simp only [Act.put, List.setIfInBounds_toArray, List.set_cons_zero, List.set_cons_succ]
          refine wpAnyH_take (i := 5) (oi := { dst := some 29, op := Op.load 9 (Operand.tmp 28), type := 9, pos := "expr.go:65", after := #[{ on := 4, ground := Ground.data }], guard := none }) (v := ?_) rfl (by kernel_rfl) (by kernel_rfl) (by kernel_rfl) (fun _ _ _ h => h) (Or.inl ⟨by rfl, ?_⟩) (by assumption) ?_
          rotate_left
          · (intro W hSw; (try dsimp only at hSw); have C := hSw.1; have e1 := C.at 1; have e2 := C.at 2; clear C; first | (go_simp; done) | (go_simp; with_reducible rfl))
          try simp only [Act.put, List.setIfInBounds_toArray, List.set_cons_zero, List.set_cons_succ]
          refine wpAnyH_ready (rs := [3]) (by kernel_rfl) (by simp) ?_
          refine AllReadyH.cons (o := { dst := some 27, op := Op.call { callee := Callee.value (Operand.func 38), args := #[Operand.tmp 26], argTypes := #[9] }, type := 9, pos := "expr.go:65", after := #[{ on := 2, ground := Ground.data }], guard := none }) rfl (fun K hK => ?_) AllReadyH.nil
          go_simp
          go_wp2_with (go_at_call 38; refine (C1 _).mono ?_; rintro e w3 ⟨rfl, b3⟩)
          refine hK.out _ _ ?_ (fun hHeld => ?_)
          · ((try dsimp only); exact ⟨Cbox.later hHeld.1 b3, below_trans hHeld.2 b3⟩)
          clear hK K
          try simp only [Act.put, List.setIfInBounds_toArray, List.set_cons_zero, List.set_cons_succ]
          refine wpAnyH_ready (rs := [6]) (by kernel_rfl) (by simp) ?_
          refine AllReadyH.cons (o := { dst := some 30, op := Op.call { callee := Callee.value (Operand.func 38), args := #[Operand.tmp 29], argTypes := #[9] }, type := 9, pos := "expr.go:65", after := #[{ on := 5, ground := Ground.data }, { on := 3, ground := Ground.chain }], guard := none }) rfl (fun K hK => ?_) AllReadyH.nil
          go_simp
          go_wp2_with (go_at_call 38; refine (C2 _).mono ?_; rintro e w4 ⟨rfl, b4⟩)
          refine hK.out _ _ ?_ (fun hHeld => ?_)
          · ((try dsimp only); exact ⟨Cbox.later hHeld.1 b4, below_trans hHeld.2 b4⟩)
          clear hK K
          try simp only [Act.put, List.setIfInBounds_toArray, List.set_cons_zero, List.set_cons_succ]
          have H4 : Hid (Below w2.heap.size w2 w4) := below_trans (below_trans ((Below.refl w2.heap.size w2).drew) b3) b4
          have s4 := hHeld.2.size
          have s2 := B2.size
          refine wpAnyH_take (i := 7) (oi := { dst := some 31, op := Op.build 44 #[(0, Operand.const (Value.int IntKind.i64 2)), (1, Operand.tmp 27), (2, Operand.tmp 30)], type := 44, pos := "expr.go:65", after := #[{ on := 3, ground := Ground.data }, { on := 6, ground := Ground.data }], guard := none }) (v := ?_) rfl (by kernel_rfl) (by kernel_rfl) (by kernel_rfl) (fun _ _ _ h => h) (Or.inl ⟨by rfl, ?_⟩) (by assumption) ?_
          rotate_left
          · (intro W hSw; (try dsimp only at hSw); have C := hSw.1; have e1 := C.at 1; have e2 := C.at 2; clear C; first | (go_simp; done) | (go_simp; with_reducible rfl))
          try simp only [Act.put, List.setIfInBounds_toArray, List.set_cons_zero, List.set_cons_succ]
          refine wpAnyH_ready (rs := [8]) (by kernel_rfl) (by simp) ?_
          refine AllReadyH.cons (o := { dst := some 32, op := Op.buildSlice 24 1 #[(0, Operand.tmp 31)], type := 24, pos := "expr.go:65", after := #[{ on := 7, ground := Ground.data }], guard := none }) rfl (fun K hK => ?_) AllReadyH.nil
          go_simp
          refine hK.out _ _ ?_ (fun hHeld => ?_)
          · ((try dsimp only); exact ⟨Cbox.later hHeld.1 ((Below.refl _ _).alloc (Nat.le_refl _) _), hHeld.2.alloc hHeld.2.size _⟩)
          clear hK K
          try simp only [Act.put, List.setIfInBounds_toArray, List.set_cons_zero, List.set_cons_succ]
          refine wpAnyH_ready (rs := [9]) (by kernel_rfl) (by simp) ?_
          refine AllReadyH.cons (o := { dst := some 33, op := Op.call { callee := Callee.builtin Builtin.append, args := #[Operand.tmp 24, Operand.tmp 32], argTypes := #[24, 24] }, type := 24, pos := "expr.go:65", after := #[{ on := 0, ground := Ground.data }, { on := 8, ground := Ground.data }, { on := 6, ground := Ground.chain }], guard := none }) rfl (fun K hK => ?_) AllReadyH.nil
          (refine step_append_lies _ (by rfl) _ _ _ (by rfl) w.heap.size 44 i0 _ 8 88 Tryz.underlying24 hi hz0 hz1 hz2 rfl (by omega) _ out.length (ncells out) (by rfl) (World.ownsRow.alloc (Nowns.later ho2 H4.out) _) ⟨w4.heap.size, 0, none⟩ 1 1 (ncs ⟨2, xt, xn, vz0, 0⟩).toList (by rfl) (by rfl) (World.news_of_block (cs := ncs ⟨2, xt, xn, vz0, 0⟩) (t := 44) (fr := (0, 0)) (heap_alloc_new w4 _)) (one_nd ⟨2, xt, xn, vz0, 0⟩) (by omega) (by unfold maxLen; omega) (by omega) (by simp; omega) (w4.heap.size + 1) (by simp) ?_; intro gg gc w5 hown5 hgrow hat hlt5)
          have hrw := World.ownsRow.lt HO.out
          refine hK.out _ _ ?_ (fun hHeld => ?_)
          · exact ⟨Cbox.grown hHeld.1 hgrow (fun e => by have := (hrw _ e.symm).2; omega), hHeld.2.grown hgrow (by simp; omega) (fun k hk => (hrw k hk).1)⟩
          clear hK K
          try simp only [Act.put, List.setIfInBounds_toArray, List.set_cons_zero, List.set_cons_succ]
          refine wpAnyH_take (i := 10) (oi := { dst := some 3, op := Op.assign (Operand.tmp 33), type := 24, pos := "expr.go:65", after := #[{ on := 9, ground := Ground.data }, { on := 9, ground := Ground.chain }, { on := 0, ground := Ground.phase }, { on := 1, ground := Ground.phase }, { on := 2, ground := Ground.phase }, { on := 3, ground := Ground.phase }, { on := 4, ground := Ground.phase }, { on := 5, ground := Ground.phase }, { on := 6, ground := Ground.phase }, { on := 7, ground := Ground.phase }, { on := 8, ground := Ground.phase }, { on := 9, ground := Ground.phase }], guard := none }) (v := ?_) rfl (by kernel_rfl) (by kernel_rfl) (by kernel_rfl) (fun _ _ _ h => h) (Or.inl ⟨by rfl, ?_⟩) (by assumption) ?_
          rotate_left
          · (intro W hSw; (try dsimp only at hSw); have C := hSw.1; have e1 := C.at 1; have e2 := C.at 2; clear C; first | (go_simp; done) | (go_simp; with_reducible rfl))
          try simp only [Act.put, List.setIfInBounds_toArray, List.set_cons_zero, List.set_cons_succ]
          refine wpAnyH_done (by kernel_rfl) ?_ _
          go_wp2
          have ho5 := Nowns.push (x := ⟨2, xt, xn, vz0, 0⟩) hown5 rfl
          exact ⟨⟨k + 1, out ++ [⟨2, xt, xn, vz0, 0⟩], by rw [cst1], by omega, by simp; omega, ho5, hHeld.2, HST⟩, by simp [intOf]; omega⟩
    · have hlt' : ¬ (k : Int) < (n : Int) := by omega
      have HF : Hid (out = R) := by
        have := hH.out
        rw [List.drop_eq_nil_of_le (by rw [HN.out]; omega)] at this
        exact this
      clear hH HR
      go_wp2
      go_ret
      have h := HF.out
      subst h
      exact ⟨⟨_, rfl, ho⟩, hb⟩
end Go.Proofs.YtclhmmgdhagloaaGreatDoor
