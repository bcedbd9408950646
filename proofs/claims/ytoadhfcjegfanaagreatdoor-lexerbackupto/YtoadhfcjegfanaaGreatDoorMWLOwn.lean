/-
  The contract of the document's Join.
  The contract of longstoplaw05.Own: the program's tokens out of the document's.
-/
import Derived.Test.YtoadhfcjegfanaaGreatDoorLRRight
import Derived.Test.YtoadhfcjegfanaaGreatDoorLJoin
import Derived.Deep.RegionHeld3
import Derived.Deep.AppendLies
namespace Go.Proofs.YtoadhfcjegfanaaGreatDoor
open Go.RowKit Go.Shelf
attribute [local go_sem] cell?_more frozen?_more setCell_more more_lt more_more more_drew more_drewN setCell_drewN alloc_drewN

set_option maxRecDepth 20000 in
set_option maxHeartbeats 4000000 in
theorem rjoin_any (ao : Option Addr) (cap : Nat) (xs : List Ti) (w : World) (hv : Tw w ao xs) (hn : xs.length ≤ 140737488351232) (hs : (joinN (xs.map (·.t))).length ≤ 140737488351232) :
    Calls Tryz.prog 13 #[.slice ao xs.length cap] w fun e w' => e = .returned (.string ⟨(joinT xs).toArray⟩) ∧ Below w.heap.size w w' := by
  obtain ⟨R, hR⟩ : ∃ R, R = joinT xs := ⟨_, rfl⟩
  rw [← hR]
  have HR : Hid (R = joinT xs) := hR
  have Rt := fun (x : Ti) W => rright_any5 x W
  clear hR
  obtain ⟨n, hnn⟩ : ∃ n, xs.length = n := ⟨_, rfl⟩
  rw [hnn] at hn ⊢
  have HN : Hid (xs.length = n) := hnn
  clear hnn
  go_enter Tryz.func13, Tryz.ntmps13
  go_wp2
  go_loopw [3, 4] (fun r3 r4 wr => ∃ k : Nat, r4 = .int .i64 (k : Int) ∧ k ≤ n ∧ r3 = .string ⟨(joinN ((xs.take k).map (·.t))).toArray⟩ ∧ Below w.heap.size w wr ∧ Hid (∀ i (h : i < xs.length), i < k → rtok xs[i] = true)) (fun _ r _ => n - (intOf r).toNat)
  case atStart => exact ⟨0, rfl, Nat.zero_le _, rfl, Below.refl _ _, fun i _ h => by omega⟩
  case round =>
    obtain ⟨k, rfl, hk, rfl, hB, hA⟩ := hrel
    have sB := hB.size
    have hJ : (joinN ((xs.take k).map (·.t))).length ≤ 140737488351232 := by
      rw [List.map_take]
      exact Nat.le_trans (joinN_take _ _) hs
    by_cases hlt : k < n
    · have hlt' : (k : Int) < (n : Int) := by omega
      have k0 : (0 : Int) ≤ (k : Int) := by omega
      have hkl : k < xs.length := by rw [HN.out]; exact hlt
      obtain ⟨b, off, rfl, hc⟩ := hv (by omega)
      obtain ⟨c0, c1, c2, c3, c4, c5, c6⟩ := ((hc k (by omega)).later hB)
      have hg := (hc k (by omega)).lt
      have hg' : b < wr.heap.size := by omega
      have Rk := fun W => Rt xs[k] W
      have hsn : joinN ((xs.take (k + 1)).map (·.t)) = (if k = 0 then [] else joinN ((xs.take k).map (·.t)) ++ [32]) ++ xs[k].t := by
        rw [List.take_succ_eq_append_getElem hkl, List.map_append, List.map_cons, List.map_nil, joinN_snoc]
        congr 1
        by_cases h0 : k = 0
        · subst h0; simp
        · rw [if_neg h0, if_neg]
          intro h
          have := congrArg List.length h
          rw [List.length_map, List.length_take, List.length_nil] at this
          omega
      have hJ1 : (joinN ((xs.take (k + 1)).map (·.t))).length ≤ 140737488351232 := by
        rw [List.map_take]
        exact Nat.le_trans (joinN_take _ _) hs
      obtain ⟨x, he⟩ : ∃ x : Ti, x = xs[k] := ⟨_, rfl⟩
      rw [← he] at c0 c1 c2 c3 c4 c5 c6 Rk hsn
      have HX : Hid (x = xs[k]) := he
      obtain ⟨xk, xt, xv, xa⟩ := x
      obtain ⟨D, hD⟩ : ∃ D, D = joinN ((xs.take k).map (·.t)) := ⟨_, rfl⟩
      rw [← hD] at hJ hsn ⊢
      have HS : Hid (joinN ((xs.take (k + 1)).map (·.t)) = (if k = 0 then [] else D ++ [32]) ++ xt) := hsn
      have HD0 : Hid (k = 0 → D = []) := by
        show k = 0 → D = []
        intro h0; rw [hD, h0]; rfl
      have hJ2 : D.length + 1 + xt.length ≤ 140737488351233 := by
        have := hJ1
        rw [HS.out] at this
        by_cases h0 : k = 0
        · rw [if_pos h0] at this; rw [HD0.out h0]; simp at this ⊢; omega
        · rw [if_neg h0] at this; simp at this; omega
      clear hc he Rt hs hD hsn hJ1
      cases hr : rtok ⟨xk, xt, xv, xa⟩ with
      | false =>
        rw [hr] at Rk
        have HF : Hid (R = []) := by
          show R = []
          rw [HR.out]
          unfold joinT
          rw [if_neg]
          rw [List.all_eq_true]
          intro hall
          have := hall xs[k] (List.getElem_mem _)
          rw [← HX.out, hr] at this
          cases this
        clear HR HS HD0 hr
        go_wp2_with (go_at_call 11; refine (Rk _).mono ?_; rintro e w1 ⟨rfl, b1⟩)
        go_ret
        exact ⟨by rw [HF.out]; rfl, hB.trans (b1.mono sB)⟩
      | true =>
        rw [hr] at Rk
        have hA' : Hid (∀ i (h : i < xs.length), i < k + 1 → rtok xs[i] = true) := by
          show ∀ i (h : i < xs.length), i < k + 1 → rtok xs[i] = true
          intro i hi' hik
          by_cases h : i < k
          · exact hA.out i hi' h
          · have : i = k := by omega
            subst this
            rw [← HX.out]; exact hr
        clear hA hr
        have hsx : (ByteArray.mk xt.toArray).size = xt.length := rfl
        have hsd : (ByteArray.mk D.toArray).size = D.length := rfl
        have T : Hid (∀ W, Below wr.heap.size wr W → T7 W b (off + k * 7) ⟨xk, xt, xv, xa⟩) := fun W h => T7.later ⟨c0, c1, c2, c3, c4, c5, c6⟩ h
        by_cases h0 : k = 0
        · subst h0
          have hD0 := HD0.out rfl
          subst hD0
          have hadd : (ByteArray.mk #[]) ++ (ByteArray.mk xt.toArray) = ⟨xt.toArray⟩ := ba_app [] xt
          have hsz : ¬ 9223372036854775807 < (ByteArray.mk #[]).size + (ByteArray.mk xt.toArray).size := by
            rw [hsx]; show ¬ 9223372036854775807 < 0 + xt.length; omega
          simp only [Nat.zero_mul, Nat.add_zero] at c0 c1 c2 c3 c4 c5 c6
          have T' : Hid (∀ W, Below wr.heap.size wr W → T7 W b off ⟨xk, xt, xv, xa⟩) := fun W h => T7.later ⟨c0, c1, c2, c3, c4, c5, c6⟩ h
          clear T
          go_wp2_with (go_at_call 11; refine (Rk _).mono ?_; rintro e w1 ⟨rfl, b1⟩; have B1 := hB.trans (b1.mono sB); obtain ⟨d0, d1, d2, d3, d4, d5, d6⟩ := T'.out _ b1; have hg1 : b < w1.heap.size := Nat.lt_of_lt_of_le hg' b1.size)
          exact ⟨⟨0 + 1, rfl, by omega, by rw [HS.out, if_pos trivial]; first | rfl | (rw [hadd]; rfl), B1, hA'⟩, by simp [intOf]; omega⟩
        · have h0' : (0 : Int) < (k : Int) := by omega
          have hadd : (ByteArray.mk D.toArray) ++ (ByteArray.mk #[32]) = ⟨(D ++ [32]).toArray⟩ := ba_app D [32]
          have hadd2 : (ByteArray.mk (D ++ [32]).toArray) ++ (ByteArray.mk xt.toArray) = ⟨(D ++ [32] ++ xt).toArray⟩ := ba_app (D ++ [32]) xt
          have hs32 : (ByteArray.mk #[32]).size = 1 := rfl
          have hsd2 : (ByteArray.mk (D ++ [32]).toArray).size = D.length + 1 := by show (D ++ [32]).length = _; simp
          have HE : Hid (D ++ [32] ++ xt = joinN ((xs.take (k + 1)).map (·.t))) := by
            show _ = _
            rw [HS.out, if_neg h0]
          generalize D ++ [32] ++ xt = F at *
          generalize ByteArray.mk (D ++ [32]).toArray = B2 at *
          generalize ByteArray.mk D.toArray = B3 at *
          go_wp2_with (go_at_call 11; refine (Rk _).mono ?_; rintro e w1 ⟨rfl, b1⟩; have B1 := hB.trans (b1.mono sB); obtain ⟨d0, d1, d2, d3, d4, d5, d6⟩ := T.out _ b1; have hg1 : b < w1.heap.size := Nat.lt_of_lt_of_le hg' b1.size)
          exact ⟨⟨k + 1, by rw [cast1], by omega, by rw [← HE.out], B1, hA'⟩, by simp [intOf]; omega⟩
    · have hlt' : ¬ (k : Int) < (n : Int) := by omega
      have hkn : k = n := by omega
      have HF : Hid (R = joinN ((xs.take k).map (·.t))) := by
        show R = _
        rw [HR.out, hkn]
        unfold joinT
        rw [if_pos, List.take_of_length_le (by rw [HN.out]; exact Nat.le_refl _)]
        rw [List.all_eq_true]
        intro v hv'
        obtain ⟨i, hi', rfl⟩ := List.getElem_of_mem hv'
        exact hA.out i hi' (by have := HN.out; omega)
      obtain ⟨D, hD⟩ : ∃ D, D = joinN ((xs.take k).map (·.t)) := ⟨_, rfl⟩
      rw [← hD] at HF ⊢
      clear hA hD HR hJ
      go_wp2
      go_ret
      exact ⟨by rw [HF.out]; rfl, hB⟩
end Go.Proofs.YtoadhfcjegfanaaGreatDoor

namespace Go.Proofs.YtoadhfcjegfanaaGreatDoor
open Go.RowKit Go.Shelf
attribute [local go_sem] cell?_more frozen?_more setCell_more more_lt more_more more_drew more_drewN setCell_drewN alloc_drewN

def icells (x : List Ti) : List Value := x.flatMap fun t => (ics t).toList
theorem icells_len (x : List Ti) : (icells x).length = x.length * 7 := by
  induction x with
  | nil => rfl
  | cons t x ih => simp [icells] at *; omega
theorem icells_snoc (x : List Ti) (t : Ti) : icells (x ++ [t]) = icells x ++ (ics t).toList := by
  simp [icells]
theorem icells_at (x : List Ti) : ∀ (i j : Nat) (hi : i < x.length), j < 7 → (icells x)[i * 7 + j]? = (ics x[i])[j]? := by
  induction x with
  | nil => intro i j hi; simp at hi
  | cons t x ih =>
    intro i j hi hj
    have e : icells (t :: x) = (ics t).toList ++ icells x := by simp [icells]
    rw [e]
    cases i with
    | zero =>
      rw [List.getElem?_append_left (by simpa using hj)]
      simp
    | succ i =>
      rw [List.getElem?_append_right (by simp; omega)]
      simp at hi
      have := ih i j hi hj
      simp only [List.getElem_cons_succ]
      rw [← this]
      congr 1
      simp; omega
/-- Tokens of whatever parts that a call has made lie behind a slice. -/
abbrev Iowns (w : World) (base : Nat) (v : Value) (x : List Ti) : Prop := w.ownsRow base 29 7 v x.length (icells x)
theorem Iowns.shape {w : World} {base : Nat} {v : Value} {x : List Ti} (h : Iowns w base v x) :
    ∃ ao cap, v = .slice ao x.length cap ∧ Tw w ao x := by
  obtain ⟨h1, h2⟩ := h
  rcases h2 with ⟨rfl, hn⟩ | ⟨g, cap, cur, rfl, hb, hg, hnc, hcm, hcs, htake⟩
  · exact ⟨none, 0, by rw [hn], fun hp => by omega⟩
  · refine ⟨some ⟨g, 0, none⟩, cap, rfl, fun hp => ⟨g, 0, rfl, fun i hi => ?_⟩⟩
    have hc : ∀ j, j < 7 → w.cell? ⟨g, 0 + i * 7 + j, none⟩ = (ics x[i])[j]? := by
      intro j hj
      rw [← icells_at x i j hi hj, cell_of_row w g (0 + i * 7 + j) cur _ (0, 0) hg, ← htake]
      rw [List.getElem?_take, if_pos (by omega), Nat.zero_add]
      simp
    exact ⟨hc 0 (by decide), hc 1 (by decide), hc 2 (by decide), hc 3 (by decide), hc 4 (by decide), hc 5 (by decide), hc 6 (by decide)⟩
theorem inews_tok (w : World) (o : Obj) (x : Ti) : ∀ j u, (ics x).toList[j]? = some u → ((w.alloc o).alloc (.cells (ics x) 29)).cell? ((⟨w.heap.size + 1, 0, none⟩ : Addr).add j) = some u := by
  have h := Cbox.new (w.alloc o) (ics x) 29
  rw [World.size_alloc] at h
  exact World.news_of_block h
theorem inews1_tok (w : World) (x : Ti) : ∀ j u, (ics x).toList[j]? = some u → (w.alloc (.cells (ics x) 29)).cell? ((⟨w.heap.size, 0, none⟩ : Addr).add j) = some u := by
  have h := Cbox.new w (ics x) 29
  exact World.news_of_block h
theorem ione_tok (x : Ti) : ∀ u ∈ (ics x).toList, u.oneCell' = true := by
  intro u hu
  simp at hu
  rcases hu with rfl | rfl | rfl | rfl | rfl | rfl | rfl <;> rfl
theorem Iowns.push {w : World} {base n : Nat} {v : Value} {acc : List Ti} {x : Ti} (h : w.ownsRow base 29 7 v n (icells acc ++ (ics x).toList)) (hn : n = acc.length + 1) : Iowns w base v (acc ++ [x]) := by
  unfold Iowns
  rw [icells_snoc, List.length_append]
  subst hn
  exact h

set_option maxRecDepth 20000 in
set_option maxHeartbeats 4000000 in
theorem own5_any (ao : Option Addr) (cap : Nat) (xs : List Ti) (w : World) (hv : Tw w ao xs) (hn : xs.length * 72 ≤ 140737488351232) :
    Calls Tryz.prog 9 #[.slice ao xs.length cap] w fun e w' => (∃ ao' cap', e = .returned (.slice ao' xs.length cap') ∧ Tw w' ao' xs) ∧ Below w.heap.size w w' := by
  obtain ⟨i0, hi, hz0, hz1, hz2⟩ := info_parts infoTok
  obtain ⟨n, hnn⟩ : ∃ n, xs.length = n := ⟨_, rfl⟩
  rw [hnn] at hn ⊢
  have HN : Hid (xs.length = n) := hnn
  clear hnn
  go_enter Tryz.func9, Tryz.ntmps9
  go_wp2
  go_loopw [3, 4] (fun r3 r4 wr => ∃ k : Nat, r4 = .int .i64 (k : Int) ∧ k ≤ n ∧ Iowns wr w.heap.size r3 (xs.take k) ∧ Below w.heap.size w wr) (fun _ r _ => n - (intOf r).toNat)
  case atStart => exact ⟨0, rfl, Nat.zero_le _, World.ownsRow_nil _ _ _ _, Below.refl _ _⟩
  case round =>
    obtain ⟨k, rfl, hk, ho, hB⟩ := hrel
    have sB := hB.size
    by_cases hlt : k < n
    · have hlt' : (k : Int) < (n : Int) := by omega
      have k0 : (0 : Int) ≤ (k : Int) := by omega
      have hkl : k < xs.length := by rw [HN.out]; exact hlt
      obtain ⟨b, off, rfl, hc⟩ := hv (by omega)
      obtain ⟨c0, c1, c2, c3, c4, c5, c6⟩ := ((hc k (by omega)).later hB)
      have hg := (hc k (by omega)).lt
      have hg' : b < wr.heap.size := by omega
      have htk : xs.take (k + 1) = xs.take k ++ [xs[k]] := List.take_succ_eq_append_getElem hkl
      have hlk : (xs.take k).length = k := by rw [List.length_take]; omega
      obtain ⟨x, he⟩ : ∃ x : Ti, x = xs[k] := ⟨_, rfl⟩
      rw [← he] at c0 c1 c2 c3 c4 c5 c6 htk
      have HT : Hid (xs.take (k + 1) = xs.take k ++ [x]) := htk
      have HL : Hid ((xs.take k).length = k) := hlk
      have ho' : wr.ownsRow w.heap.size 29 7 u3 k (icells (xs.take k)) := by rw [← hlk]; rw [hlk]; have := ho; unfold Iowns at this; rw [hlk] at this; exact this
      obtain ⟨xk, xt, xv, xa⟩ := x
      clear hc he htk hlk ho
      go_wp2_with fail
      go_region_held3 (fun W => W.cell? ⟨b, off + k * 7, none⟩ = some (.int .i64 xk) ∧ W.cell? ⟨b, off + k * 7 + 1, none⟩ = some (.string ⟨xt.toArray⟩) ∧ W.cell? ⟨b, off + k * 7 + 2, none⟩ = some (.int .i64 xv.k) ∧ W.cell? ⟨b, off + k * 7 + 3, none⟩ = some (.int .i64 xv.n) ∧ W.cell? ⟨b, off + k * 7 + 4, none⟩ = some (.int .i64 xv.m) ∧ W.cell? ⟨b, off + k * 7 + 5, none⟩ = some (.string ⟨xv.b.toArray⟩) ∧ W.cell? ⟨b, off + k * 7 + 6, none⟩ = some (.int .i64 xa))
        (first
          | go_keep
          | (go_split_ands
             refine ⟨?_, ?_, ?_, ?_, ?_, ?_, ?_⟩
             · (rw [hgrow.cell_far _ (by simp; omega) (by intro h; have := (World.ownsRow.lt ho' _ h.symm).1; simp at this; omega)]; assumption)
             · (rw [hgrow.cell_far _ (by simp; omega) (by intro h; have := (World.ownsRow.lt ho' _ h.symm).1; simp at this; omega)]; assumption)
             · (rw [hgrow.cell_far _ (by simp; omega) (by intro h; have := (World.ownsRow.lt ho' _ h.symm).1; simp at this; omega)]; assumption)
             · (rw [hgrow.cell_far _ (by simp; omega) (by intro h; have := (World.ownsRow.lt ho' _ h.symm).1; simp at this; omega)]; assumption)
             · (rw [hgrow.cell_far _ (by simp; omega) (by intro h; have := (World.ownsRow.lt ho' _ h.symm).1; simp at this; omega)]; assumption)
             · (rw [hgrow.cell_far _ (by simp; omega) (by intro h; have := (World.ownsRow.lt ho' _ h.symm).1; simp at this; omega)]; assumption)
             · (rw [hgrow.cell_far _ (by simp; omega) (by intro h; have := (World.ownsRow.lt ho' _ h.symm).1; simp at this; omega)]; assumption)))
        ((refine step_append_lies _ (by rfl) _ _ _ (by rfl) w.heap.size 29 i0 _ 7 72 Tryz.underlying23 hi hz0 hz1 hz2 rfl (by omega) _ k (icells (xs.take k)) (by rfl) ((World.ownsRow.alloc ho' _).drew)
            ⟨wr.heap.size, 0, none⟩ 1 1 (ics ⟨xk, xt, xv, xa⟩).toList (by rfl) (by rfl) (World.news_of_block (cs := ics ⟨xk, xt, xv, xa⟩) (t := 29) (fr := (0, 0)) (heap_alloc_new wr _)) (ione_tok ⟨xk, xt, xv, xa⟩)
            (by omega) (by unfold maxLen; omega) (by omega) (by simp; omega) (wr.heap.size + 1) (by simp) ?_; intro gg cap w2 hown2 hgrow hat hlt1))
      have hb2 : Below w.heap.size w w2 := ((hB.alloc sB _).drew.grown hgrow (by simp; omega) (fun k hk => (World.ownsRow.lt ho' k hk).1))
      have ho2 := Iowns.push (x := ⟨xk, xt, xv, xa⟩) hown2 (by rw [HL.out])
      rw [← HT.out] at ho2
      clear hown2 hgrow ho' hat
      go_wp2
      exact ⟨⟨k + 1, by rw [cast1], by omega, ho2, hb2⟩, by simp [intOf]; omega⟩
    · have hlt' : ¬ (k : Int) < (n : Int) := by omega
      have hkn : k = n := by omega
      rw [List.take_of_length_le (by rw [HN.out]; omega)] at ho
      obtain ⟨ao', cap', hve, hw⟩ := ho.shape
      rw [HN.out] at hve
      subst hve
      go_wp2
      go_ret
      exact ⟨⟨ao', ⟨cap', rfl⟩, hw⟩, hB⟩
end Go.Proofs.YtoadhfcjegfanaaGreatDoor
