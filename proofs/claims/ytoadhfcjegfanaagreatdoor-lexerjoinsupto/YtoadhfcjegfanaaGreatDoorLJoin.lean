/-
  The contract of lexer.Join.
-/
import Derived.Test.YtoadhfcjegfanaaGreatDoorLRight
namespace Go.Proofs.YtoadhfcjegfanaaGreatDoor
open Go.RowKit Go.Shelf
attribute [local go_sem] cell?_more frozen?_more setCell_more more_lt more_more more_drew more_drewN setCell_drewN alloc_drewN

/-- Texts with a blank between each two. -/
def joinN : List (List UInt8) → List UInt8
  | [] => []
  | t :: ts => t ++ (match ts with | [] => [] | _ :: _ => 32 :: joinN ts)
theorem joinN_snoc (ts : List (List UInt8)) (t : List UInt8) : joinN (ts ++ [t]) = (if ts = [] then [] else joinN ts ++ [32]) ++ t := by
  induction ts with
  | nil => simp [joinN]
  | cons a ts ih =>
    match ts, ih with
    | [], _ => simp [joinN]
    | b :: ts, ih =>
      have e : joinN (a :: ((b :: ts) ++ [t])) = a ++ 32 :: joinN ((b :: ts) ++ [t]) := rfl
      rw [List.cons_append, e, ih]
      have e2 : joinN (a :: b :: ts) = a ++ 32 :: joinN (b :: ts) := rfl
      simp [e2]
theorem joinN_take (ts : List (List UInt8)) (i : Nat) : (joinN (ts.take i)).length ≤ (joinN ts).length := by
  induction ts generalizing i with
  | nil => simp
  | cons a ts ih =>
    match i, ts with
    | 0, _ => simp [joinN]
    | i + 1, [] => simp
    | 1, b :: ts => simp [joinN]
    | i + 2, b :: ts =>
      have h := ih (i + 1)
      simp only [List.take_succ_cons] at h ⊢
      have e1 : joinN (a :: b :: ts.take i) = a ++ 32 :: joinN (b :: ts.take i) := rfl
      have e2 : joinN (a :: b :: ts) = a ++ 32 :: joinN (b :: ts) := rfl
      rw [e1, e2]
      simp at h ⊢
      omega

theorem own_app5 {w : World} {base n : Nat} {v : Value} {a b : List UInt8} (h : w.ownsRow base 5 1 v n (bv a ++ bv b)) : Own w base v (a ++ b) :=
  own_of (bs := a ++ b) (by rw [bv_append]; exact h)
theorem own_later5 {w w' : World} {base : Nat} {v : Value} {x : List UInt8} (h : Own w base v x) (hb : Below w.heap.size w w') : Own w' base v x :=
  World.ownsRow.kept (row := none) h ⟨hb.os, hb.tape, hb.output, hb.size, fun k hk _ => hb.block k hk⟩ (by
    cases hv : v.ownBlock with
    | none => exact .inl rfl
    | some k => exact .inr (by simp))

/-- What Join answers. -/
def joinT (xs : List Ti) : List UInt8 := if xs.all rtok then joinN (xs.map (·.t)) else []

set_option maxRecDepth 20000 in
set_option maxHeartbeats 4000000 in
theorem join_any (ao : Option Addr) (cap : Nat) (xs : List Ti) (w : World) (hT : Tabs w) (hP : Ptab w) (hv : Tw w ao xs) (hn : xs.length ≤ 140737488351232) (hs : (joinN (xs.map (·.t))).length ≤ 140737488351232) :
    Calls Tryz.prog 12 #[.slice ao xs.length cap] w fun e w' => e = .returned (.string ⟨(joinT xs).toArray⟩) ∧ Below w.heap.size w w' := by
  obtain ⟨i0, hi, hz0, hz1, hz2⟩ := info_parts Tryz.info5
  obtain ⟨R, hR⟩ : ∃ R, R = joinT xs := ⟨_, rfl⟩
  rw [← hR]
  have HR : Hid (R = joinT xs) := hR
  have Rt : ∀ (x : Ti) W, Below w.heap.size w W → Calls Tryz.prog 10 #[tiv x] W fun e w' => e = .returned (.bool (rtok x)) ∧ Below W.heap.size W w' := fun x W h => right_any5 x W (hT.later h) (hP.later h)
  clear hT hP hR
  obtain ⟨n, hnn⟩ : ∃ n, xs.length = n := ⟨_, rfl⟩
  rw [hnn] at hn ⊢
  have HN : Hid (xs.length = n) := hnn
  clear hnn
  go_enter Tryz.func12, Tryz.ntmps12
  go_wp2
  go_loopw [3, 8] (fun r3 r8 wr => ∃ k : Nat, r8 = .int .i64 (k : Int) ∧ k ≤ n ∧ Own wr w.heap.size r3 (joinN ((xs.take k).map (·.t))) ∧ Below w.heap.size w wr ∧ Hid (∀ i (h : i < xs.length), i < k → rtok xs[i] = true)) (fun _ r _ => n - (intOf r).toNat)
  case atStart => exact ⟨0, rfl, Nat.zero_le _, World.ownsRow_nil _ _ _ _, Below.refl _ _, fun i _ h => by omega⟩
  case round =>
    obtain ⟨k, rfl, hk, ho, hB, hA⟩ := hrel
    have sB := hB.size
    have hJ : (joinN ((xs.take k).map (·.t))).length ≤ 140737488351232 := by
      rw [List.map_take]
      exact Nat.le_trans (joinN_take _ _) hs
    by_cases hlt : k < n
    · have hlt' : (k : Int) < (n : Int) := by omega
      have hkl : k < xs.length := by rw [HN.out]; exact hlt
      obtain ⟨b, off, rfl, hc⟩ := hv (by omega)
      obtain ⟨c0, c1, c2, c3, c4, c5, c6⟩ := ((hc k (by omega)).later hB)
      have hg := (hc k (by omega)).lt
      have hg' : b < wr.heap.size := by omega
      have Rk := fun W h => Rt xs[k] W h
      have hsn : joinN ((xs.take (k + 1)).map (·.t)) = (if k = 0 then [] else joinN ((xs.take k).map (·.t)) ++ [32]) ++ xs[k].t := by
        rw [List.take_succ_eq_append_getElem hkl, List.map_append, List.map_cons, List.map_nil, joinN_snoc]
        congr 1
        by_cases h0 : k = 0
        · subst h0; simp
        · rw [if_neg h0, if_neg]
          intro h
          have := congrArg List.length h
          rw [List.length_map, List.length_take, List.length_nil] at this
          omega
      have hJ1 : (joinN ((xs.take (k + 1)).map (·.t))).length ≤ 140737488351232 := by
        rw [List.map_take]
        exact Nat.le_trans (joinN_take _ _) hs
      obtain ⟨x, he⟩ : ∃ x : Ti, x = xs[k] := ⟨_, rfl⟩
      rw [← he] at c0 c1 c2 c3 c4 c5 c6 Rk hsn
      have HX : Hid (x = xs[k]) := he
      obtain ⟨xk, xt, xv, xa⟩ := x
      obtain ⟨D, hD⟩ : ∃ D, D = joinN ((xs.take k).map (·.t)) := ⟨_, rfl⟩
      rw [← hD] at ho hJ hsn
      have HS : Hid (joinN ((xs.take (k + 1)).map (·.t)) = (if k = 0 then [] else D ++ [32]) ++ xt) := hsn
      have HD0 : Hid (k = 0 → D = []) := by
        show k = 0 → D = []
        intro h0; rw [hD, h0]; rfl
      have hJ2 : D.length + 1 + xt.length ≤ 140737488351233 := by
        have := hJ1
        rw [HS.out] at this
        by_cases h0 : k = 0
        · rw [if_pos h0] at this; rw [HD0.out h0]; simp at this ⊢; omega
        · rw [if_neg h0] at this; simp at this; omega
      clear hc he Rt hs hD hsn hJ1
      cases hr : rtok ⟨xk, xt, xv, xa⟩ with
      | false =>
        rw [hr] at Rk
        have HF : Hid (R = []) := by
          show R = []
          rw [HR.out]
          unfold joinT
          rw [if_neg]
          rw [List.all_eq_true]
          intro hall
          have := hall xs[k] (List.getElem_mem _)
          rw [← HX.out, hr] at this
          cases this
        clear HR HS HD0 hr
        go_wp2_with (go_at_call 10; refine (Rk _ (hB.alloc sB _)).mono ?_; rintro e w1 ⟨rfl, b1⟩)
        go_ret
        exact ⟨by rw [HF.out]; rfl, (hB.alloc sB _).trans (b1.mono (by simp; omega))⟩
      | true =>
        rw [hr] at Rk
        have hA' : Hid (∀ i (h : i < xs.length), i < k + 1 → rtok xs[i] = true) := by
          show ∀ i (h : i < xs.length), i < k + 1 → rtok xs[i] = true
          intro i hi' hik
          by_cases h : i < k
          · exact hA.out i hi' h
          · have : i = k := by omega
            subst this
            rw [← HX.out]; exact hr
        clear hA hr
        have Z := Cbox.new wr (ics ⟨xk, xt, xv, xa⟩) 29
        have hsx : (ByteArray.mk xt.toArray).size = xt.length := rfl
        by_cases h0 : k = 0
        · subst h0
          have hD0 := HD0.out rfl
          subst hD0
          simp only [Nat.zero_mul, Nat.add_zero] at c0 c1 c2 c3 c4 c5 c6
          go_wp2_with (first
            | (go_at_call 10; refine (Rk _ (hB.alloc sB _)).mono ?_; rintro e w1 ⟨rfl, b1⟩; have Z1 := Z.later b1; have d1 := Z1.at 1; have lt1 := Z1.lt; have B1 : Below w.heap.size w w1 := (hB.alloc sB _).trans (b1.mono (by simp; omega)); have ho1 := own_later5 (World.ownsRow.alloc ho _) b1; have s1 := B1.size; clear Z1 Z ho Rk)
            | (at_builtin; refine wpList_append_from rfl _ _ 63 9 rfl w.heap.size 5 i0 (.int .u8 0) 1 1 Tryz.underlying63 hi hz0 hz1 hz2 rfl _ _ _ rfl ho1 _ xt.length (byteCells ⟨xt.toArray⟩) rfl (Src.ofString _ Tryz.underlying9 ⟨xt.toArray⟩) (by simp [maxLen]; omega) (by simp; omega) (by omega) ?_))
          intro v3 w3 ho3 hgrow3
          have B3 : Below w.heap.size w w3 := B1.grown hgrow3 (by omega) (fun k hk => (World.ownsRow.lt ho1 k hk).1)
          rw [byteCells_bv] at ho3
          have hO3 := own_app5 ho3
          go_wp2
          refine ⟨⟨0 + 1, rfl, by omega, ?_, B3, hA'⟩, by simp [intOf]; omega⟩
          rw [HS.out, if_pos trivial]
          exact hO3
        · have h0' : (0 : Int) < (k : Int) := by omega
          have hrow : Hid (∀ g, u3.ownBlock = some g → g < wr.heap.size) := fun g h => (World.ownsRow.lt ho g h).2
          go_wp2_with (first
            | (go_at_call 10; refine (Rk _ (hB.alloc sB _)).mono ?_; rintro e w1 ⟨rfl, b1⟩; have Z1 := Z.later b1; have ltw : wr.heap.size < w1.heap.size := Z1.lt; have B1 : Below w.heap.size w w1 := (hB.alloc sB _).trans (b1.mono (by simp; omega)); have ho1 := own_later5 (World.ownsRow.alloc ho _) b1; have s1 := B1.size; clear Z ho Rk)
            | (at_builtin; refine wpList_append_own _ rfl _ _ 63 rfl w.heap.size 5 i0 (.int .u8 0) 1 1 Tryz.underlying63 hi hz0 hz1 hz2 rfl (by decide) _ _ _ rfl (World.ownsRow.alloc ho1 _) ⟨w1.heap.size, 0, none⟩ 1 1 [.int .u8 32] rfl rfl (cell_one_new _ _ _) (one_cell _ _) (by unfold maxLen; omega) (by omega) (by simp; omega) ?_))
          intro v2 w2 ho2 hgrow2 _
          have B2 : Below w.heap.size w w2 := (B1.alloc (by omega) _).grown hgrow2 (by simp; omega) (fun k hk => (World.ownsRow.lt ho1 k hk).1)
          have s2 := B2.size
          have Z2 := (Z1.later ((Below.refl _ w1).alloc (Nat.le_refl _) (Obj.cells #[.int .u8 32] 5))).grown hgrow2 (by
            intro h
            have := hrow.out _ h.symm
            omega)
          have d1 := Z2.at 1
          have lt1 := Z2.lt
          have hO2 := own_push (b := 32) ho2
          clear ho1 ho2 hgrow2 Z1 Z2
          go_wp2_with (at_builtin; refine wpList_append_from rfl _ _ 63 9 rfl w.heap.size 5 i0 (.int .u8 0) 1 1 Tryz.underlying63 hi hz0 hz1 hz2 rfl _ _ _ rfl hO2 _ xt.length (byteCells ⟨xt.toArray⟩) rfl (Src.ofString _ Tryz.underlying9 ⟨xt.toArray⟩) (by simp [maxLen]; omega) (by simp; omega) (by omega) ?_)
          intro v3 w3 ho3 hgrow3
          have B3 : Below w.heap.size w w3 := B2.grown hgrow3 (by omega) (fun k hk => (World.ownsRow.lt hO2 k hk).1)
          rw [byteCells_bv] at ho3
          have hO3 := own_app5 ho3
          go_wp2
          refine ⟨⟨k + 1, by rw [cast1], by omega, ?_, B3, hA'⟩, by simp [intOf]; omega⟩
          rw [HS.out, if_neg h0]
          exact hO3
    · have hlt' : ¬ (k : Int) < (n : Int) := by omega
      have hkn : k = n := by omega
      have HF : Hid (R = joinN ((xs.take k).map (·.t))) := by
        show R = _
        rw [HR.out, hkn]
        unfold joinT
        rw [if_pos, List.take_of_length_le (by rw [HN.out]; exact Nat.le_refl _)]
        rw [List.all_eq_true]
        intro v hv'
        obtain ⟨i, hi', rfl⟩ := List.getElem_of_mem hv'
        exact hA.out i hi' (by have := HN.out; omega)
      obtain ⟨D, hD⟩ : ∃ D, D = joinN ((xs.take k).map (·.t)) := ⟨_, rfl⟩
      rw [← hD] at ho HF
      clear hA hD HR hJ
      obtain ⟨ao2, cap2, rfl, hrd, _⟩ := ho.rd
      have hcv := run_string_of 63 9 5 Tryz.underlying63 Tryz.underlying5 Tryz.underlying9 hrd
      clear hrd ho
      go_wp2
      go_ret
      exact ⟨by rw [HF.out]; rfl, hB⟩
end Go.Proofs.YtoadhfcjegfanaaGreatDoor
