/-
  The walk of DecimalSigns: it answers true for every two decimals, of every scale, and nothing that was there has changed.
-/
import Derived.Test.YtfbkakchaabgeabDoorDFrm
import Derived.Test.YtfbkakchaabgeabDoorDNeg
import Derived.Test.YtfbkakchaabgeabDoorDCmp
namespace Go.Proofs.YtfbkakchaabgeabDoor
open Go.ChangeShapes Go.WideShapes Go.ChangeAt Go.WideMaps Go.WideElems Go.RowKit
attribute [local go_sem] cell?_more frozen?_more setCell_more more_lt more_more more_drew more_drewN setCell_drewN alloc_drewN

/-- The order, whichever scale is the greater. -/
theorem cmp_right (ua sa ub sb : Int) (w : World) (hP : Pw w) (ha : rightS sa = true) (hb : rightS sb = true) (a0 : -9223372036854775808 ≤ ua) (a1 : ua ≤ 9223372036854775807) (b0 : -9223372036854775808 ≤ ub) (b1 : ub ≤ 9223372036854775807) :
    Calls Tryd.prog 8 #[dv ua sa, dv ub sb] w fun e w' => e = .returned (.int .i64 (at10 ua sa (max sa sb) - at10 ub sb (max sa sb)).sign) ∧ Grew w w' := by
  rcases Int.le_total sb sa with h | h
  · rw [Int.max_eq_left h]
    exact cmp_good ua sa ub sb sa w hP ha hb (.inl ⟨rfl, h⟩) a0 a1 b0 b1
  · rw [Int.max_eq_right h]
    by_cases he : sb ≤ sa
    · obtain rfl : sa = sb := by omega
      exact cmp_good ua sa ub sa sa w hP ha hb (.inl ⟨rfl, he⟩) a0 a1 b0 b1
    · exact cmp_good ua sa ub sb sb w hP ha hb (.inr ⟨rfl, by omega⟩) a0 a1 b0 b1

theorem at10_neg (u s t : Int) : at10 (-u) s t = - at10 u s t := by simp [at10, Int.neg_mul]

set_option maxHeartbeats 1000000 in
theorem signs_walk (ua sa ub sb : Int) (w : World) (hP : Pw w) (a0 : -9223372036854775808 ≤ ua) (a1 : ua ≤ 9223372036854775807) (b0 : -9223372036854775808 ≤ ub) (b1 : ub ≤ 9223372036854775807) :
    Calls Tryd.prog 5 #[dv ua sa, dv ub sb] w fun e w' => e = .returned (.bool true) ∧ Grew w w' := by
  have Na : ∀ (W : World), Grew w W → _ := fun W (h : Grew w W) => neg_any ua sa W (hP.later h) a0 a1
  have Nb : ∀ (W : World), Grew w W → _ := fun W (h : Grew w W) => neg_any ub sb W (hP.later h) b0 b1
  have Oa := fun W => own_any ua sa W
  have Ob := fun W => own_any ub sb W
  have K : ∀ (W : World), Grew w W → _ := fun W (h : Grew w W) => knows_any W (hP.later h)
  by_cases ea : negE ua sa = 0
  · by_cases eb : negE ub sb = 0
    · obtain ⟨ra, x0, x1, xu, xs⟩ := neg_ok ua sa ea
      obtain ⟨rb, y0, y1, yu, ys⟩ := neg_ok ub sb eb
      rw [ea, xu, xs] at Na
      rw [eb, yu, ys] at Nb
      have N3 : ∀ (W : World), Grew w W → _ := fun W (h : Grew w W) => neg_any (-ua) sa W (hP.later h) x0 x1
      have e3 : negU (-ua) sa = ua ∧ negS (-ua) sa = sa ∧ negE (-ua) sa = 0 := by
        have hf : fits ua = true := (fits_iff _).2 ⟨a0, a1⟩
        simp [negU, negS, negE, ra, nz, fs, nErr, hf]
      rw [e3.1, e3.2.1, e3.2.2] at N3
      have C1 : ∀ (W : World), Grew w W → _ := fun W (h : Grew w W) => cmp_right (-ua) sa (-ub) sb W (hP.later h) ra rb x0 x1 y0 y1
      have C2 : ∀ (W : World), Grew w W → _ := fun W (h : Grew w W) => cmp_right ub sb ua sa W (hP.later h) rb ra b0 b1 a0 a1
      rw [at10_neg, at10_neg, show -at10 ua sa (max sa sb) - -at10 ub sb (max sa sb) = at10 ub sb (max sa sb) - at10 ua sa (max sa sb) by omega] at C1
      rw [Int.max_comm sb sa] at C2
      generalize (at10 ub sb (max sa sb) - at10 ua sa (max sa sb)).sign = z at C1 C2
      clear hP a0 a1 b0 b1 x0 x1 xu xs y0 y1 yu ys ea eb e3 ra rb
      go_enter Tryd.func5, Tryd.ntmps5
      go_wp2_with (first
        | (go_at_call_of 9 (Value.int IntKind.i64 ua); refine (Oa _).mono ?_; rintro e w' ⟨rfl, os, n, rfl⟩)
        | (go_at_call 9; refine (Ob _).mono ?_; rintro e w' ⟨rfl, os', n', rfl⟩)
        | (go_at_call_of 14 (dv ua sa); refine (Na _ (by repeat (first | exact Grew.refl _ | apply Grew.drew | apply Grew.drewN | apply Grew.alloc | apply Grew.more))).mono ?_; rintro e w1 ⟨rfl, os1, n1, rfl⟩)
        | (go_at_call_of 14 (dv ub sb); refine (Nb _ (by repeat (first | exact Grew.refl _ | apply Grew.drew | apply Grew.drewN | apply Grew.alloc | apply Grew.more))).mono ?_; rintro e w2 ⟨rfl, os2, n2, rfl⟩)
        | (go_at_call 14; refine (N3 _ (by repeat (first | exact Grew.refl _ | apply Grew.drew | apply Grew.drewN | apply Grew.alloc | apply Grew.more))).mono ?_; rintro e w3 ⟨rfl, os3, n3, rfl⟩)
        | (go_at_call 11; refine (num_any _ _).mono ?_; rintro e w' ⟨rfl, rfl⟩)
        | (go_at_call 7; refine (K _ (by repeat (first | exact Grew.refl _ | apply Grew.drew | apply Grew.drewN | apply Grew.alloc | apply Grew.more))).mono ?_; rintro e w5 ⟨rfl, os5, n5, rfl⟩))
      go_region_held (fun W => W.cell? ⟨w.heap.size, 0, none⟩ = some (.int .i64 ua) ∧ W.cell? ⟨w.heap.size, 1, none⟩ = some (.int .i64 sa) ∧ W.cell? ⟨w.heap.size + 1, 0, none⟩ = some (.int .i64 ub) ∧ W.cell? ⟨w.heap.size + 1, 1, none⟩ = some (.int .i64 sb) ∧ W.cell? ⟨(more ((w.alloc (Obj.cells #[Value.int IntKind.i64 ua, Value.int IntKind.i64 sa] 23)).alloc (Obj.cells #[Value.int IntKind.i64 ub, Value.int IntKind.i64 sb] 23)) (os ++ os1)).heap.size, 0, none⟩ = some (.int .i64 (-ua)) ∧ W.cell? ⟨(more ((w.alloc (Obj.cells #[Value.int IntKind.i64 ua, Value.int IntKind.i64 sa] 23)).alloc (Obj.cells #[Value.int IntKind.i64 ub, Value.int IntKind.i64 sb] 23)) (os ++ os1)).heap.size, 1, none⟩ = some (.int .i64 sa) ∧ W.cell? ⟨(more ((more ((w.alloc (Obj.cells #[Value.int IntKind.i64 ua, Value.int IntKind.i64 sa] 23)).alloc (Obj.cells #[Value.int IntKind.i64 ub, Value.int IntKind.i64 sb] 23)) (os ++ os1)).alloc (Obj.cells #[Value.int IntKind.i64 (-ua), Value.int IntKind.i64 sa] 27)) (os' ++ os2)).heap.size, 0, none⟩ = some (.int .i64 (-ub)) ∧ W.cell? ⟨(more ((more ((w.alloc (Obj.cells #[Value.int IntKind.i64 ua, Value.int IntKind.i64 sa] 23)).alloc (Obj.cells #[Value.int IntKind.i64 ub, Value.int IntKind.i64 sb] 23)) (os ++ os1)).alloc (Obj.cells #[Value.int IntKind.i64 (-ua), Value.int IntKind.i64 sa] 27)) (os' ++ os2)).heap.size, 1, none⟩ = some (.int .i64 sb) ∧ W.cell? ⟨(more ((more ((more ((w.alloc (Obj.cells #[Value.int IntKind.i64 ua, Value.int IntKind.i64 sa] 23)).alloc (Obj.cells #[Value.int IntKind.i64 ub, Value.int IntKind.i64 sb] 23)) (os ++ os1)).alloc (Obj.cells #[Value.int IntKind.i64 (-ua), Value.int IntKind.i64 sa] 27)) (os' ++ os2)).alloc (Obj.cells #[Value.int IntKind.i64 (-ub), Value.int IntKind.i64 sb] 27)) os3).heap.size, 0, none⟩ = some (.int .i64 ua) ∧ W.cell? ⟨(more ((more ((more ((w.alloc (Obj.cells #[Value.int IntKind.i64 ua, Value.int IntKind.i64 sa] 23)).alloc (Obj.cells #[Value.int IntKind.i64 ub, Value.int IntKind.i64 sb] 23)) (os ++ os1)).alloc (Obj.cells #[Value.int IntKind.i64 (-ua), Value.int IntKind.i64 sa] 27)) (os' ++ os2)).alloc (Obj.cells #[Value.int IntKind.i64 (-ub), Value.int IntKind.i64 sb] 27)) os3).heap.size, 1, none⟩ = some (.int .i64 sa)) (simp (maxDischargeDepth := 12) [go_sem])
        ((first
          | (go_at_call_of 9 (Value.int IntKind.i64 ua); refine (Oa _).mono ?_; rintro e w' ⟨rfl, os6, n6, rfl⟩)
          | (go_at_call 9; refine (Ob _).mono ?_; rintro e w' ⟨rfl, os7, n7, rfl⟩)
          | (go_at_call 11; refine (num_any _ _).mono ?_; rintro e w' ⟨rfl, rfl⟩)
          | (go_at_call_of 8 (dv ub sb); refine (C2 _ (by repeat (first | exact Grew.refl _ | apply Grew.drew | apply Grew.drewN | apply Grew.alloc | apply Grew.more))).mono ?_; rintro e w' ⟨rfl, os8, n8, rfl⟩)
          | (go_at_call 8; refine (C1 _ (by repeat (first | exact Grew.refl _ | apply Grew.drew | apply Grew.drewN | apply Grew.alloc | apply Grew.more))).mono ?_; rintro e w' ⟨rfl, os9, n9, rfl⟩)
          | (go_at_call 7; refine (K _ (by repeat (first | exact Grew.refl _ | apply Grew.drew | apply Grew.drewN | apply Grew.alloc | apply Grew.more))).mono ?_; rintro e w5 ⟨rfl, os5, n5, rfl⟩)))
      all_goals go_wp2
      all_goals go_ret
      all_goals exact ⟨rfl, (by repeat (first | exact Grew.refl _ | apply Grew.drew | apply Grew.drewN | apply Grew.alloc | apply Grew.more))⟩
    · generalize negE ub sb = y at *
      generalize negU ub sb = y1 at *
      generalize negS ub sb = y2 at *
      rw [ea] at Na
      generalize negU ua sa = x1 at *
      generalize negS ua sa = x2 at *
      clear ea hP a0 a1 b0 b1
      go_enter Tryd.func5, Tryd.ntmps5
      go_wp2_with (first
        | (go_at_call_of 9 (Value.int IntKind.i64 ua); refine (Oa _).mono ?_; rintro e w' ⟨rfl, os, n, rfl⟩)
        | (go_at_call 9; refine (Ob _).mono ?_; rintro e w' ⟨rfl, os', n', rfl⟩)
        | (go_at_call_of 14 (dv ua sa); refine (Na _ (by repeat (first | exact Grew.refl _ | apply Grew.drew | apply Grew.drewN | apply Grew.alloc | apply Grew.more))).mono ?_; rintro e w1 ⟨rfl, os1, n1, rfl⟩)
        | (go_at_call_of 14 (dv ub sb); refine (Nb _ (by repeat (first | exact Grew.refl _ | apply Grew.drew | apply Grew.drewN | apply Grew.alloc | apply Grew.more))).mono ?_; rintro e w2 ⟨rfl, os2, n2, rfl⟩)
        | (go_at_call 11; refine (num_any _ _).mono ?_; rintro e w' ⟨rfl, rfl⟩)
        | (go_at_call 7; refine (K _ (by repeat (first | exact Grew.refl _ | apply Grew.drew | apply Grew.drewN | apply Grew.alloc | apply Grew.more))).mono ?_; rintro e w5 ⟨rfl, os5, n5, rfl⟩))
      go_ret
      exact ⟨rfl, (by repeat (first | exact Grew.refl _ | apply Grew.drew | apply Grew.drewN | apply Grew.alloc | apply Grew.more))⟩
  · generalize negE ub sb = y at *
    generalize negU ub sb = y1 at *
    generalize negS ub sb = y2 at *
    generalize negE ua sa = x at *
    generalize negU ua sa = x1 at *
    generalize negS ua sa = x2 at *
    clear hP a0 a1 b0 b1
    go_enter Tryd.func5, Tryd.ntmps5
    go_wp2_with (first
      | (go_at_call_of 9 (Value.int IntKind.i64 ua); refine (Oa _).mono ?_; rintro e w' ⟨rfl, os, n, rfl⟩)
      | (go_at_call 9; refine (Ob _).mono ?_; rintro e w' ⟨rfl, os', n', rfl⟩)
      | (go_at_call_of 14 (dv ua sa); refine (Na _ (by repeat (first | exact Grew.refl _ | apply Grew.drew | apply Grew.drewN | apply Grew.alloc | apply Grew.more))).mono ?_; rintro e w1 ⟨rfl, os1, n1, rfl⟩)
      | (go_at_call_of 14 (dv ub sb); refine (Nb _ (by repeat (first | exact Grew.refl _ | apply Grew.drew | apply Grew.drewN | apply Grew.alloc | apply Grew.more))).mono ?_; rintro e w2 ⟨rfl, os2, n2, rfl⟩)
      | (go_at_call 11; refine (num_any _ _).mono ?_; rintro e w' ⟨rfl, rfl⟩)
      | (go_at_call 7; refine (K _ (by repeat (first | exact Grew.refl _ | apply Grew.drew | apply Grew.drewN | apply Grew.alloc | apply Grew.more))).mono ?_; rintro e w5 ⟨rfl, os5, n5, rfl⟩))
    go_ret
    exact ⟨rfl, (by repeat (first | exact Grew.refl _ | apply Grew.drew | apply Grew.drewN | apply Grew.alloc | apply Grew.more))⟩

theorem signs_below (ua sa ub sb : Int) (w : World) (hP : Pw w) (a0 : -9223372036854775808 ≤ ua) (a1 : ua ≤ 9223372036854775807) (b0 : -9223372036854775808 ≤ ub) (b1 : ub ≤ 9223372036854775807) :
    Calls Tryd.prog 5 #[dv ua sa, dv ub sb] w fun e w' => e = .returned (.bool true) ∧ Below w.heap.size w w' :=
  (signs_walk ua sa ub sb w hP a0 a1 b0 b1).mono fun _ _ h => ⟨h.1, h.2.below⟩
end Go.Proofs.YtfbkakchaabgeabDoor
