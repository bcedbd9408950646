/-
  Ops of two Points: eval.ofPoints.
-/
import Derived.Test.YtclhmmgdhagloaaGreatDoorMJQNums
import Derived.Test.YtclhmmgdhagloaaGreatDoorMIHRef4
import Derived.Deep.Cut
namespace Go.Proofs.YtclhmmgdhagloaaGreatDoor
open Go.RowKit Go.Shelf
attribute [local go_sem] cell?_more frozen?_more setCell_more more_lt more_more more_drew more_drewN setCell_drewN alloc_drewN
attribute [local go_sem high] Ga.cellMA Ga.frozenMA Ga.setMA Ga.cellMAM Ga.frozenMAM Ga.setMAM Ga.cellMAA Ga.frozenMAA Ga.setMAA Ga.cellMAAM Ga.frozenMAAM Ga.setMAAM Ga.cellMAMA Ga.frozenMAMA Ga.setMAMA Ga.cellMAMAM Ga.frozenMAMAM Ga.setMAMAM Ga.cellMAMAMA Ga.frozenMAMAMA Ga.setMAMAMA Ga.cellMAMAMAM Ga.frozenMAMAMAM Ga.setMAMAMAM Ga.size_blank

set_option maxRecDepth 20000 in
set_option maxHeartbeats 8000000 in
theorem qpts_walk (op an am bn bm c x9 y9 z9 x10 y10 z10 x6 y6 z6 x7 y7 z7 x8 y8 : Int) (ab bb : List UInt8) (w : World) (D9 : ∀ W, Calls Tryz.prog 157 #[dv an am, dv bn bm] W fun e w' => e = .returned (.tuple #[dv x9 y9, .int .i64 z9]) ∧ Grew W w') (D10 : ∀ W, Calls Tryz.prog 158 #[dv an am, dv bn bm] W fun e w' => e = .returned (.tuple #[dv x10 y10, .int .i64 z10]) ∧ Grew W w') (D6 : ∀ W, Calls Tryz.prog 159 #[dv an am, dv bn bm] W fun e w' => e = .returned (.tuple #[dv x6 y6, .int .i64 z6]) ∧ Grew W w') (D7 : ∀ W, Calls Tryz.prog 160 #[dv an am, dv bn bm] W fun e w' => e = .returned (.tuple #[dv x7 y7, dv x8 y8, .int .i64 z7]) ∧ Grew W w')
    (D : Tells 84 #[va 5 an am ⟨ab.toArray⟩, va 5 bn bm ⟨bb.toArray⟩] w (.int .i64 c)) (r : Va × Int) (hr : Hid (r = if op = 9 then placedR x9 y9 z9 else if op = 10 then placedR x10 y10 z10 else if op = 6 then placedR x6 y6 z6 else if op = 7 then placedR x7 y7 z7 else if op = 8 then placedR x8 y8 z7 else cmpR op c)) :
    Calls Tryz.prog 81 #[.int .i64 op, va 5 an am ⟨ab.toArray⟩, va 5 bn bm ⟨bb.toArray⟩] w fun e w' => e = .returned (rs r) ∧ Below w.heap.size w w' := by
  obtain ⟨w0, hw0, bxa, bxb, bxr, Bw⟩ := three_boxes w ⟨5, an, am, ab⟩ ⟨5, bn, bm, bb⟩
  dsimp only at hw0
  have U := fun k n m b W => qpoint_any k n m b W
  have H := fun n s x W => qplaced_any n s x W
  have HC := fun W => qcompared_any op c W
  have lta := bxa.lt
  have ltb := bxb.lt
  have ltr := bxr.lt
  go_enter Tryz.func81, Tryz.ntmps81
  go_wp2_with fail
  rw [← hw0]
  clear hw0
  obtain ⟨a0, a1, a2, a3⟩ := bxa.at4
  obtain ⟨b0, b1, b2, b3⟩ := bxb.at4
  dsimp only at a0 a1 a2 a3 b0 b1 b2 b3
  simp only [Nat.zero_add] at a1 a2 a3 b1 b2 b3
  go_cut [8, 9] from 16 (fun s0 s1 wx => ∃ p q : Nat, s0 = .pointer (some ⟨p, 0, none⟩) ∧ s1 = .pointer (some ⟨q, 0, none⟩) ∧ Ga.Two wx p an am ∧ Ga.Two wx q bn bm ∧ Grew w0 wx)
  case first =>
    clear D D9 D10 D6 D7 H HC
    refine wp_region_held_drew (S := (fun W => W.cell? ⟨w.heap.size, 0, none⟩ = some (.int .i64 5) ∧ W.cell? ⟨w.heap.size, 1, none⟩ = some (.int .i64 an) ∧ W.cell? ⟨w.heap.size, 2, none⟩ = some (.int .i64 am) ∧ W.cell? ⟨w.heap.size, 3, none⟩ = some (.string ⟨ab.toArray⟩) ∧
      W.cell? ⟨w.heap.size + 1, 0, none⟩ = some (.int .i64 5) ∧ W.cell? ⟨w.heap.size + 1, 1, none⟩ = some (.int .i64 bn) ∧ W.cell? ⟨w.heap.size + 1, 2, none⟩ = some (.int .i64 bm) ∧ W.cell? ⟨w.heap.size + 1, 3, none⟩ = some (.string ⟨bb.toArray⟩))) (by kernel_rfl) ?_ (fun hHeld => ?_)
    · ((try dsimp only); (simp (maxDischargeDepth := 12) [go_sem, a0, a1, a2, a3, b0, b1, b2, b3]))
    refine wpAnyH_take (i := 0) (oi := { dst := some 16, op := Op.load 42 (Operand.tmp 4), type := 42, pos := "op.go:148", after := #[], guard := none }) (v := ?_) rfl (by kernel_rfl) (by kernel_rfl) (by kernel_rfl) (fun _ _ _ h => h) (Or.inl ⟨by rfl, ?_⟩) (by assumption) ?_
    rotate_left
    · (intro W hSw; (try dsimp only at hSw); first | (go_simp; done) | (go_simp; with_reducible rfl))
    try simp only [Act.put, List.setIfInBounds_toArray, List.set_cons_zero, List.set_cons_succ]
    refine wpAnyH_take (i := 2) (oi := { dst := some 18, op := Op.load 42 (Operand.tmp 5), type := 42, pos := "op.go:148", after := #[], guard := none }) (v := ?_) rfl (by kernel_rfl) (by kernel_rfl) (by kernel_rfl) (fun _ _ _ h => h) (Or.inl ⟨by rfl, ?_⟩) (by assumption) ?_
    rotate_left
    · (intro W hSw; (try dsimp only at hSw); first | (go_simp; done) | (go_simp; with_reducible rfl))
    try simp only [Act.put, List.setIfInBounds_toArray, List.set_cons_zero, List.set_cons_succ]
    refine wpAnyH_ready (rs := [1, 4, 5]) (by kernel_rfl) (by simp) ?_
    refine AllReadyH.cons (o := { dst := some 17, op := Op.call { callee := Callee.value (Operand.func 155), args := #[Operand.tmp 16], argTypes := #[42] }, type := 149, pos := "op.go:148", after := #[{ on := 0, ground := Ground.data }], guard := none }) rfl (fun K hK => ?_) (AllReadyH.cons (o := { dst := some 8, op := Op.alloc 149, type := 0, pos := "op.go:148", after := #[], guard := none }) rfl (fun K hK => ?_) (AllReadyH.cons (o := { dst := some 9, op := Op.alloc 149, type := 0, pos := "op.go:148", after := #[], guard := none }) rfl (fun K hK => ?_) AllReadyH.nil))
    ·
      go_simp
      go_wp2_with (go_at_call 155; refine (U _ _ _ _ _).mono ?_; rintro e w1 ⟨rfl, os1, n1, rfl⟩)
      refine hK.out _ _ ?_ (fun hHeld => ?_)
      · ((try dsimp only); (simp (maxDischargeDepth := 12) [go_sem, a0, a1, a2, a3, b0, b1, b2, b3, lta, ltb]))
      clear hK K
      try simp only [Act.put, List.setIfInBounds_toArray, List.set_cons_zero, List.set_cons_succ]
      refine wpAnyH_ready (rs := [3, 4, 5]) (by kernel_rfl) (by simp) ?_
      refine AllReadyH.cons (o := { dst := some 19, op := Op.call { callee := Callee.value (Operand.func 155), args := #[Operand.tmp 18], argTypes := #[42] }, type := 149, pos := "op.go:148", after := #[{ on := 2, ground := Ground.data }, { on := 1, ground := Ground.chain }], guard := none }) rfl (fun K hK => ?_) (AllReadyH.cons (o := { dst := some 8, op := Op.alloc 149, type := 0, pos := "op.go:148", after := #[], guard := none }) rfl (fun K hK => ?_) (AllReadyH.cons (o := { dst := some 9, op := Op.alloc 149, type := 0, pos := "op.go:148", after := #[], guard := none }) rfl (fun K hK => ?_) AllReadyH.nil))
      ·
        go_simp
        go_wp2_with (go_at_call 155; refine (U _ _ _ _ _).mono ?_; rintro e w1 ⟨rfl, os1, n1, rfl⟩)
        refine hK.out _ _ ?_ (fun hHeld => ?_)
        · ((try dsimp only); (simp (maxDischargeDepth := 12) [go_sem, a0, a1, a2, a3, b0, b1, b2, b3, lta, ltb]))
        clear hK K
        try simp only [Act.put, List.setIfInBounds_toArray, List.set_cons_zero, List.set_cons_succ]
        refine wpAnyH_ready (rs := [4, 5]) (by kernel_rfl) (by simp) ?_
        refine AllReadyH.cons (o := { dst := some 8, op := Op.alloc 149, type := 0, pos := "op.go:148", after := #[], guard := none }) rfl (fun K hK => ?_) (AllReadyH.cons (o := { dst := some 9, op := Op.alloc 149, type := 0, pos := "op.go:148", after := #[], guard := none }) rfl (fun K hK => ?_) AllReadyH.nil)
        ·
          go_simp
          refine hK.out _ _ ?_ (fun hHeld => ?_)
          · ((try dsimp only); (simp (maxDischargeDepth := 12) [go_sem, a0, a1, a2, a3, b0, b1, b2, b3, lta, ltb]))
          clear hK K
          try simp only [Act.put, List.setIfInBounds_toArray, List.set_cons_zero, List.set_cons_succ]
          refine wpAnyH_ready (rs := [5]) (by kernel_rfl) (by simp) ?_
          refine AllReadyH.cons (o := { dst := some 9, op := Op.alloc 149, type := 0, pos := "op.go:148", after := #[], guard := none }) rfl (fun K hK => ?_) AllReadyH.nil
          go_simp
          refine hK.out _ _ ?_ (fun hHeld => ?_)
          · ((try dsimp only); (simp (maxDischargeDepth := 12) [go_sem, a0, a1, a2, a3, b0, b1, b2, b3, lta, ltb]))
          clear hK K
          try simp only [Act.put, List.setIfInBounds_toArray, List.set_cons_zero, List.set_cons_succ]
          refine wpAnyH_ready (rs := [6]) (by kernel_rfl) (by simp) ?_
          refine AllReadyH.cons (o := { dst := none, op := Op.store 149 (Operand.tmp 8) (Operand.tmp 17), type := 0, pos := "op.go:148", after := #[{ on := 4, ground := Ground.data }, { on := 1, ground := Ground.data }, { on := 3, ground := Ground.chain }, { on := 0, ground := Ground.phase }, { on := 1, ground := Ground.phase }, { on := 2, ground := Ground.textOnly Departure.lateStores }, { on := 3, ground := Ground.textOnly Departure.lateStoresUnsure }, { on := 4, ground := Ground.phase }, { on := 5, ground := Ground.phase }], guard := none }) rfl (fun K hK => ?_) AllReadyH.nil
          go_simp
          refine hK.out _ _ ?_ (fun hHeld => ?_)
          · ((try dsimp only); (simp (maxDischargeDepth := 12) [go_sem, a0, a1, a2, a3, b0, b1, b2, b3, lta, ltb]))
          clear hK K
          try simp only [Act.put, List.setIfInBounds_toArray, List.set_cons_zero, List.set_cons_succ]
          refine wpAnyH_ready (rs := [7]) (by kernel_rfl) (by simp) ?_
          refine AllReadyH.cons (o := { dst := none, op := Op.store 149 (Operand.tmp 9) (Operand.tmp 19), type := 0, pos := "op.go:148", after := #[{ on := 5, ground := Ground.data }, { on := 3, ground := Ground.data }, { on := 6, ground := Ground.chain }, { on := 0, ground := Ground.phase }, { on := 1, ground := Ground.phase }, { on := 2, ground := Ground.phase }, { on := 3, ground := Ground.phase }, { on := 4, ground := Ground.phase }, { on := 5, ground := Ground.phase }, { on := 6, ground := Ground.phase }], guard := none }) rfl (fun K hK => ?_) AllReadyH.nil
          go_simp
          refine hK.out _ _ ?_ (fun hHeld => ?_)
          · ((try dsimp only); (simp (maxDischargeDepth := 12) [go_sem, a0, a1, a2, a3, b0, b1, b2, b3, lta, ltb]))
          clear hK K
          try simp only [Act.put, List.setIfInBounds_toArray, List.set_cons_zero, List.set_cons_succ]
          refine wpAnyH_done (by kernel_rfl) ?_ _
          go_wp2_with fail
          go_meet
          exact ⟨_, _, rfl, rfl, ⟨by simp (maxDischargeDepth := 12) [go_sem], by simp (maxDischargeDepth := 12) [go_sem]⟩, ⟨by simp (maxDischargeDepth := 12) [go_sem], by simp (maxDischargeDepth := 12) [go_sem]⟩, (by repeat (first | assumption | exact Grew.refl _ | apply Grew.drew | apply Grew.drewN | apply Grew.alloc | apply Grew.more))⟩
        ·
          go_simp
          refine hK.out _ _ ?_ (fun hHeld => ?_)
          · ((try dsimp only); (simp (maxDischargeDepth := 12) [go_sem, a0, a1, a2, a3, b0, b1, b2, b3, lta, ltb]))
          clear hK K
          try simp only [Act.put, List.setIfInBounds_toArray, List.set_cons_zero, List.set_cons_succ]
          refine wpAnyH_ready (rs := [4]) (by kernel_rfl) (by simp) ?_
          refine AllReadyH.cons (o := { dst := some 8, op := Op.alloc 149, type := 0, pos := "op.go:148", after := #[], guard := none }) rfl (fun K hK => ?_) AllReadyH.nil
          go_simp
          refine hK.out _ _ ?_ (fun hHeld => ?_)
          · ((try dsimp only); (simp (maxDischargeDepth := 12) [go_sem, a0, a1, a2, a3, b0, b1, b2, b3, lta, ltb]))
          clear hK K
          try simp only [Act.put, List.setIfInBounds_toArray, List.set_cons_zero, List.set_cons_succ]
          refine wpAnyH_ready (rs := [6]) (by kernel_rfl) (by simp) ?_
          refine AllReadyH.cons (o := { dst := none, op := Op.store 149 (Operand.tmp 8) (Operand.tmp 17), type := 0, pos := "op.go:148", after := #[{ on := 4, ground := Ground.data }, { on := 1, ground := Ground.data }, { on := 3, ground := Ground.chain }, { on := 0, ground := Ground.phase }, { on := 1, ground := Ground.phase }, { on := 2, ground := Ground.textOnly Departure.lateStores }, { on := 3, ground := Ground.textOnly Departure.lateStoresUnsure }, { on := 4, ground := Ground.phase }, { on := 5, ground := Ground.phase }], guard := none }) rfl (fun K hK => ?_) AllReadyH.nil
          go_simp
          refine hK.out _ _ ?_ (fun hHeld => ?_)
          · ((try dsimp only); (simp (maxDischargeDepth := 12) [go_sem, a0, a1, a2, a3, b0, b1, b2, b3, lta, ltb]))
          clear hK K
          try simp only [Act.put, List.setIfInBounds_toArray, List.set_cons_zero, List.set_cons_succ]
          refine wpAnyH_ready (rs := [7]) (by kernel_rfl) (by simp) ?_
          refine AllReadyH.cons (o := { dst := none, op := Op.store 149 (Operand.tmp 9) (Operand.tmp 19), type := 0, pos := "op.go:148", after := #[{ on := 5, ground := Ground.data }, { on := 3, ground := Ground.data }, { on := 6, ground := Ground.chain }, { on := 0, ground := Ground.phase }, { on := 1, ground := Ground.phase }, { on := 2, ground := Ground.phase }, { on := 3, ground := Ground.phase }, { on := 4, ground := Ground.phase }, { on := 5, ground := Ground.phase }, { on := 6, ground := Ground.phase }], guard := none }) rfl (fun K hK => ?_) AllReadyH.nil
          go_simp
          refine hK.out _ _ ?_ (fun hHeld => ?_)
          · ((try dsimp only); (simp (maxDischargeDepth := 12) [go_sem, a0, a1, a2, a3, b0, b1, b2, b3, lta, ltb]))
          clear hK K
          try simp only [Act.put, List.setIfInBounds_toArray, List.set_cons_zero, List.set_cons_succ]
          refine wpAnyH_done (by kernel_rfl) ?_ _
          go_wp2_with fail
          go_meet
          exact ⟨_, _, rfl, rfl, ⟨by simp (maxDischargeDepth := 12) [go_sem], by simp (maxDischargeDepth := 12) [go_sem]⟩, ⟨by simp (maxDischargeDepth := 12) [go_sem], by simp (maxDischargeDepth := 12) [go_sem]⟩, (by repeat (first | assumption | exact Grew.refl _ | apply Grew.drew | apply Grew.drewN | apply Grew.alloc | apply Grew.more))⟩
      ·
        go_simp
        refine hK.out _ _ ?_ (fun hHeld => ?_)
        · ((try dsimp only); (simp (maxDischargeDepth := 12) [go_sem, a0, a1, a2, a3, b0, b1, b2, b3, lta, ltb]))
        clear hK K
        try simp only [Act.put, List.setIfInBounds_toArray, List.set_cons_zero, List.set_cons_succ]
        refine wpAnyH_ready (rs := [3, 5]) (by kernel_rfl) (by simp) ?_
        refine AllReadyH.cons (o := { dst := some 19, op := Op.call { callee := Callee.value (Operand.func 155), args := #[Operand.tmp 18], argTypes := #[42] }, type := 149, pos := "op.go:148", after := #[{ on := 2, ground := Ground.data }, { on := 1, ground := Ground.chain }], guard := none }) rfl (fun K hK => ?_) (AllReadyH.cons (o := { dst := some 9, op := Op.alloc 149, type := 0, pos := "op.go:148", after := #[], guard := none }) rfl (fun K hK => ?_) AllReadyH.nil)
        ·
          go_simp
          go_wp2_with (go_at_call 155; refine (U _ _ _ _ _).mono ?_; rintro e w1 ⟨rfl, os1, n1, rfl⟩)
          refine hK.out _ _ ?_ (fun hHeld => ?_)
          · ((try dsimp only); (simp (maxDischargeDepth := 12) [go_sem, a0, a1, a2, a3, b0, b1, b2, b3, lta, ltb]))
          clear hK K
          try simp only [Act.put, List.setIfInBounds_toArray, List.set_cons_zero, List.set_cons_succ]
          refine wpAnyH_ready (rs := [5]) (by kernel_rfl) (by simp) ?_
          refine AllReadyH.cons (o := { dst := some 9, op := Op.alloc 149, type := 0, pos := "op.go:148", after := #[], guard := none }) rfl (fun K hK => ?_) AllReadyH.nil
          go_simp
          refine hK.out _ _ ?_ (fun hHeld => ?_)
          · ((try dsimp only); (simp (maxDischargeDepth := 12) [go_sem, a0, a1, a2, a3, b0, b1, b2, b3, lta, ltb]))
          clear hK K
          try simp only [Act.put, List.setIfInBounds_toArray, List.set_cons_zero, List.set_cons_succ]
          refine wpAnyH_ready (rs := [6]) (by kernel_rfl) (by simp) ?_
          refine AllReadyH.cons (o := { dst := none, op := Op.store 149 (Operand.tmp 8) (Operand.tmp 17), type := 0, pos := "op.go:148", after := #[{ on := 4, ground := Ground.data }, { on := 1, ground := Ground.data }, { on := 3, ground := Ground.chain }, { on := 0, ground := Ground.phase }, { on := 1, ground := Ground.phase }, { on := 2, ground := Ground.textOnly Departure.lateStores }, { on := 3, ground := Ground.textOnly Departure.lateStoresUnsure }, { on := 4, ground := Ground.phase }, { on := 5, ground := Ground.phase }], guard := none }) rfl (fun K hK => ?_) AllReadyH.nil
          go_simp
          refine hK.out _ _ ?_ (fun hHeld => ?_)
          · ((try dsimp only); (simp (maxDischargeDepth := 12) [go_sem, a0, a1, a2, a3, b0, b1, b2, b3, lta, ltb]))
          clear hK K
          try simp only [Act.put, List.setIfInBounds_toArray, List.set_cons_zero, List.set_cons_succ]
          refine wpAnyH_ready (rs := [7]) (by kernel_rfl) (by simp) ?_
          refine AllReadyH.cons (o := { dst := none, op := Op.store 149 (Operand.tmp 9) (Operand.tmp 19), type := 0, pos := "op.go:148", after := #[{ on := 5, ground := Ground.data }, { on := 3, ground := Ground.data }, { on := 6, ground := Ground.chain }, { on := 0, ground := Ground.phase }, { on := 1, ground := Ground.phase }, { on := 2, ground := Ground.phase }, { on := 3, ground := Ground.phase }, { on := 4, ground := Ground.phase }, { on := 5, ground := Ground.phase }, { on := 6, ground := Ground.phase }], guard := none }) rfl (fun K hK => ?_) AllReadyH.nil
          go_simp
          refine hK.out _ _ ?_ (fun hHeld => ?_)
          · ((try dsimp only); (simp (maxDischargeDepth := 12) [go_sem, a0, a1, a2, a3, b0, b1, b2, b3, lta, ltb]))
          clear hK K
          try simp only [Act.put, List.setIfInBounds_toArray, List.set_cons_zero, List.set_cons_succ]
          refine wpAnyH_done (by kernel_rfl) ?_ _
          go_wp2_with fail
          go_meet
          exact ⟨_, _, rfl, rfl, ⟨by simp (maxDischargeDepth := 12) [go_sem], by simp (maxDischargeDepth := 12) [go_sem]⟩, ⟨by simp (maxDischargeDepth := 12) [go_sem], by simp (maxDischargeDepth := 12) [go_sem]⟩, (by repeat (first | assumption | exact Grew.refl _ | apply Grew.drew | apply Grew.drewN | apply Grew.alloc | apply Grew.more))⟩
        ·
          go_simp
          refine hK.out _ _ ?_ (fun hHeld => ?_)
          · ((try dsimp only); (simp (maxDischargeDepth := 12) [go_sem, a0, a1, a2, a3, b0, b1, b2, b3, lta, ltb]))
          clear hK K
          try simp only [Act.put, List.setIfInBounds_toArray, List.set_cons_zero, List.set_cons_succ]
          refine wpAnyH_ready (rs := [3]) (by kernel_rfl) (by simp) ?_
          refine AllReadyH.cons (o := { dst := some 19, op := Op.call { callee := Callee.value (Operand.func 155), args := #[Operand.tmp 18], argTypes := #[42] }, type := 149, pos := "op.go:148", after := #[{ on := 2, ground := Ground.data }, { on := 1, ground := Ground.chain }], guard := none }) rfl (fun K hK => ?_) AllReadyH.nil
          go_simp
          go_wp2_with (go_at_call 155; refine (U _ _ _ _ _).mono ?_; rintro e w1 ⟨rfl, os1, n1, rfl⟩)
          refine hK.out _ _ ?_ (fun hHeld => ?_)
          · ((try dsimp only); (simp (maxDischargeDepth := 12) [go_sem, a0, a1, a2, a3, b0, b1, b2, b3, lta, ltb]))
          clear hK K
          try simp only [Act.put, List.setIfInBounds_toArray, List.set_cons_zero, List.set_cons_succ]
          refine wpAnyH_ready (rs := [6]) (by kernel_rfl) (by simp) ?_
          refine AllReadyH.cons (o := { dst := none, op := Op.store 149 (Operand.tmp 8) (Operand.tmp 17), type := 0, pos := "op.go:148", after := #[{ on := 4, ground := Ground.data }, { on := 1, ground := Ground.data }, { on := 3, ground := Ground.chain }, { on := 0, ground := Ground.phase }, { on := 1, ground := Ground.phase }, { on := 2, ground := Ground.textOnly Departure.lateStores }, { on := 3, ground := Ground.textOnly Departure.lateStoresUnsure }, { on := 4, ground := Ground.phase }, { on := 5, ground := Ground.phase }], guard := none }) rfl (fun K hK => ?_) AllReadyH.nil
          go_simp
          refine hK.out _ _ ?_ (fun hHeld => ?_)
          · ((try dsimp only); (simp (maxDischargeDepth := 12) [go_sem, a0, a1, a2, a3, b0, b1, b2, b3, lta, ltb]))
          clear hK K
          try simp only [Act.put, List.setIfInBounds_toArray, List.set_cons_zero, List.set_cons_succ]
          refine wpAnyH_ready (rs := [7]) (by kernel_rfl) (by simp) ?_
          refine AllReadyH.cons (o := { dst := none, op := Op.store 149 (Operand.tmp 9) (Operand.tmp 19), type := 0, pos := "op.go:148", after := #[{ on := 5, ground := Ground.data }, { on := 3, ground := Ground.data }, { on := 6, ground := Ground.chain }, { on := 0, ground := Ground.phase }, { on := 1, ground := Ground.phase }, { on := 2, ground := Ground.phase }, { on := 3, ground := Ground.phase }, { on := 4, ground := Ground.phase }, { on := 5, ground := Ground.phase }, { on := 6, ground := Ground.phase }], guard := none }) rfl (fun K hK => ?_) AllReadyH.nil
          go_simp
          refine hK.out _ _ ?_ (fun hHeld => ?_)
          · ((try dsimp only); (simp (maxDischargeDepth := 12) [go_sem, a0, a1, a2, a3, b0, b1, b2, b3, lta, ltb]))
          clear hK K
          try simp only [Act.put, List.setIfInBounds_toArray, List.set_cons_zero, List.set_cons_succ]
          refine wpAnyH_done (by kernel_rfl) ?_ _
          go_wp2_with fail
          go_meet
          exact ⟨_, _, rfl, rfl, ⟨by simp (maxDischargeDepth := 12) [go_sem], by simp (maxDischargeDepth := 12) [go_sem]⟩, ⟨by simp (maxDischargeDepth := 12) [go_sem], by simp (maxDischargeDepth := 12) [go_sem]⟩, (by repeat (first | assumption | exact Grew.refl _ | apply Grew.drew | apply Grew.drewN | apply Grew.alloc | apply Grew.more))⟩
      ·
        go_simp
        refine hK.out _ _ ?_ (fun hHeld => ?_)
        · ((try dsimp only); (simp (maxDischargeDepth := 12) [go_sem, a0, a1, a2, a3, b0, b1, b2, b3, lta, ltb]))
        clear hK K
        try simp only [Act.put, List.setIfInBounds_toArray, List.set_cons_zero, List.set_cons_succ]
        refine wpAnyH_ready (rs := [3, 4]) (by kernel_rfl) (by simp) ?_
        refine AllReadyH.cons (o := { dst := some 19, op := Op.call { callee := Callee.value (Operand.func 155), args := #[Operand.tmp 18], argTypes := #[42] }, type := 149, pos := "op.go:148", after := #[{ on := 2, ground := Ground.data }, { on := 1, ground := Ground.chain }], guard := none }) rfl (fun K hK => ?_) (AllReadyH.cons (o := { dst := some 8, op := Op.alloc 149, type := 0, pos := "op.go:148", after := #[], guard := none }) rfl (fun K hK => ?_) AllReadyH.nil)
        ·
          go_simp
          go_wp2_with (go_at_call 155; refine (U _ _ _ _ _).mono ?_; rintro e w1 ⟨rfl, os1, n1, rfl⟩)
          refine hK.out _ _ ?_ (fun hHeld => ?_)
          · ((try dsimp only); (simp (maxDischargeDepth := 12) [go_sem, a0, a1, a2, a3, b0, b1, b2, b3, lta, ltb]))
          clear hK K
          try simp only [Act.put, List.setIfInBounds_toArray, List.set_cons_zero, List.set_cons_succ]
          refine wpAnyH_ready (rs := [4]) (by kernel_rfl) (by simp) ?_
          refine AllReadyH.cons (o := { dst := some 8, op := Op.alloc 149, type := 0, pos := "op.go:148", after := #[], guard := none }) rfl (fun K hK => ?_) AllReadyH.nil
          go_simp
          refine hK.out _ _ ?_ (fun hHeld => ?_)
          · ((try dsimp only); (simp (maxDischargeDepth := 12) [go_sem, a0, a1, a2, a3, b0, b1, b2, b3, lta, ltb]))
          clear hK K
          try simp only [Act.put, List.setIfInBounds_toArray, List.set_cons_zero, List.set_cons_succ]
          refine wpAnyH_ready (rs := [6]) (by kernel_rfl) (by simp) ?_
          refine AllReadyH.cons (o := { dst := none, op := Op.store 149 (Operand.tmp 8) (Operand.tmp 17), type := 0, pos := "op.go:148", after := #[{ on := 4, ground := Ground.data }, { on := 1, ground := Ground.data }, { on := 3, ground := Ground.chain }, { on := 0, ground := Ground.phase }, { on := 1, ground := Ground.phase }, { on := 2, ground := Ground.textOnly Departure.lateStores }, { on := 3, ground := Ground.textOnly Departure.lateStoresUnsure }, { on := 4, ground := Ground.phase }, { on := 5, ground := Ground.phase }], guard := none }) rfl (fun K hK => ?_) AllReadyH.nil
          go_simp
          refine hK.out _ _ ?_ (fun hHeld => ?_)
          · ((try dsimp only); (simp (maxDischargeDepth := 12) [go_sem, a0, a1, a2, a3, b0, b1, b2, b3, lta, ltb]))
          clear hK K
          try simp only [Act.put, List.setIfInBounds_toArray, List.set_cons_zero, List.set_cons_succ]
          refine wpAnyH_ready (rs := [7]) (by kernel_rfl) (by simp) ?_
          refine AllReadyH.cons (o := { dst := none, op := Op.store 149 (Operand.tmp 9) (Operand.tmp 19), type := 0, pos := "op.go:148", after := #[{ on := 5, ground := Ground.data }, { on := 3, ground := Ground.data }, { on := 6, ground := Ground.chain }, { on := 0, ground := Ground.phase }, { on := 1, ground := Ground.phase }, { on := 2, ground := Ground.phase }, { on := 3, ground := Ground.phase }, { on := 4, ground := Ground.phase }, { on := 5, ground := Ground.phase }, { on := 6, ground := Ground.phase }], guard := none }) rfl (fun K hK => ?_) AllReadyH.nil
          go_simp
          refine hK.out _ _ ?_ (fun hHeld => ?_)
          · ((try dsimp only); (simp (maxDischargeDepth := 12) [go_sem, a0, a1, a2, a3, b0, b1, b2, b3, lta, ltb]))
          clear hK K
          try simp only [Act.put, List.setIfInBounds_toArray, List.set_cons_zero, List.set_cons_succ]
          refine wpAnyH_done (by kernel_rfl) ?_ _
          go_wp2_with fail
          go_meet
          exact ⟨_, _, rfl, rfl, ⟨by simp (maxDischargeDepth := 12) [go_sem], by simp (maxDischargeDepth := 12) [go_sem]⟩, ⟨by simp (maxDischargeDepth := 12) [go_sem], by simp (maxDischargeDepth := 12) [go_sem]⟩, (by repeat (first | assumption | exact Grew.refl _ | apply Grew.drew | apply Grew.drewN | apply Grew.alloc | apply Grew.more))⟩
        ·
          go_simp
          refine hK.out _ _ ?_ (fun hHeld => ?_)
          · ((try dsimp only); (simp (maxDischargeDepth := 12) [go_sem, a0, a1, a2, a3, b0, b1, b2, b3, lta, ltb]))
          clear hK K
          try simp only [Act.put, List.setIfInBounds_toArray, List.set_cons_zero, List.set_cons_succ]
          refine wpAnyH_ready (rs := [3]) (by kernel_rfl) (by simp) ?_
          refine AllReadyH.cons (o := { dst := some 19, op := Op.call { callee := Callee.value (Operand.func 155), args := #[Operand.tmp 18], argTypes := #[42] }, type := 149, pos := "op.go:148", after := #[{ on := 2, ground := Ground.data }, { on := 1, ground := Ground.chain }], guard := none }) rfl (fun K hK => ?_) AllReadyH.nil
          go_simp
          go_wp2_with (go_at_call 155; refine (U _ _ _ _ _).mono ?_; rintro e w1 ⟨rfl, os1, n1, rfl⟩)
          refine hK.out _ _ ?_ (fun hHeld => ?_)
          · ((try dsimp only); (simp (maxDischargeDepth := 12) [go_sem, a0, a1, a2, a3, b0, b1, b2, b3, lta, ltb]))
          clear hK K
          try simp only [Act.put, List.setIfInBounds_toArray, List.set_cons_zero, List.set_cons_succ]
          refine wpAnyH_ready (rs := [6]) (by kernel_rfl) (by simp) ?_
          refine AllReadyH.cons (o := { dst := none, op := Op.store 149 (Operand.tmp 8) (Operand.tmp 17), type := 0, pos := "op.go:148", after := #[{ on := 4, ground := Ground.data }, { on := 1, ground := Ground.data }, { on := 3, ground := Ground.chain }, { on := 0, ground := Ground.phase }, { on := 1, ground := Ground.phase }, { on := 2, ground := Ground.textOnly Departure.lateStores }, { on := 3, ground := Ground.textOnly Departure.lateStoresUnsure }, { on := 4, ground := Ground.phase }, { on := 5, ground := Ground.phase }], guard := none }) rfl (fun K hK => ?_) AllReadyH.nil
          go_simp
          refine hK.out _ _ ?_ (fun hHeld => ?_)
          · ((try dsimp only); (simp (maxDischargeDepth := 12) [go_sem, a0, a1, a2, a3, b0, b1, b2, b3, lta, ltb]))
          clear hK K
          try simp only [Act.put, List.setIfInBounds_toArray, List.set_cons_zero, List.set_cons_succ]
          refine wpAnyH_ready (rs := [7]) (by kernel_rfl) (by simp) ?_
          refine AllReadyH.cons (o := { dst := none, op := Op.store 149 (Operand.tmp 9) (Operand.tmp 19), type := 0, pos := "op.go:148", after := #[{ on := 5, ground := Ground.data }, { on := 3, ground := Ground.data }, { on := 6, ground := Ground.chain }, { on := 0, ground := Ground.phase }, { on := 1, ground := Ground.phase }, { on := 2, ground := Ground.phase }, { on := 3, ground := Ground.phase }, { on := 4, ground := Ground.phase }, { on := 5, ground := Ground.phase }, { on := 6, ground := Ground.phase }], guard := none }) rfl (fun K hK => ?_) AllReadyH.nil
          go_simp
          refine hK.out _ _ ?_ (fun hHeld => ?_)
          · ((try dsimp only); (simp (maxDischargeDepth := 12) [go_sem, a0, a1, a2, a3, b0, b1, b2, b3, lta, ltb]))
          clear hK K
          try simp only [Act.put, List.setIfInBounds_toArray, List.set_cons_zero, List.set_cons_succ]
          refine wpAnyH_done (by kernel_rfl) ?_ _
          go_wp2_with fail
          go_meet
          exact ⟨_, _, rfl, rfl, ⟨by simp (maxDischargeDepth := 12) [go_sem], by simp (maxDischargeDepth := 12) [go_sem]⟩, ⟨by simp (maxDischargeDepth := 12) [go_sem], by simp (maxDischargeDepth := 12) [go_sem]⟩, (by repeat (first | assumption | exact Grew.refl _ | apply Grew.drew | apply Grew.drewN | apply Grew.alloc | apply Grew.more))⟩
    ·
      go_simp
      refine hK.out _ _ ?_ (fun hHeld => ?_)
      · ((try dsimp only); (simp (maxDischargeDepth := 12) [go_sem, a0, a1, a2, a3, b0, b1, b2, b3, lta, ltb]))
      clear hK K
      try simp only [Act.put, List.setIfInBounds_toArray, List.set_cons_zero, List.set_cons_succ]
      refine wpAnyH_ready (rs := [1, 5]) (by kernel_rfl) (by simp) ?_
      refine AllReadyH.cons (o := { dst := some 17, op := Op.call { callee := Callee.value (Operand.func 155), args := #[Operand.tmp 16], argTypes := #[42] }, type := 149, pos := "op.go:148", after := #[{ on := 0, ground := Ground.data }], guard := none }) rfl (fun K hK => ?_) (AllReadyH.cons (o := { dst := some 9, op := Op.alloc 149, type := 0, pos := "op.go:148", after := #[], guard := none }) rfl (fun K hK => ?_) AllReadyH.nil)
      ·
        go_simp
        go_wp2_with (go_at_call 155; refine (U _ _ _ _ _).mono ?_; rintro e w1 ⟨rfl, os1, n1, rfl⟩)
        refine hK.out _ _ ?_ (fun hHeld => ?_)
        · ((try dsimp only); (simp (maxDischargeDepth := 12) [go_sem, a0, a1, a2, a3, b0, b1, b2, b3, lta, ltb]))
        clear hK K
        try simp only [Act.put, List.setIfInBounds_toArray, List.set_cons_zero, List.set_cons_succ]
        refine wpAnyH_ready (rs := [3, 5]) (by kernel_rfl) (by simp) ?_
        refine AllReadyH.cons (o := { dst := some 19, op := Op.call { callee := Callee.value (Operand.func 155), args := #[Operand.tmp 18], argTypes := #[42] }, type := 149, pos := "op.go:148", after := #[{ on := 2, ground := Ground.data }, { on := 1, ground := Ground.chain }], guard := none }) rfl (fun K hK => ?_) (AllReadyH.cons (o := { dst := some 9, op := Op.alloc 149, type := 0, pos := "op.go:148", after := #[], guard := none }) rfl (fun K hK => ?_) AllReadyH.nil)
        ·
          go_simp
          go_wp2_with (go_at_call 155; refine (U _ _ _ _ _).mono ?_; rintro e w1 ⟨rfl, os1, n1, rfl⟩)
          refine hK.out _ _ ?_ (fun hHeld => ?_)
          · ((try dsimp only); (simp (maxDischargeDepth := 12) [go_sem, a0, a1, a2, a3, b0, b1, b2, b3, lta, ltb]))
          clear hK K
          try simp only [Act.put, List.setIfInBounds_toArray, List.set_cons_zero, List.set_cons_succ]
          refine wpAnyH_ready (rs := [5]) (by kernel_rfl) (by simp) ?_
          refine AllReadyH.cons (o := { dst := some 9, op := Op.alloc 149, type := 0, pos := "op.go:148", after := #[], guard := none }) rfl (fun K hK => ?_) AllReadyH.nil
          go_simp
          refine hK.out _ _ ?_ (fun hHeld => ?_)
          · ((try dsimp only); (simp (maxDischargeDepth := 12) [go_sem, a0, a1, a2, a3, b0, b1, b2, b3, lta, ltb]))
          clear hK K
          try simp only [Act.put, List.setIfInBounds_toArray, List.set_cons_zero, List.set_cons_succ]
          refine wpAnyH_ready (rs := [6]) (by kernel_rfl) (by simp) ?_
          refine AllReadyH.cons (o := { dst := none, op := Op.store 149 (Operand.tmp 8) (Operand.tmp 17), type := 0, pos := "op.go:148", after := #[{ on := 4, ground := Ground.data }, { on := 1, ground := Ground.data }, { on := 3, ground := Ground.chain }, { on := 0, ground := Ground.phase }, { on := 1, ground := Ground.phase }, { on := 2, ground := Ground.textOnly Departure.lateStores }, { on := 3, ground := Ground.textOnly Departure.lateStoresUnsure }, { on := 4, ground := Ground.phase }, { on := 5, ground := Ground.phase }], guard := none }) rfl (fun K hK => ?_) AllReadyH.nil
          go_simp
          refine hK.out _ _ ?_ (fun hHeld => ?_)
          · ((try dsimp only); (simp (maxDischargeDepth := 12) [go_sem, a0, a1, a2, a3, b0, b1, b2, b3, lta, ltb]))
          clear hK K
          try simp only [Act.put, List.setIfInBounds_toArray, List.set_cons_zero, List.set_cons_succ]
          refine wpAnyH_ready (rs := [7]) (by kernel_rfl) (by simp) ?_
          refine AllReadyH.cons (o := { dst := none, op := Op.store 149 (Operand.tmp 9) (Operand.tmp 19), type := 0, pos := "op.go:148", after := #[{ on := 5, ground := Ground.data }, { on := 3, ground := Ground.data }, { on := 6, ground := Ground.chain }, { on := 0, ground := Ground.phase }, { on := 1, ground := Ground.phase }, { on := 2, ground := Ground.phase }, { on := 3, ground := Ground.phase }, { on := 4, ground := Ground.phase }, { on := 5, ground := Ground.phase }, { on := 6, ground := Ground.phase }], guard := none }) rfl (fun K hK => ?_) AllReadyH.nil
          go_simp
          refine hK.out _ _ ?_ (fun hHeld => ?_)
          · ((try dsimp only); (simp (maxDischargeDepth := 12) [go_sem, a0, a1, a2, a3, b0, b1, b2, b3, lta, ltb]))
          clear hK K
          try simp only [Act.put, List.setIfInBounds_toArray, List.set_cons_zero, List.set_cons_succ]
          refine wpAnyH_done (by kernel_rfl) ?_ _
          go_wp2_with fail
          go_meet
          exact ⟨_, _, rfl, rfl, ⟨by simp (maxDischargeDepth := 12) [go_sem], by simp (maxDischargeDepth := 12) [go_sem]⟩, ⟨by simp (maxDischargeDepth := 12) [go_sem], by simp (maxDischargeDepth := 12) [go_sem]⟩, (by repeat (first | assumption | exact Grew.refl _ | apply Grew.drew | apply Grew.drewN | apply Grew.alloc | apply Grew.more))⟩
        ·
          go_simp
          refine hK.out _ _ ?_ (fun hHeld => ?_)
          · ((try dsimp only); (simp (maxDischargeDepth := 12) [go_sem, a0, a1, a2, a3, b0, b1, b2, b3, lta, ltb]))
          clear hK K
          try simp only [Act.put, List.setIfInBounds_toArray, List.set_cons_zero, List.set_cons_succ]
          refine wpAnyH_ready (rs := [3]) (by kernel_rfl) (by simp) ?_
          refine AllReadyH.cons (o := { dst := some 19, op := Op.call { callee := Callee.value (Operand.func 155), args := #[Operand.tmp 18], argTypes := #[42] }, type := 149, pos := "op.go:148", after := #[{ on := 2, ground := Ground.data }, { on := 1, ground := Ground.chain }], guard := none }) rfl (fun K hK => ?_) AllReadyH.nil
          go_simp
          go_wp2_with (go_at_call 155; refine (U _ _ _ _ _).mono ?_; rintro e w1 ⟨rfl, os1, n1, rfl⟩)
          refine hK.out _ _ ?_ (fun hHeld => ?_)
          · ((try dsimp only); (simp (maxDischargeDepth := 12) [go_sem, a0, a1, a2, a3, b0, b1, b2, b3, lta, ltb]))
          clear hK K
          try simp only [Act.put, List.setIfInBounds_toArray, List.set_cons_zero, List.set_cons_succ]
          refine wpAnyH_ready (rs := [6]) (by kernel_rfl) (by simp) ?_
          refine AllReadyH.cons (o := { dst := none, op := Op.store 149 (Operand.tmp 8) (Operand.tmp 17), type := 0, pos := "op.go:148", after := #[{ on := 4, ground := Ground.data }, { on := 1, ground := Ground.data }, { on := 3, ground := Ground.chain }, { on := 0, ground := Ground.phase }, { on := 1, ground := Ground.phase }, { on := 2, ground := Ground.textOnly Departure.lateStores }, { on := 3, ground := Ground.textOnly Departure.lateStoresUnsure }, { on := 4, ground := Ground.phase }, { on := 5, ground := Ground.phase }], guard := none }) rfl (fun K hK => ?_) AllReadyH.nil
          go_simp
          refine hK.out _ _ ?_ (fun hHeld => ?_)
          · ((try dsimp only); (simp (maxDischargeDepth := 12) [go_sem, a0, a1, a2, a3, b0, b1, b2, b3, lta, ltb]))
          clear hK K
          try simp only [Act.put, List.setIfInBounds_toArray, List.set_cons_zero, List.set_cons_succ]
          refine wpAnyH_ready (rs := [7]) (by kernel_rfl) (by simp) ?_
          refine AllReadyH.cons (o := { dst := none, op := Op.store 149 (Operand.tmp 9) (Operand.tmp 19), type := 0, pos := "op.go:148", after := #[{ on := 5, ground := Ground.data }, { on := 3, ground := Ground.data }, { on := 6, ground := Ground.chain }, { on := 0, ground := Ground.phase }, { on := 1, ground := Ground.phase }, { on := 2, ground := Ground.phase }, { on := 3, ground := Ground.phase }, { on := 4, ground := Ground.phase }, { on := 5, ground := Ground.phase }, { on := 6, ground := Ground.phase }], guard := none }) rfl (fun K hK => ?_) AllReadyH.nil
          go_simp
          refine hK.out _ _ ?_ (fun hHeld => ?_)
          · ((try dsimp only); (simp (maxDischargeDepth := 12) [go_sem, a0, a1, a2, a3, b0, b1, b2, b3, lta, ltb]))
          clear hK K
          try simp only [Act.put, List.setIfInBounds_toArray, List.set_cons_zero, List.set_cons_succ]
          refine wpAnyH_done (by kernel_rfl) ?_ _
          go_wp2_with fail
          go_meet
          exact ⟨_, _, rfl, rfl, ⟨by simp (maxDischargeDepth := 12) [go_sem], by simp (maxDischargeDepth := 12) [go_sem]⟩, ⟨by simp (maxDischargeDepth := 12) [go_sem], by simp (maxDischargeDepth := 12) [go_sem]⟩, (by repeat (first | assumption | exact Grew.refl _ | apply Grew.drew | apply Grew.drewN | apply Grew.alloc | apply Grew.more))⟩
      ·
        go_simp
        refine hK.out _ _ ?_ (fun hHeld => ?_)
        · ((try dsimp only); (simp (maxDischargeDepth := 12) [go_sem, a0, a1, a2, a3, b0, b1, b2, b3, lta, ltb]))
        clear hK K
        try simp only [Act.put, List.setIfInBounds_toArray, List.set_cons_zero, List.set_cons_succ]
        refine wpAnyH_ready (rs := [1]) (by kernel_rfl) (by simp) ?_
        refine AllReadyH.cons (o := { dst := some 17, op := Op.call { callee := Callee.value (Operand.func 155), args := #[Operand.tmp 16], argTypes := #[42] }, type := 149, pos := "op.go:148", after := #[{ on := 0, ground := Ground.data }], guard := none }) rfl (fun K hK => ?_) AllReadyH.nil
        go_simp
        go_wp2_with (go_at_call 155; refine (U _ _ _ _ _).mono ?_; rintro e w1 ⟨rfl, os1, n1, rfl⟩)
        refine hK.out _ _ ?_ (fun hHeld => ?_)
        · ((try dsimp only); (simp (maxDischargeDepth := 12) [go_sem, a0, a1, a2, a3, b0, b1, b2, b3, lta, ltb]))
        clear hK K
        try simp only [Act.put, List.setIfInBounds_toArray, List.set_cons_zero, List.set_cons_succ]
        refine wpAnyH_ready (rs := [3]) (by kernel_rfl) (by simp) ?_
        refine AllReadyH.cons (o := { dst := some 19, op := Op.call { callee := Callee.value (Operand.func 155), args := #[Operand.tmp 18], argTypes := #[42] }, type := 149, pos := "op.go:148", after := #[{ on := 2, ground := Ground.data }, { on := 1, ground := Ground.chain }], guard := none }) rfl (fun K hK => ?_) AllReadyH.nil
        go_simp
        go_wp2_with (go_at_call 155; refine (U _ _ _ _ _).mono ?_; rintro e w1 ⟨rfl, os1, n1, rfl⟩)
        refine hK.out _ _ ?_ (fun hHeld => ?_)
        · ((try dsimp only); (simp (maxDischargeDepth := 12) [go_sem, a0, a1, a2, a3, b0, b1, b2, b3, lta, ltb]))
        clear hK K
        try simp only [Act.put, List.setIfInBounds_toArray, List.set_cons_zero, List.set_cons_succ]
        refine wpAnyH_ready (rs := [6]) (by kernel_rfl) (by simp) ?_
        refine AllReadyH.cons (o := { dst := none, op := Op.store 149 (Operand.tmp 8) (Operand.tmp 17), type := 0, pos := "op.go:148", after := #[{ on := 4, ground := Ground.data }, { on := 1, ground := Ground.data }, { on := 3, ground := Ground.chain }, { on := 0, ground := Ground.phase }, { on := 1, ground := Ground.phase }, { on := 2, ground := Ground.textOnly Departure.lateStores }, { on := 3, ground := Ground.textOnly Departure.lateStoresUnsure }, { on := 4, ground := Ground.phase }, { on := 5, ground := Ground.phase }], guard := none }) rfl (fun K hK => ?_) AllReadyH.nil
        go_simp
        refine hK.out _ _ ?_ (fun hHeld => ?_)
        · ((try dsimp only); (simp (maxDischargeDepth := 12) [go_sem, a0, a1, a2, a3, b0, b1, b2, b3, lta, ltb]))
        clear hK K
        try simp only [Act.put, List.setIfInBounds_toArray, List.set_cons_zero, List.set_cons_succ]
        refine wpAnyH_ready (rs := [7]) (by kernel_rfl) (by simp) ?_
        refine AllReadyH.cons (o := { dst := none, op := Op.store 149 (Operand.tmp 9) (Operand.tmp 19), type := 0, pos := "op.go:148", after := #[{ on := 5, ground := Ground.data }, { on := 3, ground := Ground.data }, { on := 6, ground := Ground.chain }, { on := 0, ground := Ground.phase }, { on := 1, ground := Ground.phase }, { on := 2, ground := Ground.phase }, { on := 3, ground := Ground.phase }, { on := 4, ground := Ground.phase }, { on := 5, ground := Ground.phase }, { on := 6, ground := Ground.phase }], guard := none }) rfl (fun K hK => ?_) AllReadyH.nil
        go_simp
        refine hK.out _ _ ?_ (fun hHeld => ?_)
        · ((try dsimp only); (simp (maxDischargeDepth := 12) [go_sem, a0, a1, a2, a3, b0, b1, b2, b3, lta, ltb]))
        clear hK K
        try simp only [Act.put, List.setIfInBounds_toArray, List.set_cons_zero, List.set_cons_succ]
        refine wpAnyH_done (by kernel_rfl) ?_ _
        go_wp2_with fail
        go_meet
        exact ⟨_, _, rfl, rfl, ⟨by simp (maxDischargeDepth := 12) [go_sem], by simp (maxDischargeDepth := 12) [go_sem]⟩, ⟨by simp (maxDischargeDepth := 12) [go_sem], by simp (maxDischargeDepth := 12) [go_sem]⟩, (by repeat (first | assumption | exact Grew.refl _ | apply Grew.drew | apply Grew.drewN | apply Grew.alloc | apply Grew.more))⟩
    ·
      go_simp
      refine hK.out _ _ ?_ (fun hHeld => ?_)
      · ((try dsimp only); (simp (maxDischargeDepth := 12) [go_sem, a0, a1, a2, a3, b0, b1, b2, b3, lta, ltb]))
      clear hK K
      try simp only [Act.put, List.setIfInBounds_toArray, List.set_cons_zero, List.set_cons_succ]
      refine wpAnyH_ready (rs := [1, 4]) (by kernel_rfl) (by simp) ?_
      refine AllReadyH.cons (o := { dst := some 17, op := Op.call { callee := Callee.value (Operand.func 155), args := #[Operand.tmp 16], argTypes := #[42] }, type := 149, pos := "op.go:148", after := #[{ on := 0, ground := Ground.data }], guard := none }) rfl (fun K hK => ?_) (AllReadyH.cons (o := { dst := some 8, op := Op.alloc 149, type := 0, pos := "op.go:148", after := #[], guard := none }) rfl (fun K hK => ?_) AllReadyH.nil)
      ·
        go_simp
        go_wp2_with (go_at_call 155; refine (U _ _ _ _ _).mono ?_; rintro e w1 ⟨rfl, os1, n1, rfl⟩)
        refine hK.out _ _ ?_ (fun hHeld => ?_)
        · ((try dsimp only); (simp (maxDischargeDepth := 12) [go_sem, a0, a1, a2, a3, b0, b1, b2, b3, lta, ltb]))
        clear hK K
        try simp only [Act.put, List.setIfInBounds_toArray, List.set_cons_zero, List.set_cons_succ]
        refine wpAnyH_ready (rs := [3, 4]) (by kernel_rfl) (by simp) ?_
        refine AllReadyH.cons (o := { dst := some 19, op := Op.call { callee := Callee.value (Operand.func 155), args := #[Operand.tmp 18], argTypes := #[42] }, type := 149, pos := "op.go:148", after := #[{ on := 2, ground := Ground.data }, { on := 1, ground := Ground.chain }], guard := none }) rfl (fun K hK => ?_) (AllReadyH.cons (o := { dst := some 8, op := Op.alloc 149, type := 0, pos := "op.go:148", after := #[], guard := none }) rfl (fun K hK => ?_) AllReadyH.nil)
        ·
          go_simp
          go_wp2_with (go_at_call 155; refine (U _ _ _ _ _).mono ?_; rintro e w1 ⟨rfl, os1, n1, rfl⟩)
          refine hK.out _ _ ?_ (fun hHeld => ?_)
          · ((try dsimp only); (simp (maxDischargeDepth := 12) [go_sem, a0, a1, a2, a3, b0, b1, b2, b3, lta, ltb]))
          clear hK K
          try simp only [Act.put, List.setIfInBounds_toArray, List.set_cons_zero, List.set_cons_succ]
          refine wpAnyH_ready (rs := [4]) (by kernel_rfl) (by simp) ?_
          refine AllReadyH.cons (o := { dst := some 8, op := Op.alloc 149, type := 0, pos := "op.go:148", after := #[], guard := none }) rfl (fun K hK => ?_) AllReadyH.nil
          go_simp
          refine hK.out _ _ ?_ (fun hHeld => ?_)
          · ((try dsimp only); (simp (maxDischargeDepth := 12) [go_sem, a0, a1, a2, a3, b0, b1, b2, b3, lta, ltb]))
          clear hK K
          try simp only [Act.put, List.setIfInBounds_toArray, List.set_cons_zero, List.set_cons_succ]
          refine wpAnyH_ready (rs := [6]) (by kernel_rfl) (by simp) ?_
          refine AllReadyH.cons (o := { dst := none, op := Op.store 149 (Operand.tmp 8) (Operand.tmp 17), type := 0, pos := "op.go:148", after := #[{ on := 4, ground := Ground.data }, { on := 1, ground := Ground.data }, { on := 3, ground := Ground.chain }, { on := 0, ground := Ground.phase }, { on := 1, ground := Ground.phase }, { on := 2, ground := Ground.textOnly Departure.lateStores }, { on := 3, ground := Ground.textOnly Departure.lateStoresUnsure }, { on := 4, ground := Ground.phase }, { on := 5, ground := Ground.phase }], guard := none }) rfl (fun K hK => ?_) AllReadyH.nil
          go_simp
          refine hK.out _ _ ?_ (fun hHeld => ?_)
          · ((try dsimp only); (simp (maxDischargeDepth := 12) [go_sem, a0, a1, a2, a3, b0, b1, b2, b3, lta, ltb]))
          clear hK K
          try simp only [Act.put, List.setIfInBounds_toArray, List.set_cons_zero, List.set_cons_succ]
          refine wpAnyH_ready (rs := [7]) (by kernel_rfl) (by simp) ?_
          refine AllReadyH.cons (o := { dst := none, op := Op.store 149 (Operand.tmp 9) (Operand.tmp 19), type := 0, pos := "op.go:148", after := #[{ on := 5, ground := Ground.data }, { on := 3, ground := Ground.data }, { on := 6, ground := Ground.chain }, { on := 0, ground := Ground.phase }, { on := 1, ground := Ground.phase }, { on := 2, ground := Ground.phase }, { on := 3, ground := Ground.phase }, { on := 4, ground := Ground.phase }, { on := 5, ground := Ground.phase }, { on := 6, ground := Ground.phase }], guard := none }) rfl (fun K hK => ?_) AllReadyH.nil
          go_simp
          refine hK.out _ _ ?_ (fun hHeld => ?_)
          · ((try dsimp only); (simp (maxDischargeDepth := 12) [go_sem, a0, a1, a2, a3, b0, b1, b2, b3, lta, ltb]))
          clear hK K
          try simp only [Act.put, List.setIfInBounds_toArray, List.set_cons_zero, List.set_cons_succ]
          refine wpAnyH_done (by kernel_rfl) ?_ _
          go_wp2_with fail
          go_meet
          exact ⟨_, _, rfl, rfl, ⟨by simp (maxDischargeDepth := 12) [go_sem], by simp (maxDischargeDepth := 12) [go_sem]⟩, ⟨by simp (maxDischargeDepth := 12) [go_sem], by simp (maxDischargeDepth := 12) [go_sem]⟩, (by repeat (first | assumption | exact Grew.refl _ | apply Grew.drew | apply Grew.drewN | apply Grew.alloc | apply Grew.more))⟩
        ·
          go_simp
          refine hK.out _ _ ?_ (fun hHeld => ?_)
          · ((try dsimp only); (simp (maxDischargeDepth := 12) [go_sem, a0, a1, a2, a3, b0, b1, b2, b3, lta, ltb]))
          clear hK K
          try simp only [Act.put, List.setIfInBounds_toArray, List.set_cons_zero, List.set_cons_succ]
          refine wpAnyH_ready (rs := [3]) (by kernel_rfl) (by simp) ?_
          refine AllReadyH.cons (o := { dst := some 19, op := Op.call { callee := Callee.value (Operand.func 155), args := #[Operand.tmp 18], argTypes := #[42] }, type := 149, pos := "op.go:148", after := #[{ on := 2, ground := Ground.data }, { on := 1, ground := Ground.chain }], guard := none }) rfl (fun K hK => ?_) AllReadyH.nil
          go_simp
          go_wp2_with (go_at_call 155; refine (U _ _ _ _ _).mono ?_; rintro e w1 ⟨rfl, os1, n1, rfl⟩)
          refine hK.out _ _ ?_ (fun hHeld => ?_)
          · ((try dsimp only); (simp (maxDischargeDepth := 12) [go_sem, a0, a1, a2, a3, b0, b1, b2, b3, lta, ltb]))
          clear hK K
          try simp only [Act.put, List.setIfInBounds_toArray, List.set_cons_zero, List.set_cons_succ]
          refine wpAnyH_ready (rs := [6]) (by kernel_rfl) (by simp) ?_
          refine AllReadyH.cons (o := { dst := none, op := Op.store 149 (Operand.tmp 8) (Operand.tmp 17), type := 0, pos := "op.go:148", after := #[{ on := 4, ground := Ground.data }, { on := 1, ground := Ground.data }, { on := 3, ground := Ground.chain }, { on := 0, ground := Ground.phase }, { on := 1, ground := Ground.phase }, { on := 2, ground := Ground.textOnly Departure.lateStores }, { on := 3, ground := Ground.textOnly Departure.lateStoresUnsure }, { on := 4, ground := Ground.phase }, { on := 5, ground := Ground.phase }], guard := none }) rfl (fun K hK => ?_) AllReadyH.nil
          go_simp
          refine hK.out _ _ ?_ (fun hHeld => ?_)
          · ((try dsimp only); (simp (maxDischargeDepth := 12) [go_sem, a0, a1, a2, a3, b0, b1, b2, b3, lta, ltb]))
          clear hK K
          try simp only [Act.put, List.setIfInBounds_toArray, List.set_cons_zero, List.set_cons_succ]
          refine wpAnyH_ready (rs := [7]) (by kernel_rfl) (by simp) ?_
          refine AllReadyH.cons (o := { dst := none, op := Op.store 149 (Operand.tmp 9) (Operand.tmp 19), type := 0, pos := "op.go:148", after := #[{ on := 5, ground := Ground.data }, { on := 3, ground := Ground.data }, { on := 6, ground := Ground.chain }, { on := 0, ground := Ground.phase }, { on := 1, ground := Ground.phase }, { on := 2, ground := Ground.phase }, { on := 3, ground := Ground.phase }, { on := 4, ground := Ground.phase }, { on := 5, ground := Ground.phase }, { on := 6, ground := Ground.phase }], guard := none }) rfl (fun K hK => ?_) AllReadyH.nil
          go_simp
          refine hK.out _ _ ?_ (fun hHeld => ?_)
          · ((try dsimp only); (simp (maxDischargeDepth := 12) [go_sem, a0, a1, a2, a3, b0, b1, b2, b3, lta, ltb]))
          clear hK K
          try simp only [Act.put, List.setIfInBounds_toArray, List.set_cons_zero, List.set_cons_succ]
          refine wpAnyH_done (by kernel_rfl) ?_ _
          go_wp2_with fail
          go_meet
          exact ⟨_, _, rfl, rfl, ⟨by simp (maxDischargeDepth := 12) [go_sem], by simp (maxDischargeDepth := 12) [go_sem]⟩, ⟨by simp (maxDischargeDepth := 12) [go_sem], by simp (maxDischargeDepth := 12) [go_sem]⟩, (by repeat (first | assumption | exact Grew.refl _ | apply Grew.drew | apply Grew.drewN | apply Grew.alloc | apply Grew.more))⟩
      ·
        go_simp
        refine hK.out _ _ ?_ (fun hHeld => ?_)
        · ((try dsimp only); (simp (maxDischargeDepth := 12) [go_sem, a0, a1, a2, a3, b0, b1, b2, b3, lta, ltb]))
        clear hK K
        try simp only [Act.put, List.setIfInBounds_toArray, List.set_cons_zero, List.set_cons_succ]
        refine wpAnyH_ready (rs := [1]) (by kernel_rfl) (by simp) ?_
        refine AllReadyH.cons (o := { dst := some 17, op := Op.call { callee := Callee.value (Operand.func 155), args := #[Operand.tmp 16], argTypes := #[42] }, type := 149, pos := "op.go:148", after := #[{ on := 0, ground := Ground.data }], guard := none }) rfl (fun K hK => ?_) AllReadyH.nil
        go_simp
        go_wp2_with (go_at_call 155; refine (U _ _ _ _ _).mono ?_; rintro e w1 ⟨rfl, os1, n1, rfl⟩)
        refine hK.out _ _ ?_ (fun hHeld => ?_)
        · ((try dsimp only); (simp (maxDischargeDepth := 12) [go_sem, a0, a1, a2, a3, b0, b1, b2, b3, lta, ltb]))
        clear hK K
        try simp only [Act.put, List.setIfInBounds_toArray, List.set_cons_zero, List.set_cons_succ]
        refine wpAnyH_ready (rs := [3]) (by kernel_rfl) (by simp) ?_
        refine AllReadyH.cons (o := { dst := some 19, op := Op.call { callee := Callee.value (Operand.func 155), args := #[Operand.tmp 18], argTypes := #[42] }, type := 149, pos := "op.go:148", after := #[{ on := 2, ground := Ground.data }, { on := 1, ground := Ground.chain }], guard := none }) rfl (fun K hK => ?_) AllReadyH.nil
        go_simp
        go_wp2_with (go_at_call 155; refine (U _ _ _ _ _).mono ?_; rintro e w1 ⟨rfl, os1, n1, rfl⟩)
        refine hK.out _ _ ?_ (fun hHeld => ?_)
        · ((try dsimp only); (simp (maxDischargeDepth := 12) [go_sem, a0, a1, a2, a3, b0, b1, b2, b3, lta, ltb]))
        clear hK K
        try simp only [Act.put, List.setIfInBounds_toArray, List.set_cons_zero, List.set_cons_succ]
        refine wpAnyH_ready (rs := [6]) (by kernel_rfl) (by simp) ?_
        refine AllReadyH.cons (o := { dst := none, op := Op.store 149 (Operand.tmp 8) (Operand.tmp 17), type := 0, pos := "op.go:148", after := #[{ on := 4, ground := Ground.data }, { on := 1, ground := Ground.data }, { on := 3, ground := Ground.chain }, { on := 0, ground := Ground.phase }, { on := 1, ground := Ground.phase }, { on := 2, ground := Ground.textOnly Departure.lateStores }, { on := 3, ground := Ground.textOnly Departure.lateStoresUnsure }, { on := 4, ground := Ground.phase }, { on := 5, ground := Ground.phase }], guard := none }) rfl (fun K hK => ?_) AllReadyH.nil
        go_simp
        refine hK.out _ _ ?_ (fun hHeld => ?_)
        · ((try dsimp only); (simp (maxDischargeDepth := 12) [go_sem, a0, a1, a2, a3, b0, b1, b2, b3, lta, ltb]))
        clear hK K
        try simp only [Act.put, List.setIfInBounds_toArray, List.set_cons_zero, List.set_cons_succ]
        refine wpAnyH_ready (rs := [7]) (by kernel_rfl) (by simp) ?_
        refine AllReadyH.cons (o := { dst := none, op := Op.store 149 (Operand.tmp 9) (Operand.tmp 19), type := 0, pos := "op.go:148", after := #[{ on := 5, ground := Ground.data }, { on := 3, ground := Ground.data }, { on := 6, ground := Ground.chain }, { on := 0, ground := Ground.phase }, { on := 1, ground := Ground.phase }, { on := 2, ground := Ground.phase }, { on := 3, ground := Ground.phase }, { on := 4, ground := Ground.phase }, { on := 5, ground := Ground.phase }, { on := 6, ground := Ground.phase }], guard := none }) rfl (fun K hK => ?_) AllReadyH.nil
        go_simp
        refine hK.out _ _ ?_ (fun hHeld => ?_)
        · ((try dsimp only); (simp (maxDischargeDepth := 12) [go_sem, a0, a1, a2, a3, b0, b1, b2, b3, lta, ltb]))
        clear hK K
        try simp only [Act.put, List.setIfInBounds_toArray, List.set_cons_zero, List.set_cons_succ]
        refine wpAnyH_done (by kernel_rfl) ?_ _
        go_wp2_with fail
        go_meet
        exact ⟨_, _, rfl, rfl, ⟨by simp (maxDischargeDepth := 12) [go_sem], by simp (maxDischargeDepth := 12) [go_sem]⟩, ⟨by simp (maxDischargeDepth := 12) [go_sem], by simp (maxDischargeDepth := 12) [go_sem]⟩, (by repeat (first | assumption | exact Grew.refl _ | apply Grew.drew | apply Grew.drewN | apply Grew.alloc | apply Grew.more))⟩
  rename World => w1
  obtain ⟨p, q, rfl, rfl, hp, hq, g⟩ := hcut
  have B1 := g.below
  replace lta := (bxa.later B1).lt
  replace ltb := (bxb.later B1).lt
  clear a0 a1 a2 a3 b0 b1 b2 b3
  obtain ⟨a0, a1, a2, a3⟩ := (bxa.later B1).at4
  obtain ⟨b0, b1, b2, b3⟩ := (bxb.later B1).at4
  dsimp only at a0 a1 a2 a3 b0 b1 b2 b3
  simp only [Nat.zero_add] at a1 a2 a3 b1 b2 b3
  have br := bxr.later B1
  obtain ⟨r0, r1, r2, r3⟩ := br.at4
  dsimp only [nul] at r0 r1 r2 r3
  simp only [Nat.zero_add] at r1 r2 r3
  have f0 := br.free 0
  have f1 := br.free 1
  have f2 := br.free 2
  have f3 := br.free 3
  have lt1 := br.lt
  have Be := below_trans Bw B1
  obtain ⟨p0, p1⟩ := id hp
  obtain ⟨q0, q1⟩ := id hq
  have lp := hp.lt
  have lq := hq.lt
  have bxr1 := br
  clear U g B1 bxa bxb bxr ltr hp hq br
  by_cases h9 : op = 9
  · subst h9
    have hr' := hr.out
    rw [if_pos rfl] at hr'
    subst hr'
    clear hr
    clear D D10 D6 D7 HC
    go_wp2_with (first
      | (go_at_call 157; refine (D9 _).mono ?_; rintro e w2 ⟨rfl, os1, n1, rfl⟩)
      | (go_at_call 156; refine (H _ _ _ _).mono ?_; rintro e w2 ⟨rfl, os2, n2, rfl⟩))
    refine bodyPost_ret_by (v := rs (placedR x9 y9 z9)) ?_ rfl ⟨rfl, ?_⟩
    · simp [results, Tryz.results81, go_sem, r0, r1, r2, r3, lt1]
    · refine below_trans (Be.setCell (p := ⟨w.heap.size + 1 + 1, 0, none⟩) (by simp; omega) (.int .i64 (placedR x9 y9 z9).1.k) |>.setCell (p := ⟨w.heap.size + 1 + 1, 1, none⟩) (by simp; omega) (.int .i64 (placedR x9 y9 z9).1.n) |>.setCell (p := ⟨w.heap.size + 1 + 1, 2, none⟩) (by simp; omega) (.int .i64 (placedR x9 y9 z9).1.m) |>.setCell (p := ⟨w.heap.size + 1 + 1, 3, none⟩) (by simp; omega) (.string ⟨(placedR x9 y9 z9).1.b.toArray⟩)) (Grew.below ?_)
      repeat (first | assumption | exact Grew.refl _ | apply Grew.drew | apply Grew.drewN | apply Grew.alloc | apply Grew.more)
  have c9 : (op == 9) = false := by simpa using h9
  by_cases h10 : op = 10
  · subst h10
    have hr' := hr.out
    rw [if_neg (by decide), if_pos rfl] at hr'
    subst hr'
    clear hr
    clear D D9 D6 D7 HC
    go_wp2_with (first
      | (go_at_call 158; refine (D10 _).mono ?_; rintro e w2 ⟨rfl, os1, n1, rfl⟩)
      | (go_at_call 156; refine (H _ _ _ _).mono ?_; rintro e w2 ⟨rfl, os2, n2, rfl⟩))
    refine bodyPost_ret_by (v := rs (placedR x10 y10 z10)) ?_ rfl ⟨rfl, ?_⟩
    · simp [results, Tryz.results81, go_sem, r0, r1, r2, r3, lt1]
    · refine below_trans (Be.setCell (p := ⟨w.heap.size + 1 + 1, 0, none⟩) (by simp; omega) (.int .i64 (placedR x10 y10 z10).1.k) |>.setCell (p := ⟨w.heap.size + 1 + 1, 1, none⟩) (by simp; omega) (.int .i64 (placedR x10 y10 z10).1.n) |>.setCell (p := ⟨w.heap.size + 1 + 1, 2, none⟩) (by simp; omega) (.int .i64 (placedR x10 y10 z10).1.m) |>.setCell (p := ⟨w.heap.size + 1 + 1, 3, none⟩) (by simp; omega) (.string ⟨(placedR x10 y10 z10).1.b.toArray⟩)) (Grew.below ?_)
      repeat (first | assumption | exact Grew.refl _ | apply Grew.drew | apply Grew.drewN | apply Grew.alloc | apply Grew.more)
  have c10 : (op == 10) = false := by simpa using h10
  by_cases h6 : op = 6
  · subst h6
    have hr' := hr.out
    rw [if_neg (by decide), if_neg (by decide), if_pos rfl] at hr'
    subst hr'
    clear hr
    clear D D9 D10 D7 HC
    go_wp2_with (first
      | (go_at_call 159; refine (D6 _).mono ?_; rintro e w2 ⟨rfl, os1, n1, rfl⟩)
      | (go_at_call 156; refine (H _ _ _ _).mono ?_; rintro e w2 ⟨rfl, os2, n2, rfl⟩))
    refine bodyPost_ret_by (v := rs (placedR x6 y6 z6)) ?_ rfl ⟨rfl, ?_⟩
    · simp [results, Tryz.results81, go_sem, r0, r1, r2, r3, lt1]
    · refine below_trans (Be.setCell (p := ⟨w.heap.size + 1 + 1, 0, none⟩) (by simp; omega) (.int .i64 (placedR x6 y6 z6).1.k) |>.setCell (p := ⟨w.heap.size + 1 + 1, 1, none⟩) (by simp; omega) (.int .i64 (placedR x6 y6 z6).1.n) |>.setCell (p := ⟨w.heap.size + 1 + 1, 2, none⟩) (by simp; omega) (.int .i64 (placedR x6 y6 z6).1.m) |>.setCell (p := ⟨w.heap.size + 1 + 1, 3, none⟩) (by simp; omega) (.string ⟨(placedR x6 y6 z6).1.b.toArray⟩)) (Grew.below ?_)
      repeat (first | assumption | exact Grew.refl _ | apply Grew.drew | apply Grew.drewN | apply Grew.alloc | apply Grew.more)
  have c6 : (op == 6) = false := by simpa using h6
  by_cases h7 : op = 7
  · subst h7
    have hr' := hr.out
    rw [if_neg (by decide), if_neg (by decide), if_neg (by decide), if_pos rfl] at hr'
    subst hr'
    clear hr
    clear D D9 D10 D6 HC
    go_wp2_with (first
      | (go_at_call 160; refine (D7 _).mono ?_; rintro e w2 ⟨rfl, os1, n1, rfl⟩)
      | (go_at_call 156; refine (H _ _ _ _).mono ?_; rintro e w2 ⟨rfl, os2, n2, rfl⟩))
    refine bodyPost_ret_by (v := rs (placedR x7 y7 z7)) ?_ rfl ⟨rfl, ?_⟩
    · simp [results, Tryz.results81, go_sem, r0, r1, r2, r3, lt1]
    · refine below_trans (Be.setCell (p := ⟨w.heap.size + 1 + 1, 0, none⟩) (by simp; omega) (.int .i64 (placedR x7 y7 z7).1.k) |>.setCell (p := ⟨w.heap.size + 1 + 1, 1, none⟩) (by simp; omega) (.int .i64 (placedR x7 y7 z7).1.n) |>.setCell (p := ⟨w.heap.size + 1 + 1, 2, none⟩) (by simp; omega) (.int .i64 (placedR x7 y7 z7).1.m) |>.setCell (p := ⟨w.heap.size + 1 + 1, 3, none⟩) (by simp; omega) (.string ⟨(placedR x7 y7 z7).1.b.toArray⟩)) (Grew.below ?_)
      repeat (first | assumption | exact Grew.refl _ | apply Grew.drew | apply Grew.drewN | apply Grew.alloc | apply Grew.more)
  have c7 : (op == 7) = false := by simpa using h7
  by_cases h8 : op = 8
  · subst h8
    have hr' := hr.out
    rw [if_neg (by decide), if_neg (by decide), if_neg (by decide), if_neg (by decide), if_pos rfl] at hr'
    subst hr'
    clear hr
    clear D D9 D10 D6 HC
    go_wp2_with (first
      | (go_at_call 160; refine (D7 _).mono ?_; rintro e w2 ⟨rfl, os1, n1, rfl⟩)
      | (go_at_call 156; refine (H _ _ _ _).mono ?_; rintro e w2 ⟨rfl, os2, n2, rfl⟩))
    refine bodyPost_ret_by (v := rs (placedR x8 y8 z7)) ?_ rfl ⟨rfl, ?_⟩
    · simp [results, Tryz.results81, go_sem, r0, r1, r2, r3, lt1]
    · refine below_trans (Be.setCell (p := ⟨w.heap.size + 1 + 1, 0, none⟩) (by simp; omega) (.int .i64 (placedR x8 y8 z7).1.k) |>.setCell (p := ⟨w.heap.size + 1 + 1, 1, none⟩) (by simp; omega) (.int .i64 (placedR x8 y8 z7).1.n) |>.setCell (p := ⟨w.heap.size + 1 + 1, 2, none⟩) (by simp; omega) (.int .i64 (placedR x8 y8 z7).1.m) |>.setCell (p := ⟨w.heap.size + 1 + 1, 3, none⟩) (by simp; omega) (.string ⟨(placedR x8 y8 z7).1.b.toArray⟩)) (Grew.below ?_)
      repeat (first | assumption | exact Grew.refl _ | apply Grew.drew | apply Grew.drewN | apply Grew.alloc | apply Grew.more)
  have c8 : (op == 8) = false := by simpa using h8
  have hr' := hr.out
  rw [if_neg h9, if_neg h10, if_neg h6, if_neg h7, if_neg h8] at hr'
  subst hr'
  clear hr
  clear D9 D10 D6 D7 H f0 f1 f2 f3 r0 r1 r2 r3 lt1
  go_wp2_with fail
  refine (D _ Be).mono ?_
  rintro e w2 ⟨rfl, B2⟩
  have br := bxr1.later B2
  obtain ⟨r0, r1, r2, r3⟩ := br.at4
  dsimp only [nul] at r0 r1 r2 r3
  simp only [Nat.zero_add] at r1 r2 r3
  have f0 := br.free 0
  have f1 := br.free 1
  have f2 := br.free 2
  have f3 := br.free 3
  have lt1 := br.lt
  replace Be := below_trans Be B2
  clear D a0 a1 a2 a3 b0 b1 b2 b3 p0 p1 q0 q1 br bxr1 lp lq lta ltb
  go_wp2_with (go_at_call 83; refine (HC _).mono ?_; rintro e w3 ⟨rfl, os2, n2, rfl⟩)
  refine bodyPost_ret_by (v := rs (cmpR op c)) ?_ rfl ⟨rfl, ?_⟩
  · simp [results, Tryz.results81, go_sem, r0, r1, r2, r3, lt1]
  · refine below_trans (Be.setCell (p := ⟨w.heap.size + 1 + 1, 0, none⟩) (by simp; omega) (.int .i64 (cmpR op c).1.k) |>.setCell (p := ⟨w.heap.size + 1 + 1, 1, none⟩) (by simp; omega) (.int .i64 (cmpR op c).1.n) |>.setCell (p := ⟨w.heap.size + 1 + 1, 2, none⟩) (by simp; omega) (.int .i64 (cmpR op c).1.m) |>.setCell (p := ⟨w.heap.size + 1 + 1, 3, none⟩) (by simp; omega) (.string ⟨(cmpR op c).1.b.toArray⟩)) (Grew.below ?_)
    repeat (first | assumption | exact Grew.refl _ | apply Grew.drew | apply Grew.drewN | apply Grew.alloc | apply Grew.more)
end Go.Proofs.YtclhmmgdhagloaaGreatDoor
