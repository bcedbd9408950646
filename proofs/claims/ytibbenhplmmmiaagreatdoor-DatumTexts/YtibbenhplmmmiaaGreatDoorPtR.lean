/-
  The document's side of points' texts: Right, digits, Print, number, Parse.
-/
import Derived.Test.YtibbenhplmmmiaaGreatDoorPtP
namespace Go.Proofs.YtibbenhplmmmiaaGreatDoor.Pt
open Go.RowKit Go.Shelf
attribute [local go_sem] cell?_more frozen?_more setCell_more more_lt more_more more_drew more_drewN setCell_drewN alloc_drewN

/-- The byte at a place. -/
def bat (l : List UInt8) (k : Nat) : UInt8 := l.getD k 0
theorem bat_get (l : List UInt8) : ∀ (k : Nat) (h : k < (ByteArray.mk l.toArray).size), (ByteArray.mk l.toArray)[k]'h = bat l k := by
  intro k h
  have h' : k < l.length := h
  unfold bat
  rw [List.getD_eq_getElem?_getD, List.getElem?_eq_getElem h']
  rfl
theorem drop_bat (l : List UInt8) (k : Nat) (h : k < l.length) : l.drop k = bat l k :: l.drop (k + 1) := by
  unfold bat
  rw [List.getD_eq_getElem?_getD, List.getElem?_eq_getElem h, List.drop_eq_getElem_cons h]
  rfl
theorem numG_lt (f : Nat) : ∀ (l : List UInt8) (n : Nat), (numG f l n).2 ≤ f ∧ (numG f l n).2 ≤ l.length := by
  induction f with
  | zero => intro l n; simp [numG]
  | succ f ih =>
    intro l n
    cases l with
    | nil => simp [numG]
    | cons c r =>
      simp only [numG]
      split
      · have := ih r (10 * n + (c.toNat - 48)); simp; omega
      · simp
def intOf : Value → Int
  | .int _ n => n
  | _ => 0
theorem cast1 (k : Nat) : ((k + 1 : Nat) : Int) = (k : Int) + 1 := by omega
theorem rright_any (x y : Int) (w : World) : Calls Tryz.prog 47 #[.agg #[.int .i64 x, .int .i64 y]] w fun e w' => e = .returned (.bool ((ok1 x && ok1 y))) ∧ Grew w w' := by
  by_cases h1 : -1048576 ≤ x
  · by_cases h2 : x ≤ 1048576
    · by_cases h3 : -1048576 ≤ y
      · by_cases h4 : y ≤ 1048576
        · have hr : (ok1 x && ok1 y) = true := by simp [ok1, h1, h2, h3, h4]
          rw [hr]
          go_enter Tryz.func47, Tryz.ntmps47
          go_wp2
          all_goals go_ret
          all_goals exact ⟨rfl, by repeat (first | exact Grew.refl _ | apply Grew.drew | apply Grew.drewN | apply Grew.alloc | apply Grew.more)⟩
        · have hr : (ok1 x && ok1 y) = false := by simp [ok1, h4]
          rw [hr]
          go_enter Tryz.func47, Tryz.ntmps47
          go_wp2
          all_goals go_ret
          all_goals exact ⟨rfl, by repeat (first | exact Grew.refl _ | apply Grew.drew | apply Grew.drewN | apply Grew.alloc | apply Grew.more)⟩
      · have hr : (ok1 x && ok1 y) = false := by simp [ok1, h3]
        rw [hr]
        go_enter Tryz.func47, Tryz.ntmps47
        go_wp2
        all_goals go_ret
        all_goals exact ⟨rfl, by repeat (first | exact Grew.refl _ | apply Grew.drew | apply Grew.drewN | apply Grew.alloc | apply Grew.more)⟩
    · have hr : (ok1 x && ok1 y) = false := by simp [ok1, h2]
      rw [hr]
      go_enter Tryz.func47, Tryz.ntmps47
      go_wp2
      all_goals go_ret
      all_goals exact ⟨rfl, by repeat (first | exact Grew.refl _ | apply Grew.drew | apply Grew.drewN | apply Grew.alloc | apply Grew.more)⟩
  · have hr : (ok1 x && ok1 y) = false := by simp [ok1, h1]
    rw [hr]
    go_enter Tryz.func47, Tryz.ntmps47
    go_wp2
    all_goals go_ret
    all_goals exact ⟨rfl, by repeat (first | exact Grew.refl _ | apply Grew.drew | apply Grew.drewN | apply Grew.alloc | apply Grew.more)⟩

theorem ba_app (a b : List UInt8) : (⟨a.toArray⟩ : ByteArray) ++ ⟨b.toArray⟩ = ⟨(a ++ b).toArray⟩ := by
  apply ByteArray.ext
  simp
theorem ba_cons (y : UInt8) (t : List UInt8) : (⟨#[y]⟩ : ByteArray) ++ ⟨t.toArray⟩ = ⟨(y :: t).toArray⟩ := ba_app [y] t

/-- One sign as a text. -/
theorem str_one (V : World) (n : Nat) (y : UInt8) : (convert 36 9 (.slice (some ⟨V.heap.size, 0, none⟩) 1 1)).run Tryz.prog ((V.alloc (.cells #[.int .u8 (y.toNat : Int)] 5)).drewN n) = .ok (.string ⟨#[y]⟩) ((V.alloc (.cells #[.int .u8 (y.toNat : Int)] 5)).drewN n) := by
  refine run_convert_bytes_back _ 36 9 5 ⟨V.heap.size, 0, none⟩ 1 [y] Tryz.underlying36 Tryz.underlying5 Tryz.underlying9 fun j hj => ?_
  rw [Addr.add_lit]
  match j, hj with
  | 0, _ => rw [World.cell?_drewN, World.cell?_alloc_at _ _ _ _ rfl]; rfl

set_option maxHeartbeats 2000000 in
theorem rdig_pos (u : Nat) (w : World) (hu : u < 9223372036854775807) :
    Calls Tryz.prog 91 #[.int .i64 (u : Int)] w fun e w' => e = .returned (.string ⟨(digs u).toArray⟩) ∧ Grew w w' := by
  have HU : Hid (u < 9223372036854775807) := hu
  have HLEN : Hid ((digs u).length ≤ 20) := digs_len 19 u (Nat.lt_of_lt_of_le hu (by decide))
  have h00 : ¬ (u : Int) < 0 := by omega
  clear hu
  have C := str_one
  go_enter Tryz.func91, Tryz.ntmps91
  go_wp2_with fail
  go_loopw [0, 3] (fun x s wr => ∃ (v : Nat) (t : List UInt8) (l : List Obj) (n : Nat), x = .int .i64 (v : Int) ∧ s = .string ⟨t.toArray⟩ ∧ v ≤ u ∧ Hid (digs v ++ t = digs u) ∧ wr = (more w l).drewN n) (fun x _ _ => (intOf x).toNat)
  case atStart => exact ⟨u, [], [], 0, rfl, rfl, Nat.le_refl _, by show digs u ++ [] = digs u; simp, rfl⟩
  case round =>
    obtain ⟨v, t, l, n, rfl, rfl, hv, hd, rfl⟩ := hrel
    have hT : ¬ 9223372036854775807 < 1 + t.length := by
      have h1 := HLEN.out
      rw [← hd.out, List.length_append] at h1
      omega
    by_cases h9 : v < 10
    · have hi : ¬ (9 : Int) < (v : Int) := by omega
      obtain ⟨y, hy⟩ : ∃ y : UInt8, y = UInt8.ofNat (48 + v) := ⟨_, rfl⟩
      have e1 : IntKind.i64.wrap (48 + (v : Int)) = 48 + (v : Int) := by rw [IntKind.wrap_i64]; omega
      have e2 : IntKind.u8.wrap (48 + (v : Int)) = (y.toNat : Int) := by rw [IntKind.wrap_u8, hy, UInt8.toNat_ofNat']; omega
      have HD : Hid (digs u = y :: t) := by show digs u = y :: t; rw [← hd.out, digs_small v h9, hy]; rfl
      clear hy h9 hd
      go_wp2_with fail
      go_ret
      refine ⟨?_, (by repeat (first | exact Grew.refl _ | apply Grew.drew | apply Grew.drewN | apply Grew.alloc | apply Grew.more))⟩
      rw [HD.out, ba_cons]; rfl
    · have hi : (9 : Int) < (v : Int) := by omega
      obtain ⟨y, hy⟩ : ∃ y : UInt8, y = UInt8.ofNat (48 + v % 10) := ⟨_, rfl⟩
      obtain ⟨r, hr⟩ : ∃ r, r = v % 10 := ⟨_, rfl⟩
      obtain ⟨q, hq⟩ : ∃ q, q = v / 10 := ⟨_, rfl⟩
      have e0 : (v : Int) % 10 = (r : Int) := by omega
      have e1 : IntKind.i64.wrap (48 + (r : Int)) = 48 + (r : Int) := by rw [IntKind.wrap_i64]; omega
      have e2 : IntKind.u8.wrap (48 + (r : Int)) = (y.toNat : Int) := by rw [IntKind.wrap_u8, hy, UInt8.toNat_ofNat']; omega
      have e3 : (v : Int) / 10 = (q : Int) := by omega
      have e4 : IntKind.i64.wrap (q : Int) = (q : Int) := by have := HU.out; rw [IntKind.wrap_i64]; omega
      have HQ : Hid (q < v ∧ q ≤ u) := ⟨by omega, by omega⟩
      have HD : Hid (digs q ++ (y :: t) = digs u) := by show digs q ++ (y :: t) = digs u; rw [← hd.out, digs_big v (by omega), hq, hy]; simp
      clear hy hd hr hq h9
      go_wp2_with fail
      go_roundw
      case rel => exact ⟨q, y :: t, l ++ [_], n, rfl, congrArg Value.string (ba_cons y t), HQ.out.2, HD, by rw [more_snoc]⟩
      case measure => simp [intOf]; exact HQ.out.1

set_option maxHeartbeats 2000000 in
theorem rdig_neg (u : Nat) (w : World) (hu : u < 9223372036854775807) (h0 : 0 < u) :
    Calls Tryz.prog 91 #[.int .i64 (-(u : Int))] w fun e w' => e = .returned (.string ⟨(45 :: digs u).toArray⟩) ∧ Grew w w' := by
  have D := fun W => rdig_pos u W hu
  have hn : -(u : Int) < 0 := by omega
  have e1 : IntKind.i64.wrap (- -(u : Int)) = (u : Int) := by rw [IntKind.wrap_i64]; omega
  have hlen : (digs u).length ≤ 20 := digs_len 19 u (Nat.lt_trans hu (by decide))
  have q1 : ¬ 9223372036854775807 < 1 + (digs u).length := by omega
  have hRs : Hid ((⟨#[45]⟩ : ByteArray) ++ ⟨(digs u).toArray⟩ = ⟨(45 :: digs u).toArray⟩) := ba_cons 45 _
  obtain ⟨v, hv⟩ : ∃ v : Int, v = -(u : Int) := ⟨_, rfl⟩
  rw [← hv] at hn e1 ⊢
  have hsz : (ByteArray.mk (digs u).toArray).size = (digs u).length := rfl
  generalize ByteArray.mk (45 :: digs u).toArray = R at *
  generalize ByteArray.mk (digs u).toArray = DB at *
  have e2 : IntKind.i64.wrap (-v) = (u : Int) := e1
  clear hv e1 hu h0 hlen
  go_enter Tryz.func91, Tryz.ntmps91
  go_wp2_with (go_at_call 91; refine (D _).mono ?_; rintro e w' ⟨rfl, os, n, rfl⟩)
  go_ret
  exact ⟨congrArg (fun z => Ending.returned (.string z)) hRs.out, by repeat (first | exact Grew.refl _ | apply Grew.drew | apply Grew.drewN | apply Grew.alloc | apply Grew.more)⟩
theorem rdig_any (n : Int) (w : World) (h0 : -1048576 ≤ n) (h1 : n ≤ 1048576) : Calls Tryz.prog 91 #[.int .i64 n] w fun e w' => e = .returned (.string ⟨(itx n).toArray⟩) ∧ Grew w w' := by
  rw [itx_eq]
  by_cases hn : n < 0
  · rw [if_pos hn]
    have := rdig_neg n.natAbs w (by omega) (by omega)
    rw [show -((n.natAbs : Nat) : Int) = n by omega] at this
    exact this
  · rw [if_neg hn]
    have := rdig_pos n.natAbs w (by omega)
    rw [show ((n.natAbs : Nat) : Int) = n by omega] at this
    exact this

set_option maxRecDepth 20000 in
set_option maxHeartbeats 2000000 in
theorem rprint_ok (x y : Int) (w : World) (h : (ok1 x && ok1 y) = true) :
    Calls Tryz.prog 42 #[.agg #[.int .i64 x, .int .i64 y]] w fun e w' => e = .returned (.string ⟨(gtx x y).toArray⟩) ∧ Below w.heap.size w w' := by
  have GR := fun W => rright_any x y W
  rw [h] at GR
  have hx := (ok1_iff x).1 (by simp at h; exact h.1)
  have hy := (ok1_iff y).1 (by simp at h; exact h.2)
  have IX : ∀ W, Below w.heap.size w W → _ := fun W _ => rdig_any x W hx.1 hx.2
  have IY : ∀ W, Below w.heap.size w W → _ := fun W _ => rdig_any y W hy.1 hy.2
  have lx := itx_len x hx.1 hx.2
  have ly := itx_len y hy.1 hy.2
  have HE : Hid (gtx x y = 60 :: (itx x ++ 44 :: (itx y ++ [62]))) := rfl
  have B0 : Below w.heap.size w (w.alloc (.cells #[.int .i64 x, .int .i64 y] 68)) := (Below.refl _ w).alloc (Nat.le_refl _) _
  have BX := Cbox.new w #[.int .i64 x, .int .i64 y] 68
  have z0 := BX.at 0
  have z1 := BX.at 1
  obtain ⟨X, hX⟩ : ∃ X, X = ByteArray.mk (itx x).toArray := ⟨_, rfl⟩
  obtain ⟨Y, hY⟩ : ∃ Y, Y = ByteArray.mk (itx y).toArray := ⟨_, rfl⟩
  have hRs : Hid (((⟨#[60]⟩ ++ X) ++ ⟨#[44]⟩ ++ Y) ++ ⟨#[62]⟩ = ByteArray.mk (gtx x y).toArray) := by
    show _ = _
    rw [hX, hY, HE.out]
    apply ByteArray.ext
    simp
  have sX : X.size ≤ 8 := by rw [hX]; exact lx
  have sY : Y.size ≤ 8 := by rw [hY]; exact ly
  have q1 : ¬ 9223372036854775807 < 1 + X.size := by omega
  have q2 : ¬ 9223372036854775807 < 1 + X.size + 1 := by omega
  have q3 : ¬ 9223372036854775807 < 1 + X.size + 1 + Y.size := by omega
  have q4 : ¬ 9223372036854775807 < 1 + X.size + 1 + Y.size + 1 := by omega
  rw [← hX] at IX
  rw [← hY] at IY
  clear hX hY HE lx ly hx hy h
  generalize ByteArray.mk (gtx x y).toArray = R at *
  go_enter Tryz.func42, Tryz.ntmps42
  go_upto_region 1 with fail
  generalize w.alloc (.cells #[.int .i64 x, .int .i64 y] 68) = w0 at *
  go_wp2_with fail
  refine (GR _).mono ?_
  rintro e w1 ⟨rfl, g1⟩
  have B1 := below_trans B0 g1.below
  have BX1 := BX.later g1.below
  have z0 := BX1.at 0
  have z1 := BX1.at 1
  clear BX
  go_upto_region 3 with fail
  refine wp_region_held_drew (S := (fun W => W.cell? ⟨w.heap.size, 0, none⟩ = some (.int .i64 x) ∧ W.cell? ⟨w.heap.size, 1, none⟩ = some (.int .i64 y))) (by kernel_rfl) ?_ (fun hHeld => ?_)
  · ((try dsimp only); exact ⟨z0, z1⟩)
  refine wpAnyH_take (i := 0) (oi := { dst := some 6, op := Op.fieldAddr 68 (Operand.tmp 1) 0, type := 0, pos := "ref.go:145", after := #[], guard := none }) (v := ?_) rfl (by kernel_rfl) (by kernel_rfl) (by kernel_rfl) (fun _ _ _ h => h) (Or.inl ⟨by rfl, ?_⟩) (by assumption) ?_
  rotate_left
  · (intro W hSw; (try dsimp only at hSw); obtain ⟨y0, y1⟩ := hSw; first | (go_simp; done) | (go_simp; with_reducible rfl))
  try simp only [Act.put, List.setIfInBounds_toArray, List.set_cons_zero, List.set_cons_succ]
  refine wpAnyH_take (i := 1) (oi := { dst := some 7, op := Op.load 3 (Operand.tmp 6), type := 3, pos := "ref.go:145", after := #[{ on := 0, ground := Ground.data }], guard := none }) (v := ?_) rfl (by kernel_rfl) (by kernel_rfl) (by kernel_rfl) (fun _ _ _ h => h) (Or.inl ⟨by rfl, ?_⟩) (by assumption) ?_
  rotate_left
  · (intro W hSw; (try dsimp only at hSw); obtain ⟨y0, y1⟩ := hSw; first | (go_simp; done) | (go_simp; with_reducible rfl))
  try simp only [Act.put, List.setIfInBounds_toArray, List.set_cons_zero, List.set_cons_succ]
  refine wpAnyH_take (i := 5) (oi := { dst := some 11, op := Op.fieldAddr 68 (Operand.tmp 1) 1, type := 0, pos := "ref.go:145", after := #[], guard := none }) (v := ?_) rfl (by kernel_rfl) (by kernel_rfl) (by kernel_rfl) (fun _ _ _ h => h) (Or.inl ⟨by rfl, ?_⟩) (by assumption) ?_
  rotate_left
  · (intro W hSw; (try dsimp only at hSw); obtain ⟨y0, y1⟩ := hSw; first | (go_simp; done) | (go_simp; with_reducible rfl))
  try simp only [Act.put, List.setIfInBounds_toArray, List.set_cons_zero, List.set_cons_succ]
  refine wpAnyH_take (i := 6) (oi := { dst := some 12, op := Op.load 3 (Operand.tmp 11), type := 3, pos := "ref.go:145", after := #[{ on := 5, ground := Ground.data }], guard := none }) (v := ?_) rfl (by kernel_rfl) (by kernel_rfl) (by kernel_rfl) (fun _ _ _ h => h) (Or.inl ⟨by rfl, ?_⟩) (by assumption) ?_
  rotate_left
  · (intro W hSw; (try dsimp only at hSw); obtain ⟨y0, y1⟩ := hSw; first | (go_simp; done) | (go_simp; with_reducible rfl))
  try simp only [Act.put, List.setIfInBounds_toArray, List.set_cons_zero, List.set_cons_succ]
  refine wpAnyH_ready (rs := [2]) (by kernel_rfl) (by simp) ?_
  refine AllReadyH.cons (o := { dst := some 8, op := Op.call { callee := Callee.value (Operand.func 91), args := #[Operand.tmp 7], argTypes := #[3] }, type := 9, pos := "ref.go:145", after := #[{ on := 1, ground := Ground.data }], guard := none }) rfl (fun K hK => ?_) AllReadyH.nil
  go_simp
  (refine (IX _ (by first | exact B1 | exact B1.drew)).mono ?_; rintro e w2 ⟨rfl, g2⟩; have b2 : Below w1.heap.size w1 w2 := (by first | exact below_trans ((Below.refl _ w1).drew) g2.below | exact g2.below); have B2 := below_trans B1 b2; have BX2 := BX1.later b2; have z0 := BX2.at 0; have z1 := BX2.at 1)
  refine hK.out _ _ ?_ (fun hHeld => ?_)
  · ((try dsimp only); (first | exact ⟨z0, z1⟩ | (simp (maxDischargeDepth := 12) [go_sem, z0, z1])))
  clear hK K
  try simp only [Act.put, List.setIfInBounds_toArray, List.set_cons_zero, List.set_cons_succ]
  refine wpAnyH_take (i := 3) (oi := { dst := some 9, op := Op.binOp BinOp.add 9 (Operand.const (Value.string { data := #[60] })) (Operand.tmp 8) 9, type := 9, pos := "ref.go:145", after := #[{ on := 2, ground := Ground.data }], guard := none }) (v := ?_) rfl (by kernel_rfl) (by kernel_rfl) (by kernel_rfl) (fun _ _ _ h => h) (Or.inl ⟨by rfl, ?_⟩) (by assumption) ?_
  rotate_left
  · (intro W hSw; (try dsimp only at hSw); obtain ⟨y0, y1⟩ := hSw; first | (go_simp; done) | (go_simp; with_reducible rfl))
  try simp only [Act.put, List.setIfInBounds_toArray, List.set_cons_zero, List.set_cons_succ]
  refine wpAnyH_take (i := 4) (oi := { dst := some 10, op := Op.binOp BinOp.add 9 (Operand.tmp 9) (Operand.const (Value.string { data := #[44] })) 9, type := 9, pos := "ref.go:145", after := #[{ on := 3, ground := Ground.data }], guard := none }) (v := ?_) rfl (by kernel_rfl) (by kernel_rfl) (by kernel_rfl) (fun _ _ _ h => h) (Or.inl ⟨by rfl, ?_⟩) (by assumption) ?_
  rotate_left
  · (intro W hSw; (try dsimp only at hSw); obtain ⟨y0, y1⟩ := hSw; first | (go_simp; done) | (go_simp; with_reducible rfl))
  try simp only [Act.put, List.setIfInBounds_toArray, List.set_cons_zero, List.set_cons_succ]
  refine wpAnyH_ready (rs := [7]) (by kernel_rfl) (by simp) ?_
  refine AllReadyH.cons (o := { dst := some 13, op := Op.call { callee := Callee.value (Operand.func 91), args := #[Operand.tmp 12], argTypes := #[3] }, type := 9, pos := "ref.go:145", after := #[{ on := 6, ground := Ground.data }, { on := 2, ground := Ground.chain }], guard := none }) rfl (fun K hK => ?_) AllReadyH.nil
  go_simp
  (refine (IY _ (by first | exact B2 | exact B2.drew)).mono ?_; rintro e w3 ⟨rfl, g3⟩; have b3 : Below w2.heap.size w2 w3 := (by first | exact below_trans ((Below.refl _ w2).drew) g3.below | exact g3.below); have B3 := below_trans B2 b3; have BX3 := BX2.later b3; have z0 := BX3.at 0; have z1 := BX3.at 1)
  refine hK.out _ _ ?_ (fun hHeld => ?_)
  · ((try dsimp only); (first | exact ⟨z0, z1⟩ | (simp (maxDischargeDepth := 12) [go_sem, z0, z1])))
  clear hK K
  try simp only [Act.put, List.setIfInBounds_toArray, List.set_cons_zero, List.set_cons_succ]
  refine wpAnyH_take (i := 8) (oi := { dst := some 14, op := Op.binOp BinOp.add 9 (Operand.tmp 10) (Operand.tmp 13) 9, type := 9, pos := "ref.go:145", after := #[{ on := 4, ground := Ground.data }, { on := 7, ground := Ground.data }], guard := none }) (v := ?_) rfl (by kernel_rfl) (by kernel_rfl) (by kernel_rfl) (fun _ _ _ h => h) (Or.inl ⟨by rfl, ?_⟩) (by assumption) ?_
  rotate_left
  · (intro W hSw; (try dsimp only at hSw); obtain ⟨y0, y1⟩ := hSw; first | (go_simp; done) | (go_simp; with_reducible rfl))
  try simp only [Act.put, List.setIfInBounds_toArray, List.set_cons_zero, List.set_cons_succ]
  refine wpAnyH_take (i := 9) (oi := { dst := some 15, op := Op.binOp BinOp.add 9 (Operand.tmp 14) (Operand.const (Value.string { data := #[62] })) 9, type := 9, pos := "ref.go:145", after := #[{ on := 8, ground := Ground.data }], guard := none }) (v := ?_) rfl (by kernel_rfl) (by kernel_rfl) (by kernel_rfl) (fun _ _ _ h => h) (Or.inl ⟨by rfl, ?_⟩) (by assumption) ?_
  rotate_left
  · (intro W hSw; (try dsimp only at hSw); obtain ⟨y0, y1⟩ := hSw; first | (go_simp; done) | (go_simp; with_reducible rfl))
  try simp only [Act.put, List.setIfInBounds_toArray, List.set_cons_zero, List.set_cons_succ]
  refine wpAnyH_take (i := 10) (oi := { dst := some 2, op := Op.assign (Operand.tmp 15), type := 9, pos := "ref.go:145", after := #[{ on := 9, ground := Ground.data }, { on := 7, ground := Ground.chain }, { on := 0, ground := Ground.phase }, { on := 1, ground := Ground.phase }, { on := 2, ground := Ground.phase }, { on := 3, ground := Ground.phase }, { on := 4, ground := Ground.phase }, { on := 5, ground := Ground.phase }, { on := 6, ground := Ground.phase }, { on := 7, ground := Ground.phase }, { on := 8, ground := Ground.phase }, { on := 9, ground := Ground.phase }], guard := none }) (v := ?_) rfl (by kernel_rfl) (by kernel_rfl) (by kernel_rfl) (fun _ _ _ h => h) (Or.inl ⟨by rfl, ?_⟩) (by assumption) ?_
  rotate_left
  · (intro W hSw; (try dsimp only at hSw); obtain ⟨y0, y1⟩ := hSw; first | (go_simp; done) | (go_simp; with_reducible rfl))
  try simp only [Act.put, List.setIfInBounds_toArray, List.set_cons_zero, List.set_cons_succ]
  refine wpAnyH_done (by kernel_rfl) ?_ _
  go_wp2
  refine bodyPost_ret_by (v := .string R) ?_ rfl ⟨rfl, ?_⟩
  · simp [results, Tryz.results42, go_sem]
    exact hRs.out
  · exact B3
theorem rprint_no (x y : Int) (w : World) (h : (ok1 x && ok1 y) = false) :
    Calls Tryz.prog 42 #[.agg #[.int .i64 x, .int .i64 y]] w fun e w' => e = .returned (.string ⟨#[]⟩) ∧ Below w.heap.size w w' := by
  have GR := fun W => rright_any x y W
  rw [h] at GR
  have B0 : Below w.heap.size w (w.alloc (.cells #[.int .i64 x, .int .i64 y] 68)) := (Below.refl _ w).alloc (Nat.le_refl _) _
  have BX := Cbox.new w #[.int .i64 x, .int .i64 y] 68
  have z0 := BX.at 0
  have z1 := BX.at 1
  clear h
  go_enter Tryz.func42, Tryz.ntmps42
  go_upto_region 1 with fail
  generalize w.alloc (.cells #[.int .i64 x, .int .i64 y] 68) = w0 at *
  go_wp2_with fail
  refine (GR _).mono ?_
  rintro e w1 ⟨rfl, g1⟩
  have B1 := below_trans B0 g1.below
  go_wp2
  go_ret
  exact ⟨rfl, B1⟩
/-- The text of whatever point. -/
theorem rprint_any (x y : Int) (w : World) : Calls Tryz.prog 42 #[.agg #[.int .i64 x, .int .i64 y]] w fun e w' => e = .returned (.string ⟨(ptx x y).toArray⟩) ∧ Below w.heap.size w w' := by
  unfold ptx
  cases h : (ok1 x && ok1 y)
  · rw [if_neg (by simp)]; exact rprint_no x y w h
  · rw [if_pos rfl]; exact rprint_ok x y w h

set_option maxRecDepth 20000 in
set_option maxHeartbeats 4000000 in
theorem rnum_neg (l : List UInt8) (w : World) (hl : l.length ≤ 281474976710656) (h45 : l.head? = some 45) :
    Calls Tryz.prog 77 #[.string ⟨l.toArray⟩] w fun e w' => e = .returned (.tuple #[.int .i64 (numL l).1, .int .i64 ((numL l).2 : Int)]) ∧ w = w' := by
  have hs : (ByteArray.mk l.toArray).size = l.length := rfl
  have HG : Hid (∀ (k : Nat) h, (ByteArray.mk l.toArray)[k]'h = bat l k) := bat_get l
  have hl1 : 1 ≤ l.length := by cases l with
    | nil => cases h45
    | cons c r => simp
  have hpos : 0 < l.length := hl1
  have hie : (ByteArray.mk l.toArray).toList.isEmpty = false := by
    rw [ByteArray.toList_eq]
    cases l with
    | nil => cases h45
    | cons c r => rfl
  have hg0 : ∀ h, (ByteArray.mk l.toArray)[0]'h = 45 := by
    intro h
    rw [bat_get]
    cases l with
    | nil => cases h45
    | cons c r => simp at h45; rw [h45]; rfl
  obtain ⟨N, hN⟩ : ∃ N, N = (numG 9 (l.drop 1) 0).1 := ⟨_, rfl⟩
  obtain ⟨K, hKe⟩ : ∃ K, K = (numG 9 (l.drop 1) 0).2 + 1 := ⟨_, rfl⟩
  have HN : Hid ((numG (10 - 1) (l.drop 1) 0).1 = N ∧ 1 + (numG (10 - 1) (l.drop 1) 0).2 = K) := ⟨hN.symm, by show 1 + (numG 9 (l.drop 1) 0).2 = _; rw [hKe]; omega⟩
  have hR : Hid ((numL l).1 = -(N : Int)) := by show _ = _; unfold numL; rw [if_pos h45, hN]
  have hK : Hid ((numL l).2 = K) := by show _ = _; unfold numL; rw [if_pos h45, hKe]
  generalize (numL l).1 = R at *
  generalize (numL l).2 = K2 at *
  have hvN : True := trivial
  clear h45 hN hKe
  generalize ByteArray.mk l.toArray = S at *
  go_enter Tryz.func77, Tryz.ntmps77
  go_wp2_with fail
  go_loopw [4, 5] (fun r4 r5 wr => ∃ (k v : Nat), r4 = .int .i64 (k : Int) ∧ r5 = .int .i64 (v : Int) ∧ k ≤ l.length ∧ k ≤ 10 ∧ w = wr ∧ Hid (v < 10 ^ k) ∧ Hid ((numG (10 - k) (l.drop k) v).1 = N ∧ k + (numG (10 - k) (l.drop k) v).2 = K)) (fun r4 _ _ => 10 - (intOf r4).toNat)
  case atStart => exact ⟨1, 0, rfl, rfl, hl1, by omega, rfl, (by show 0 < 10 ^ 1; decide), HN⟩
  case round =>
    obtain ⟨k, v, rfl, rfl, hk, hk10, rfl, hv, hH⟩ := hrel
    have hwv : IntKind.i64.wrap (-(v : Int)) = -(v : Int) := by
      have h1 : v < 10 ^ 10 := Nat.lt_of_lt_of_le hv.out (Nat.pow_le_pow_right (by decide) hk10)
      rw [IntKind.wrap_i64]; omega
    by_cases hlt : k < l.length
    · have hlt' : (k : Int) < (l.length : Int) := by omega
      have j0 : (0 : Int) ≤ (k : Int) := by omega
      have hgk := HG.out k
      have hd := drop_bat l k hlt
      obtain ⟨c, hc⟩ : ∃ c, c = bat l k := ⟨_, rfl⟩
      rw [← hc] at hgk hd
      clear hc
      have hcl := c.toNat_lt
      by_cases h48 : 48 ≤ c.toNat
      · have p48 : (48 : Int) ≤ (c.toNat : Int) := by omega
        by_cases h57 : c.toNat ≤ 57
        · have p57 : (c.toNat : Int) ≤ 57 := by omega
          by_cases h10 : k < 10
          · have p10 : (k : Int) < 10 := by omega
            obtain ⟨v', hv'⟩ : ∃ v', v' = 10 * v + (c.toNat - 48) := ⟨_, rfl⟩
            have hp : (10 : Nat) ^ (k + 1) = 10 * 10 ^ k := by rw [Nat.pow_succ, Nat.mul_comm]
            have hb : 10 ^ (k + 1) ≤ 10 ^ 10 := Nat.pow_le_pow_right (by decide) (by omega)
            have hvv : Hid (v' < 10 ^ (k + 1)) := by show v' < _; have := hv.out; omega
            have hbig : v' < 10000000000 := Nat.lt_of_lt_of_le hvv.out hb
            have e1 : IntKind.i64.wrap (10 * (v : Int)) = 10 * (v : Int) := by rw [IntKind.wrap_i64]; omega
            have e2 : IntKind.u8.wrap ((c.toNat : Int) - 48) = ((c.toNat : Int) - 48) := by rw [IntKind.wrap_u8]; omega
            have e3 : IntKind.i64.wrap ((c.toNat : Int) - 48) = ((c.toNat : Int) - 48) := by rw [IntKind.wrap_i64]; omega
            have e4 : IntKind.i64.wrap (10 * (v : Int) + ((c.toNat : Int) - 48)) = (v' : Int) := by rw [IntKind.wrap_i64]; omega
            have e5 : IntKind.i64.wrap ((k : Int) + 1) = (k : Int) + 1 := by rw [IntKind.wrap_i64]; omega
            have hH' : Hid ((numG (10 - (k + 1)) (l.drop (k + 1)) v').1 = N ∧ k + 1 + (numG (10 - (k + 1)) (l.drop (k + 1)) v').2 = K) := by
              show _ ∧ _
              have h := hH.out
              rw [hd, show 10 - k = (10 - (k + 1)) + 1 by omega] at h
              simp only [numG] at h
              rw [if_pos ⟨h48, h57⟩, ← hv'] at h
              simp only at h
              exact ⟨h.1, by omega⟩
            clear hH hd hv hp hb hbig hv' HG HN hvN hwv
            go_wp2_with fail
            exact ⟨⟨k + 1, v', by rw [cast1], rfl, by omega, by omega, trivial, hvv, hH'⟩, by simp [intOf] <;> omega⟩
          · have p10 : ¬ (k : Int) < 10 := by omega
            have hE : v = N ∧ k = K := by
              have h := hH.out
              rw [show 10 - k = 0 by omega] at h
              exact ⟨h.1, h.2⟩
            obtain ⟨rfl, rfl⟩ := hE
            clear hH hd hv HN
            go_wp2_with fail
            refine bodyPost_ret_by (v := .tuple #[.int .i64 R, .int .i64 (K2 : Int)]) ?_ rfl ⟨rfl, rfl⟩
            simp [results, Tryz.results77, go_sem, hR.out, hK.out]
        · have p57 : ¬ (c.toNat : Int) ≤ 57 := by omega
          have hE : v = N ∧ k = K := by
            have h := hH.out
            rw [hd] at h
            cases hf : 10 - k with
            | zero => rw [hf] at h; exact ⟨h.1, h.2⟩
            | succ f => rw [hf] at h; simp only [numG] at h; rw [if_neg (by omega)] at h; exact ⟨h.1, h.2⟩
          obtain ⟨rfl, rfl⟩ := hE
          clear hH hd hv HN
          go_wp2_with fail
          refine bodyPost_ret_by (v := .tuple #[.int .i64 R, .int .i64 (K2 : Int)]) ?_ rfl ⟨rfl, rfl⟩
          simp [results, Tryz.results77, go_sem, hR.out, hK.out]
      · have p48 : ¬ (48 : Int) ≤ (c.toNat : Int) := by omega
        have hE : v = N ∧ k = K := by
          have h := hH.out
          rw [hd] at h
          cases hf : 10 - k with
          | zero => rw [hf] at h; exact ⟨h.1, h.2⟩
          | succ f => rw [hf] at h; simp only [numG] at h; rw [if_neg (by omega)] at h; exact ⟨h.1, h.2⟩
        obtain ⟨rfl, rfl⟩ := hE
        clear hH hd hv HN
        go_wp2_with fail
        refine bodyPost_ret_by (v := .tuple #[.int .i64 R, .int .i64 (K2 : Int)]) ?_ rfl ⟨rfl, rfl⟩
        simp [results, Tryz.results77, go_sem, hR.out, hK.out]
    · have hlt' : ¬ (k : Int) < (l.length : Int) := by omega
      have hE : v = N ∧ k = K := by
        have h := hH.out
        rw [List.drop_eq_nil_of_le (by omega)] at h
        cases hf : 10 - k with
        | zero => rw [hf] at h; exact ⟨h.1, h.2⟩
        | succ f => rw [hf] at h; exact ⟨h.1, h.2⟩
      obtain ⟨rfl, rfl⟩ := hE
      clear hH hv HN
      go_wp2_with fail
      refine bodyPost_ret_by (v := .tuple #[.int .i64 R, .int .i64 (K2 : Int)]) ?_ rfl ⟨rfl, rfl⟩
      simp [results, Tryz.results77, go_sem, hR.out, hK.out]

set_option maxRecDepth 20000 in
set_option maxHeartbeats 4000000 in
theorem rnum_pos (l : List UInt8) (w : World) (hl : l.length ≤ 281474976710656) (hpos : 0 < l.length) (h45 : l.head? ≠ some 45) :
    Calls Tryz.prog 77 #[.string ⟨l.toArray⟩] w fun e w' => e = .returned (.tuple #[.int .i64 (numL l).1, .int .i64 ((numL l).2 : Int)]) ∧ w = w' := by
  have hs : (ByteArray.mk l.toArray).size = l.length := rfl
  have HG : Hid (∀ (k : Nat) h, (ByteArray.mk l.toArray)[k]'h = bat l k) := bat_get l
  have hie : (ByteArray.mk l.toArray).toList.isEmpty = false := by
    rw [ByteArray.toList_eq]
    cases l with
    | nil => simp at hpos
    | cons c r => rfl
  obtain ⟨c0, hc0⟩ : ∃ c0, c0 = bat l 0 := ⟨_, rfl⟩
  have hg0 : ∀ h, (ByteArray.mk l.toArray)[0]'h = c0 := by
    intro h
    rw [bat_get, hc0]
  have hn45 : ((c0.toNat : Int) == 45) = false := by
    rw [beq_eq_false_iff_ne]
    intro e
    refine h45 ?_
    cases l with
    | nil => simp at hpos
    | cons c r =>
      have e2 : c0 = c := hc0
      rw [e2] at e
      show some c = some 45
      rw [show c = 45 from UInt8.toNat_inj.1 (by show c.toNat = 45; omega)]
  obtain ⟨N, hN⟩ : ∃ N, N = (numG 10 l 0).1 := ⟨_, rfl⟩
  obtain ⟨K, hKe⟩ : ∃ K, K = (numG 10 l 0).2 := ⟨_, rfl⟩
  have HN : Hid ((numG (10 - 0) (l.drop 0) 0).1 = N ∧ 0 + (numG (10 - 0) (l.drop 0) 0).2 = K) := ⟨by rw [List.drop_zero]; exact hN.symm, by rw [List.drop_zero]; show 0 + (numG 10 l 0).2 = _; rw [hKe]; omega⟩
  have hR : Hid ((numL l).1 = (N : Int)) := by show _ = _; unfold numL; rw [if_neg h45, hN]
  have hK : Hid ((numL l).2 = K) := by show _ = _; unfold numL; rw [if_neg h45, hKe]
  generalize (numL l).1 = R at *
  generalize (numL l).2 = K2 at *
  have hvN : True := trivial
  clear h45 hN hKe hc0
  generalize ByteArray.mk l.toArray = S at *
  go_enter Tryz.func77, Tryz.ntmps77
  go_wp2_with fail
  go_loopw [4, 5] (fun r4 r5 wr => ∃ (k v : Nat), r4 = .int .i64 (k : Int) ∧ r5 = .int .i64 (v : Int) ∧ k ≤ l.length ∧ k ≤ 10 ∧ w = wr ∧ Hid (v < 10 ^ k) ∧ Hid ((numG (10 - k) (l.drop k) v).1 = N ∧ k + (numG (10 - k) (l.drop k) v).2 = K)) (fun r4 _ _ => 10 - (intOf r4).toNat)
  case atStart => exact ⟨0, 0, rfl, rfl, Nat.zero_le _, by omega, rfl, (by show 0 < 10 ^ 0; decide), HN⟩
  case round =>
    obtain ⟨k, v, rfl, rfl, hk, hk10, rfl, hv, hH⟩ := hrel
    have hwv : IntKind.i64.wrap (-(v : Int)) = -(v : Int) := by
      have h1 : v < 10 ^ 10 := Nat.lt_of_lt_of_le hv.out (Nat.pow_le_pow_right (by decide) hk10)
      rw [IntKind.wrap_i64]; omega
    by_cases hlt : k < l.length
    · have hlt' : (k : Int) < (l.length : Int) := by omega
      have j0 : (0 : Int) ≤ (k : Int) := by omega
      have hgk := HG.out k
      have hd := drop_bat l k hlt
      obtain ⟨c, hc⟩ : ∃ c, c = bat l k := ⟨_, rfl⟩
      rw [← hc] at hgk hd
      clear hc
      have hcl := c.toNat_lt
      by_cases h48 : 48 ≤ c.toNat
      · have p48 : (48 : Int) ≤ (c.toNat : Int) := by omega
        by_cases h57 : c.toNat ≤ 57
        · have p57 : (c.toNat : Int) ≤ 57 := by omega
          by_cases h10 : k < 10
          · have p10 : (k : Int) < 10 := by omega
            obtain ⟨v', hv'⟩ : ∃ v', v' = 10 * v + (c.toNat - 48) := ⟨_, rfl⟩
            have hp : (10 : Nat) ^ (k + 1) = 10 * 10 ^ k := by rw [Nat.pow_succ, Nat.mul_comm]
            have hb : 10 ^ (k + 1) ≤ 10 ^ 10 := Nat.pow_le_pow_right (by decide) (by omega)
            have hvv : Hid (v' < 10 ^ (k + 1)) := by show v' < _; have := hv.out; omega
            have hbig : v' < 10000000000 := Nat.lt_of_lt_of_le hvv.out hb
            have e1 : IntKind.i64.wrap (10 * (v : Int)) = 10 * (v : Int) := by rw [IntKind.wrap_i64]; omega
            have e2 : IntKind.u8.wrap ((c.toNat : Int) - 48) = ((c.toNat : Int) - 48) := by rw [IntKind.wrap_u8]; omega
            have e3 : IntKind.i64.wrap ((c.toNat : Int) - 48) = ((c.toNat : Int) - 48) := by rw [IntKind.wrap_i64]; omega
            have e4 : IntKind.i64.wrap (10 * (v : Int) + ((c.toNat : Int) - 48)) = (v' : Int) := by rw [IntKind.wrap_i64]; omega
            have e5 : IntKind.i64.wrap ((k : Int) + 1) = (k : Int) + 1 := by rw [IntKind.wrap_i64]; omega
            have hH' : Hid ((numG (10 - (k + 1)) (l.drop (k + 1)) v').1 = N ∧ k + 1 + (numG (10 - (k + 1)) (l.drop (k + 1)) v').2 = K) := by
              show _ ∧ _
              have h := hH.out
              rw [hd, show 10 - k = (10 - (k + 1)) + 1 by omega] at h
              simp only [numG] at h
              rw [if_pos ⟨h48, h57⟩, ← hv'] at h
              simp only at h
              exact ⟨h.1, by omega⟩
            clear hH hd hv hp hb hbig hv' HG HN hvN hwv
            go_wp2_with fail
            exact ⟨⟨k + 1, v', by rw [cast1], rfl, by omega, by omega, trivial, hvv, hH'⟩, by simp [intOf] <;> omega⟩
          · have p10 : ¬ (k : Int) < 10 := by omega
            have hE : v = N ∧ k = K := by
              have h := hH.out
              rw [show 10 - k = 0 by omega] at h
              exact ⟨h.1, h.2⟩
            obtain ⟨rfl, rfl⟩ := hE
            clear hH hd hv HN
            go_wp2_with fail
            refine bodyPost_ret_by (v := .tuple #[.int .i64 R, .int .i64 (K2 : Int)]) ?_ rfl ⟨rfl, rfl⟩
            simp [results, Tryz.results77, go_sem, hR.out, hK.out]
        · have p57 : ¬ (c.toNat : Int) ≤ 57 := by omega
          have hE : v = N ∧ k = K := by
            have h := hH.out
            rw [hd] at h
            cases hf : 10 - k with
            | zero => rw [hf] at h; exact ⟨h.1, h.2⟩
            | succ f => rw [hf] at h; simp only [numG] at h; rw [if_neg (by omega)] at h; exact ⟨h.1, h.2⟩
          obtain ⟨rfl, rfl⟩ := hE
          clear hH hd hv HN
          go_wp2_with fail
          refine bodyPost_ret_by (v := .tuple #[.int .i64 R, .int .i64 (K2 : Int)]) ?_ rfl ⟨rfl, rfl⟩
          simp [results, Tryz.results77, go_sem, hR.out, hK.out]
      · have p48 : ¬ (48 : Int) ≤ (c.toNat : Int) := by omega
        have hE : v = N ∧ k = K := by
          have h := hH.out
          rw [hd] at h
          cases hf : 10 - k with
          | zero => rw [hf] at h; exact ⟨h.1, h.2⟩
          | succ f => rw [hf] at h; simp only [numG] at h; rw [if_neg (by omega)] at h; exact ⟨h.1, h.2⟩
        obtain ⟨rfl, rfl⟩ := hE
        clear hH hd hv HN
        go_wp2_with fail
        refine bodyPost_ret_by (v := .tuple #[.int .i64 R, .int .i64 (K2 : Int)]) ?_ rfl ⟨rfl, rfl⟩
        simp [results, Tryz.results77, go_sem, hR.out, hK.out]
    · have hlt' : ¬ (k : Int) < (l.length : Int) := by omega
      have hE : v = N ∧ k = K := by
        have h := hH.out
        rw [List.drop_eq_nil_of_le (by omega)] at h
        cases hf : 10 - k with
        | zero => rw [hf] at h; exact ⟨h.1, h.2⟩
        | succ f => rw [hf] at h; exact ⟨h.1, h.2⟩
      obtain ⟨rfl, rfl⟩ := hE
      clear hH hv HN
      go_wp2_with fail
      refine bodyPost_ret_by (v := .tuple #[.int .i64 R, .int .i64 (K2 : Int)]) ?_ rfl ⟨rfl, rfl⟩
      simp [results, Tryz.results77, go_sem, hR.out, hK.out]

set_option maxHeartbeats 2000000 in
theorem rnum_nil (w : World) : Calls Tryz.prog 77 #[.string ⟨#[]⟩] w fun e w' => e = .returned (.tuple #[.int .i64 0, .int .i64 0]) ∧ w = w' := by
  have hs : (ByteArray.mk #[]).size = 0 := rfl
  have hie : (ByteArray.mk #[]).toList.isEmpty = true := by rw [ByteArray.toList_eq]; rfl
  generalize ByteArray.mk #[] = S at *
  go_enter Tryz.func77, Tryz.ntmps77
  go_wp2_with fail
  go_loopw [4, 5] (fun r4 r5 wr => r4 = .int .i64 0 ∧ r5 = .int .i64 0 ∧ w = wr) (fun _ _ _ => 0)
  case atStart => exact ⟨rfl, rfl, rfl⟩
  case round =>
    obtain ⟨rfl, rfl, rfl⟩ := hrel
    go_wp2_with fail
    refine bodyPost_ret_by (v := .tuple #[.int .i64 0, .int .i64 0]) ?_ rfl ⟨rfl, rfl⟩
    simp [results, Tryz.results77, go_sem]
theorem rnum_any (l : List UInt8) (w : World) (hl : l.length ≤ 281474976710656) : Calls Tryz.prog 77 #[.string ⟨l.toArray⟩] w fun e w' => e = .returned (.tuple #[.int .i64 (numL l).1, .int .i64 ((numL l).2 : Int)]) ∧ w = w' := by
  by_cases h : l = []
  · subst h; exact rnum_nil w
  · by_cases h45 : l.head? = some 45
    · exact rnum_neg l w hl h45
    · exact rnum_pos l w hl (by cases l with
        | nil => exact absurd rfl h
        | cons c r => simp) h45
set_option maxRecDepth 20000 in
set_option maxHeartbeats 2000000 in
theorem rparse_nil (w : World) : Calls Tryz.prog 32 #[.string ⟨#[]⟩] w fun e w' => e = .returned (.tuple #[.agg #[.int .i64 0, .int .i64 0], .int .i64 21]) ∧ Below w.heap.size w w' := by
  have hie : (ByteArray.mk #[]).toList.isEmpty = true := by rw [ByteArray.toList_eq]; rfl
  generalize ByteArray.mk #[] = LB at *
  have B0 : Below w.heap.size w (w.alloc (.cells #[.int .i64 0, .int .i64 0] 68)) := (Below.refl _ w).alloc (Nat.le_refl _) _
  have BR := Cbox.new w #[.int .i64 0, .int .i64 0] 68
  have r0 := BR.at 0
  have r1 := BR.at 1
  have rl := BR.lt
  have f0 := BR.free 0
  have f1 := BR.free 1
  go_enter Tryz.func32, Tryz.ntmps32
  go_upto_region 1 with fail
  generalize w.alloc (.cells #[.int .i64 0, .int .i64 0] 68) = w0 at *
  go_wp2
  refine bodyPost_ret_by (v := .tuple #[.agg #[.int .i64 0, .int .i64 0], .int .i64 21]) ?_ rfl ⟨rfl, ?_⟩
  · simp [results, Tryz.results32, go_sem, r0, r1]
  · exact (B0.setCell (p := ⟨w.heap.size, 0, none⟩) (Nat.le_refl _) _).setCell (p := ⟨w.heap.size, 1, none⟩) (Nat.le_refl _) _
set_option maxRecDepth 20000 in
set_option maxHeartbeats 2000000 in
theorem rparse_short (LB L1 : ByteArray) (len nn : Nat) (n : Int) (w : World) (hs : LB.size = len) (hpos : 0 < len) (hlen : len ≤ 281474976710656) (hn2 : nn ≤ len) (hnn : len < nn + 2)
    (hie : LB.toList.isEmpty = false) (hx1 : LB.extract 1 len = L1)
    (NX : ∀ W, Calls Tryz.prog 77 #[.string L1] W fun e w' => e = .returned (.tuple #[.int .i64 n, .int .i64 (nn : Int)]) ∧ W = w') :
    Calls Tryz.prog 32 #[.string LB] w fun e w' => e = .returned (.tuple #[.agg #[.int .i64 0, .int .i64 0], .int .i64 21]) ∧ Below w.heap.size w w' := by
  have i1 : IntKind.i64.wrap ((nn : Int) + 2) = (nn : Int) + 2 := by rw [IntKind.wrap_i64]; omega
  have i2 : (len : Int) < (nn : Int) + 2 := by omega
  have i6 : (1 : Int) ≤ (len : Int) := by omega
  clear hlen
  have B0 : Below w.heap.size w (w.alloc (.cells #[.int .i64 0, .int .i64 0] 68)) := (Below.refl _ w).alloc (Nat.le_refl _) _
  have BR := Cbox.new w #[.int .i64 0, .int .i64 0] 68
  have r0 := BR.at 0
  have r1 := BR.at 1
  have rl := BR.lt
  have f0 := BR.free 0
  have f1 := BR.free 1
  go_enter Tryz.func32, Tryz.ntmps32
  go_upto_region 1 with fail
  generalize w.alloc (.cells #[.int .i64 0, .int .i64 0] 68) = w0 at *
  go_wp2_with fail
  refine (NX _).mono ?_
  rintro e w1 ⟨rfl, rfl⟩
  go_wp2
  refine bodyPost_ret_by (v := .tuple #[.agg #[.int .i64 0, .int .i64 0], .int .i64 21]) ?_ rfl ⟨rfl, ?_⟩
  · simp [results, Tryz.results32, go_sem, r0, r1]
  · exact (B0.setCell (p := ⟨w.heap.size, 0, none⟩) (Nat.le_refl _) _).setCell (p := ⟨w.heap.size, 1, none⟩) (Nat.le_refl _) _
set_option maxRecDepth 20000 in
set_option maxHeartbeats 2000000 in
theorem rparse_b (LB L1 L2 PB : ByteArray) (len nn : Nat) (n m k2 : Int) (w : World) (hs : LB.size = len) (hpos : 0 < len) (hlen : len ≤ 281474976710656) (hnn : nn + 2 ≤ len)
    (hie : LB.toList.isEmpty = false) (hx1 : LB.extract 1 len = L1) (hx2 : LB.extract (nn + 2) len = L2)
    (NX : ∀ W, Calls Tryz.prog 77 #[.string L1] W fun e w' => e = .returned (.tuple #[.int .i64 n, .int .i64 (nn : Int)]) ∧ W = w')
    (NY : ∀ W, Calls Tryz.prog 77 #[.string L2] W fun e w' => e = .returned (.tuple #[.int .i64 m, .int .i64 k2]) ∧ W = w')
    (PR : ∀ W, Calls Tryz.prog 42 #[.agg #[.int .i64 n, .int .i64 m]] W fun e w' => e = .returned (.string PB) ∧ Below W.heap.size W w')
    (heq : (PB.toList == LB.toList) = false) :
    Calls Tryz.prog 32 #[.string LB] w fun e w' => e = .returned (.tuple #[.agg #[.int .i64 0, .int .i64 0], .int .i64 21]) ∧ Below w.heap.size w w' := by
  have i1 : IntKind.i64.wrap ((nn : Int) + 2) = (nn : Int) + 2 := by rw [IntKind.wrap_i64]; omega
  have i2 : ¬ (len : Int) < (nn : Int) + 2 := by omega
  have i3 : (0 : Int) ≤ (nn : Int) + 2 := by omega
  have i4 : (nn : Int) + 2 ≤ (len : Int) := by omega
  have i5 : ((nn : Int) + 2).toNat = nn + 2 := by omega
  have i6 : (1 : Int) ≤ (len : Int) := by omega
  clear hlen
  have B0 : Below w.heap.size w (w.alloc (.cells #[.int .i64 0, .int .i64 0] 68)) := (Below.refl _ w).alloc (Nat.le_refl _) _
  have BR := Cbox.new w #[.int .i64 0, .int .i64 0] 68
  have r0 := BR.at 0
  have r1 := BR.at 1
  have rl := BR.lt
  have f0 := BR.free 0
  have f1 := BR.free 1
  go_enter Tryz.func32, Tryz.ntmps32
  go_upto_region 1 with fail
  generalize w.alloc (.cells #[.int .i64 0, .int .i64 0] 68) = w0 at *
  go_wp2_with fail
  refine (NX _).mono ?_
  rintro e w1 ⟨rfl, rfl⟩
  go_wp2_with fail
  refine (NY _).mono ?_
  rintro e w2 ⟨rfl, rfl⟩
  have A4 : Below w0.heap.size w0 (w0.alloc (.cells #[.int .i64 n, .int .i64 m] 68)) := (Below.refl _ _).alloc (Nat.le_refl _) _
  have BP := Cbox.new w0 #[.int .i64 n, .int .i64 m] 68
  have B4 := below_trans B0 A4
  have BR4 := BR.later A4
  have h3 : ¬ w0.heap.size = w.heap.size := by omega
  have h3' : ¬ w.heap.size = w0.heap.size := by omega
  go_upto_region 8 with fail
  generalize w0.alloc (.cells #[.int .i64 n, .int .i64 m] 68) = w4 at *
  have z0 := BP.at 0
  have z1 := BP.at 1
  clear A4
  go_wp2_with fail
  refine (PR _).mono ?_
  rintro e w5 ⟨rfl, b5⟩
  have B5 := below_trans B4 b5
  have BR5 := BR4.later b5
  have BP5 := BP.later b5
  have z0 := BP5.at 0
  have z1 := BP5.at 1
  have r0 := BR5.at 0
  have r1 := BR5.at 1
  have rl := BR5.lt
  have f0 := BR5.free 0
  have f1 := BR5.free 1
  have hb5 : w.heap.size ≤ w5.heap.size := B5.size
  clear BR5 BR4 BP BP5
  go_wp2
  refine bodyPost_ret_by (v := .tuple #[.agg #[.int .i64 0, .int .i64 0], .int .i64 21]) ?_ rfl ⟨rfl, ?_⟩
  · simp [results, Tryz.results32, go_sem, r0, r1]
  · exact (B5.setCell (p := ⟨w.heap.size, 0, none⟩) (Nat.le_refl _) _).setCell (p := ⟨w.heap.size, 1, none⟩) (Nat.le_refl _) _
set_option maxRecDepth 20000 in
set_option maxHeartbeats 2000000 in
theorem rparse_c (LB L1 L2 PB : ByteArray) (len nn : Nat) (n m k2 : Int) (w : World) (hs : LB.size = len) (hpos : 0 < len) (hlen : len ≤ 281474976710656) (hnn : nn + 2 ≤ len)
    (hie : LB.toList.isEmpty = false) (hx1 : LB.extract 1 len = L1) (hx2 : LB.extract (nn + 2) len = L2)
    (NX : ∀ W, Calls Tryz.prog 77 #[.string L1] W fun e w' => e = .returned (.tuple #[.int .i64 n, .int .i64 (nn : Int)]) ∧ W = w')
    (NY : ∀ W, Calls Tryz.prog 77 #[.string L2] W fun e w' => e = .returned (.tuple #[.int .i64 m, .int .i64 k2]) ∧ W = w')
    (PR : ∀ W, Calls Tryz.prog 42 #[.agg #[.int .i64 n, .int .i64 m]] W fun e w' => e = .returned (.string PB) ∧ Below W.heap.size W w')
    (heq : (PB.toList == LB.toList) = true) :
    Calls Tryz.prog 32 #[.string LB] w fun e w' => e = .returned (.tuple #[.agg #[.int .i64 n, .int .i64 m], .int .i64 0]) ∧ Below w.heap.size w w' := by
  have i1 : IntKind.i64.wrap ((nn : Int) + 2) = (nn : Int) + 2 := by rw [IntKind.wrap_i64]; omega
  have i2 : ¬ (len : Int) < (nn : Int) + 2 := by omega
  have i3 : (0 : Int) ≤ (nn : Int) + 2 := by omega
  have i4 : (nn : Int) + 2 ≤ (len : Int) := by omega
  have i5 : ((nn : Int) + 2).toNat = nn + 2 := by omega
  have i6 : (1 : Int) ≤ (len : Int) := by omega
  clear hlen
  have B0 : Below w.heap.size w (w.alloc (.cells #[.int .i64 0, .int .i64 0] 68)) := (Below.refl _ w).alloc (Nat.le_refl _) _
  have BR := Cbox.new w #[.int .i64 0, .int .i64 0] 68
  have r0 := BR.at 0
  have r1 := BR.at 1
  have rl := BR.lt
  have f0 := BR.free 0
  have f1 := BR.free 1
  go_enter Tryz.func32, Tryz.ntmps32
  go_upto_region 1 with fail
  generalize w.alloc (.cells #[.int .i64 0, .int .i64 0] 68) = w0 at *
  go_wp2_with fail
  refine (NX _).mono ?_
  rintro e w1 ⟨rfl, rfl⟩
  go_wp2_with fail
  refine (NY _).mono ?_
  rintro e w2 ⟨rfl, rfl⟩
  have A4 : Below w0.heap.size w0 (w0.alloc (.cells #[.int .i64 n, .int .i64 m] 68)) := (Below.refl _ _).alloc (Nat.le_refl _) _
  have BP := Cbox.new w0 #[.int .i64 n, .int .i64 m] 68
  have B4 := below_trans B0 A4
  have BR4 := BR.later A4
  have h3 : ¬ w0.heap.size = w.heap.size := by omega
  have h3' : ¬ w.heap.size = w0.heap.size := by omega
  go_upto_region 8 with fail
  generalize w0.alloc (.cells #[.int .i64 n, .int .i64 m] 68) = w4 at *
  have z0 := BP.at 0
  have z1 := BP.at 1
  clear A4
  go_wp2_with fail
  refine (PR _).mono ?_
  rintro e w5 ⟨rfl, b5⟩
  have B5 := below_trans B4 b5
  have BR5 := BR4.later b5
  have BP5 := BP.later b5
  have z0 := BP5.at 0
  have z1 := BP5.at 1
  have r0 := BR5.at 0
  have r1 := BR5.at 1
  have rl := BR5.lt
  have f0 := BR5.free 0
  have f1 := BR5.free 1
  have hb5 : w.heap.size ≤ w5.heap.size := B5.size
  clear BR5 BR4 BP BP5
  go_wp2
  refine bodyPost_ret_by (v := .tuple #[.agg #[.int .i64 n, .int .i64 m], .int .i64 0]) ?_ rfl ⟨rfl, ?_⟩
  · simp [results, Tryz.results32, go_sem, r0, r1]
  · exact (B5.setCell (p := ⟨w.heap.size, 0, none⟩) (Nat.le_refl _) _).setCell (p := ⟨w.heap.size, 1, none⟩) (Nat.le_refl _) _

theorem numL_len (l : List UInt8) : (numL l).2 ≤ l.length := by
  unfold numL
  split
  · rename_i h
    have h1 := (numG_lt 9 (l.drop 1) 0).2
    have h2 : 0 < l.length := by cases l with
      | nil => cases h
      | cons c r => simp
    simp only [List.length_drop] at h1
    simp only; omega
  · exact (numG_lt 10 l 0).2
/-- The document's Parse of whatever text. -/
theorem rparse_any (l : List UInt8) (w : World) (hl : l.length ≤ 281474976710656) :
    Calls Tryz.prog 32 #[.string ⟨l.toArray⟩] w fun e w' => e = .returned (.tuple #[.agg #[.int .i64 (gpv l).1, .int .i64 (gpv l).2.1], .int .i64 (gpv l).2.2]) ∧ Below w.heap.size w w' := by
  rw [← rpv_eq]
  by_cases h0 : l = []
  · subst h0; exact rparse_nil w
  have hpos : 0 < l.length := by cases l with
    | nil => exact absurd rfl h0
    | cons c r => simp
  have hie : (ByteArray.mk l.toArray).toList.isEmpty = false := by
    rw [ByteArray.toList_eq]
    cases l with
    | nil => exact absurd rfl h0
    | cons c r => rfl
  have hx1 : (ByteArray.mk l.toArray).extract 1 l.length = ⟨(l.drop 1).toArray⟩ := by rw [ba_extract, List.take_length]
  have NX := fun W => rnum_any (l.drop 1) W (by simp; omega)
  have hq := numL_len (l.drop 1)
  rw [List.length_drop] at hq
  obtain ⟨q, hqe⟩ : ∃ q, q = numL (l.drop 1) := ⟨_, rfl⟩
  rw [← hqe] at NX hq
  unfold rpv
  rw [if_neg h0, ← hqe]
  by_cases hsh : l.length < q.2 + 2
  · rw [if_pos hsh]
    exact rparse_short _ _ l.length q.2 _ w rfl hpos hl (by omega) hsh hie hx1 NX
  · rw [if_neg hsh]
    have hx2 : (ByteArray.mk l.toArray).extract (q.2 + 2) l.length = ⟨(l.drop (q.2 + 2)).toArray⟩ := by rw [ba_extract, List.take_length]
    have NY := fun W => rnum_any (l.drop (q.2 + 2)) W (by simp; omega)
    obtain ⟨z, hz⟩ : ∃ z, z = numL (l.drop (q.2 + 2)) := ⟨_, rfl⟩
    rw [← hz] at NY ⊢
    have PR := fun W => rprint_any q.1 z.1 W
    have heq := ba_beq (ptx q.1 z.1) l
    by_cases he : ptx q.1 z.1 = l
    · have hok : (ok1 q.1 && ok1 z.1) = true := by
        cases hc : (ok1 q.1 && ok1 z.1)
        · unfold ptx at he; rw [hc] at he; exact absurd he.symm h0
        · rfl
      have he2 : gtx q.1 z.1 = l := by unfold ptx at he; rw [if_pos hok] at he; exact he
      rw [if_pos ⟨hok, he2⟩]
      rw [decide_eq_true he] at heq
      exact rparse_c _ _ _ _ l.length q.2 _ _ _ w rfl hpos hl (by omega) hie hx1 hx2 NX NY PR heq
    · rw [if_neg (fun c => he (by unfold ptx; rw [if_pos c.1]; exact c.2))]
      rw [decide_eq_false he] at heq
      exact rparse_b _ _ _ _ l.length q.2 _ _ _ w rfl hpos hl (by omega) hie hx1 hx2 NX NY PR heq

end Go.Proofs.YtibbenhplmmmiaaGreatDoor.Pt
