/-
  What DatumBack's rounds lean on.
-/
import Derived.Test.YtibbenhplmmmiaaGreatDoorDTp
import Derived.Test.YtibbenhplmmmiaaGreatDoorMFVRows
import Derived.Test.YtibbenhplmmmiaaGreatDoorVKnows
import Derived.Test.YtibbenhplmmmiaaGreatDoorBkG
namespace Go.Proofs.YtibbenhplmmmiaaGreatDoor.Bk
open Go.RowKit Go.Shelf Go.Proofs.YtibbenhplmmmiaaGreatDoor.Dt Go.Proofs.YtibbenhplmmmiaaGreatDoor.Co
attribute [local go_sem] cell?_more frozen?_more setCell_more more_lt more_more more_drew more_drewN setCell_drewN alloc_drewN

theorem lnum_any (n : Int) (w : World) : Calls Tryz.prog 11 #[.int .i64 n] w fun e w' => e = .returned (.int .i64 n) ∧ w = w' := by
  go_enter Tryz.func11, Tryz.ntmps11
  go_wp2
  go_ret
  exact ⟨rfl, rfl⟩
theorem back_some (v : Va) (hvr : vr v = true) (hn : rg v) : dpG (tx v) = some v := by
  obtain ⟨a, _, _⟩ := there v hvr hn
  unfold dpG
  rw [a, if_pos ⟨rfl, rfl⟩]
theorem back_none (v : Va) (hvr : vr v = false) : dpG (tx v) = none := by
  rw [tx_no hvr]
  unfold dpG
  rw [if_neg (fun c => by rw [tl_nil] at c; cases c.1)]
theorem dt_len (n : Int) (s : Nat) (hs : s ≤ 6) (hn : -9223372036854775808 ≤ n ∧ n ≤ 9223372036854775807) : (dtext n s).length ≤ 60 := by
  have := digs_len 19 n.natAbs (by have : (10 : Nat) ^ (19 + 1) = 100000000000000000000 := by decide
                                   omega)
  have h1 := pad_len s (digs n.natAbs)
  have h0 := pad_len 0 (digs n.natAbs)
  unfold dtext
  split <;> split <;> simp [List.length_take] <;> omega
theorem dbl_len2 (b : List UInt8) : (dbl b).length ≤ 2 * b.length := by
  induction b with
  | nil => simp [dbl]
  | cons c b ih =>
    have e : dbl (c :: b) = (if c = 39 then [39, 39] else [c]) ++ dbl b := by simp [dbl]
    rw [e, List.length_append]
    split <;> simp <;> omega
theorem tx_len (v : Va) (hn : rg v) : (tx v).length ≤ 140737488351232 := by
  unfold rg at hn
  cases hvr : vr v with
  | false => rw [tx_no hvr]; simp
  | true =>
    have hok := (vr_iff v).1 hvr
    unfold tx
    rw [hvr, if_pos rfl]
    unfold vok at hok
    split
    · rename_i h
      unfold ptext
      split
      · have := dt_len v.n 0 (by omega) hn; omega
      · split
        · have := dt_len v.n v.m.toNat (by omega) hn
          unfold dpt
          rw [List.length_append]
          split <;> simp <;> omega
        · have hb : v.b.length ≤ 256 := by omega
          have := dbl_len2 v.b
          show (39 :: (dbl v.b ++ [39])).length ≤ _
          simp; omega
    · split
      · split <;> simp
      · split
        · rename_i h5
          have hq : (-1048576 ≤ v.n ∧ v.n ≤ 1048576) ∧ (-1048576 ≤ v.m ∧ v.m ≤ 1048576) := by omega
          have := Pt.gtx_len v.n v.m (by rw [(Pt.ok1_iff v.n).2 hq.1, (Pt.ok1_iff v.m).2 hq.2]; rfl)
          omega
        · simp
theorem nb10 (n : Int) : (numBytes n).length ≤ 10 := (nb_len 9 (foldN n)).2
theorem vb_len (v : Va) (h : vr v = true) : (vbytes v).length ≤ 300 := by
  have hok := (vr_iff v).1 h
  unfold vok at hok
  have a := nb10 v.k
  have b := nb10 v.n
  have c := nb10 v.m
  unfold vbytes
  rw [List.length_append]
  split
  · omega
  · split
    · rw [List.length_append]; omega
    · split
      · have hb : v.b.length ≤ 256 := by omega
        have d := nb10 ((ByteArray.mk v.b.toArray).size : Int)
        unfold textBytes
        rw [List.length_append]
        show _ + (_ + v.b.length) ≤ 300
        omega
      · simp; omega
theorem many_len (l : List Va) (h : ∀ v ∈ l, vr v = true) : (many vbytes l).length ≤ l.length * 300 := by
  induction l with
  | nil => simp [many]
  | cons v l ih =>
    have e : many vbytes (v :: l) = vbytes v ++ many vbytes l := by simp [many]
    have h1 := vb_len v (h v (by simp))
    have h2 := ih (fun u hu => h u (by simp [hu]))
    rw [e, List.length_append, List.length_cons]
    omega
theorem rbytes_len (l : List Va) (hC : ckE l = 0) : (numBytes (l.length : Int) ++ many vbytes l).length ≤ 70368744177664 := by
  have h64 : l.length ≤ 64 := by
    unfold ckE at hC
    split at hC
    · cases hC
    · omega
  have hvr : ∀ v ∈ l, vr v = true := by
    unfold ckE at hC
    rw [if_neg (by omega)] at hC
    split at hC
    · rename_i h; exact List.all_eq_true.1 h
    · cases hC
  have := many_len l hvr
  have d := nb10 (l.length : Int)
  rw [List.length_append]; omega

set_option maxRecDepth 20000 in
set_option maxHeartbeats 4000000 in
theorem back_bad (ao : Option Addr) (cap : Nat) (l : List Va) (w : World) (hv : Vs w ao l) (h0 : ao = none → l = []) (hl : l.length * 40 ≤ 140737488351232) (hin : ∀ v ∈ l, vin v) (hT : Tabs w) (hP : Pt.Ptab w) (hE : Pt.Ers w) (hC : ckE l ≠ 0) :
    Calls Tryz.prog 4 #[.slice ao l.length cap] w fun e w' => e = .returned (.bool true) ∧ Below w.heap.size w w' := by
  have NU := lnum_any
  have KN : ∀ W, Below w.heap.size w W → _ := fun W h => knows_any W (hT.later h)
  have OWN : ∀ W, Below w.heap.size w W → _ := fun W h => vown_any ao cap l W (hv.later h) h0 hl
  have PUT : ∀ ao' cap' W, Below w.heap.size w W → Vs W ao' l → Calls Tryz.prog 14 #[.slice ao' l.length cap'] W fun e w' => e = .returned (.tuple #[.slice none 0 0, .int .i64 (ckE l)]) ∧ Below W.heap.size W w' := fun ao' cap' W h hV => put_bad ao' cap' l W (hT.later h) hV (by omega) hC
  have ROW : ∀ W, Below w.heap.size w W → Calls Tryz.prog 16 #[.slice ao l.length cap] W fun e w' => e = .returned (.bool false) ∧ Below W.heap.size W w' := fun W h => by
    have := rrow_any ao cap l W (hv.later h) (by omega)
    have h0 : (ckE l == 0) = false := by simpa using hC
    rwa [h0] at this
  have hne : (ckE l != 0) = true := by simpa using hC
  generalize ckE l = E at *
  have HIN : Hid (∀ v ∈ l, vin v) := hin
  have HV : Hid (Vs w ao l) := hv
  have HT : Hid (Tabs w) := hT
  have HP : Hid (Pt.Ptab w) := hP
  have HE : Hid (Pt.Ers w) := hE
  have hll : l.length ≤ 3518437208880 := by omega
  clear hv h0 hl hin hT hP hE hC
  go_enter Tryz.func4, Tryz.ntmps4
  go_wp2_with fail
  go_loopw [3] (fun r3 wr => ∃ i : Nat, r3 = .int .i64 (i : Int) ∧ i ≤ l.length ∧ Below w.heap.size w wr) (fun r3 _ => l.length - (intOf r3).toNat)
  case atStart => exact ⟨0, rfl, Nat.zero_le _, Below.refl _ _⟩
  case round =>
    obtain ⟨i, rfl, hi, B0⟩ := hrel
    by_cases hlt : i < l.length
    · have hlt' : (i : Int) < (l.length : Int) := by omega
      have j0 : (0 : Int) ≤ (i : Int) := by omega
      have e5 : IntKind.i64.wrap ((i : Int) + 1) = (i : Int) + 1 := by rw [IntKind.wrap_i64]; omega
      clear PUT OWN KN
      obtain ⟨b, off, hao, hat⟩ := HV.out (by omega)
      have P0 : At4 wr b (off + i * 4) l[i] := (hat i hlt).later B0
      obtain ⟨v, hvl⟩ : ∃ v, v = l[i] := ⟨_, rfl⟩
      have hvm : v ∈ l := by rw [hvl]; exact List.getElem_mem hlt
      rw [← hvl] at P0
      obtain ⟨p0, p1, p2, p3⟩ := P0
      have P0 : At4 wr b (off + i * 4) v := ⟨p0, p1, p2, p3⟩
      clear hat hvl
      subst hao
      cases hvr : vr v with
      | true =>
        have PR : ∀ W, Below w.heap.size w W → Calls Tryz.prog 8 #[va v.k v.n v.m ⟨v.b.toArray⟩] W fun e w' => e = .returned (.string ⟨(tx v).toArray⟩) ∧ Below W.heap.size W w' := fun W h => Dt.print_any v W (HT.out.later h) (HP.out.later h) (HIN.out v hvm).1
        have PA : ∀ W, Below w.heap.size w W → Calls Tryz.prog 6 #[.string ⟨(tx v).toArray⟩] W fun e w' => e = .returned (.tuple #[va v.k v.n v.m ⟨v.b.toArray⟩, .int .i64 0]) ∧ Below W.heap.size W w' := fun W h => by
          have := Dt.parse_any (tx v) W (tx_len v (HIN.out v hvm).1) (HT.out.later h) (HP.out.later h) (HE.out.later h)
          rw [back_some v hvr (HIN.out v hvm).1] at this
          exact this
        have RR : ∀ W, Calls Tryz.prog 13 #[va v.k v.n v.m ⟨v.b.toArray⟩] W fun e w' => e = .returned (.bool true) ∧ Below W.heap.size W w' := fun W => by
          have : Calls Tryz.prog 13 #[va v.k v.n v.m ⟨v.b.toArray⟩] W fun e w' => e = .returned (.bool (vr v)) ∧ Below W.heap.size W w' := rright_any v.k v.n v.m ⟨v.b.toArray⟩ W
          rwa [hvr] at this
        have SM : ∀ W, Calls Tryz.prog 10 #[va v.k v.n v.m ⟨v.b.toArray⟩, va v.k v.n v.m ⟨v.b.toArray⟩] W fun e w2 => e = .returned (.bool true) ∧ Grew W w2 := fun W => by
          have := rsame_any v.k v.n v.m ⟨v.b.toArray⟩ v.k v.n v.m ⟨v.b.toArray⟩ W
          simpa using this
        have NU := lnum_any
        generalize ByteArray.mk (tx v).toArray = TB at *
        clear hvr hvm
        go_wp2_with fail
        refine (PR _ B0).mono ?_
        rintro e w1 ⟨rfl, b1⟩
        have B1 := below_trans B0 b1
        have P1 := P0.later b1
        go_wp2_with fail
        refine (PA _ B1).mono ?_
        rintro e w2 ⟨rfl, b2⟩
        have B2 := below_trans B1 b2
        have P2 := P1.later b2
        have u2 : Below w2.heap.size w2 (w2.alloc (.cells #[.int .i64 v.k, .int .i64 v.n, .int .i64 v.m, .string ⟨v.b.toArray⟩] 23)) := (Below.refl _ _).alloc (Nat.le_refl _) _
        have A3 := Cbox.new w2 #[.int .i64 v.k, .int .i64 v.n, .int .i64 v.m, .string ⟨v.b.toArray⟩] 23
        have B3 := below_trans B2 u2
        have P3 := P2.later u2
        go_upto_region 5 with fail
        generalize w2.alloc (.cells #[.int .i64 v.k, .int .i64 v.n, .int .i64 v.m, .string ⟨v.b.toArray⟩] 23) = w3 at *
        clear P0 P1 P2 p0 p1 p2 p3 u2 b1 b2
        refine wp_region_held_drew (S := (fun W => At4 W b (off + i * 4) v ∧ Cbox W w2.heap.size #[.int .i64 v.k, .int .i64 v.n, .int .i64 v.m, .string ⟨v.b.toArray⟩] 23)) (by kernel_rfl) ?_ (fun hHeld => ?_)
        · ((try dsimp only); exact ⟨P3, A3⟩)
        refine wpAnyH_take (i := 0) (oi := { dst := some 25, op := Op.move (Operand.tmp 0), type := 34, pos := "law.go:92", after := #[], guard := none }) (v := ?_) rfl (by kernel_rfl) (by kernel_rfl) (by kernel_rfl) (fun _ _ _ h => h) (Or.inl ⟨by rfl, ?_⟩) (by assumption) ?_
        rotate_left
        · (intro W hSw; (try dsimp only at hSw); obtain ⟨y0, y1, y2, y3⟩ := hSw.1; have z0 := hSw.2.at 0; have z1 := hSw.2.at 1; have z2 := hSw.2.at 2; have z3 := hSw.2.at 3; first | (go_simp; done) | (go_simp; with_reducible rfl))
        try simp only [Act.put, List.setIfInBounds_toArray, List.set_cons_zero, List.set_cons_succ]
        refine wpAnyH_take (i := 1) (oi := { dst := some 26, op := Op.move (Operand.tmp 3), type := 3, pos := "law.go:92", after := #[], guard := none }) (v := ?_) rfl (by kernel_rfl) (by kernel_rfl) (by kernel_rfl) (fun _ _ _ h => h) (Or.inl ⟨by rfl, ?_⟩) (by assumption) ?_
        rotate_left
        · (intro W hSw; (try dsimp only at hSw); obtain ⟨y0, y1, y2, y3⟩ := hSw.1; have z0 := hSw.2.at 0; have z1 := hSw.2.at 1; have z2 := hSw.2.at 2; have z3 := hSw.2.at 3; first | (go_simp; done) | (go_simp; with_reducible rfl))
        try simp only [Act.put, List.setIfInBounds_toArray, List.set_cons_zero, List.set_cons_succ]
        refine wpAnyH_take (i := 2) (oi := { dst := some 27, op := Op.indexAddr 34 (Operand.tmp 25) (Operand.tmp 26), type := 0, pos := "law.go:92", after := #[{ on := 0, ground := Ground.data }, { on := 1, ground := Ground.data }], guard := none }) (v := ?_) rfl (by kernel_rfl) (by kernel_rfl) (by kernel_rfl) (fun _ _ _ h => h) (Or.inl ⟨by rfl, ?_⟩) (by assumption) ?_
        rotate_left
        · (intro W hSw; (try dsimp only at hSw); obtain ⟨y0, y1, y2, y3⟩ := hSw.1; have z0 := hSw.2.at 0; have z1 := hSw.2.at 1; have z2 := hSw.2.at 2; have z3 := hSw.2.at 3; first | (go_simp; done) | (go_simp; with_reducible rfl))
        try simp only [Act.put, List.setIfInBounds_toArray, List.set_cons_zero, List.set_cons_succ]
        refine wpAnyH_take (i := 3) (oi := { dst := some 28, op := Op.load 23 (Operand.tmp 27), type := 23, pos := "law.go:92", after := #[{ on := 2, ground := Ground.data }], guard := none }) (v := ?_) rfl (by kernel_rfl) (by kernel_rfl) (by kernel_rfl) (fun _ _ _ h => h) (Or.inl ⟨by rfl, ?_⟩) (by assumption) ?_
        rotate_left
        · (intro W hSw; (try dsimp only at hSw); obtain ⟨y0, y1, y2, y3⟩ := hSw.1; have z0 := hSw.2.at 0; have z1 := hSw.2.at 1; have z2 := hSw.2.at 2; have z3 := hSw.2.at 3; first | (go_simp; done) | (go_simp; with_reducible rfl))
        try simp only [Act.put, List.setIfInBounds_toArray, List.set_cons_zero, List.set_cons_succ]
        refine wpAnyH_ready (rs := [4]) (by kernel_rfl) (by simp) ?_
        refine AllReadyH.cons (o := { dst := some 29, op := Op.call { callee := Callee.value (Operand.func 13), args := #[Operand.tmp 28], argTypes := #[23] }, type := 4, pos := "law.go:92", after := #[{ on := 3, ground := Ground.data }], guard := none }) rfl (fun K hK => ?_) AllReadyH.nil
        go_simp
        (refine (RR _).mono ?_; rintro e w4 ⟨rfl, b4⟩; have d4 : Below w3.heap.size w3 w4 := (by first | exact below_trans ((Below.refl _ w3).drew) b4 | exact b4); have B4 := below_trans B3 d4; have P4 := P3.later d4; have A4 := A3.later d4)
        refine hK.out _ _ ?_ (fun hHeld => ?_)
        · ((try dsimp only); first | exact ⟨P6, A6⟩ | exact ⟨P4, A4⟩)
        clear hK K
        try simp only [Act.put, List.setIfInBounds_toArray, List.set_cons_zero, List.set_cons_succ]
        refine wpAnyH_take (i := 5) (oi := { dst := some 30, op := Op.move (Operand.tmp 29), type := 4, pos := "law.go:92", after := #[{ on := 4, ground := Ground.data }, { on := 4, ground := Ground.chain }], guard := none }) (v := ?_) rfl (by kernel_rfl) (by kernel_rfl) (by kernel_rfl) (fun _ _ _ h => h) (Or.inl ⟨by rfl, ?_⟩) (by assumption) ?_
        rotate_left
        · (intro W hSw; (try dsimp only at hSw); obtain ⟨y0, y1, y2, y3⟩ := hSw.1; have z0 := hSw.2.at 0; have z1 := hSw.2.at 1; have z2 := hSw.2.at 2; have z3 := hSw.2.at 3; first | (go_simp; done) | (go_simp; with_reducible rfl))
        try simp only [Act.put, List.setIfInBounds_toArray, List.set_cons_zero, List.set_cons_succ]
        refine wpAnyH_take (i := 6) (oi := { dst := some 31, op := Op.move (Operand.tmp 5), type := 24, pos := "law.go:92", after := #[{ on := 5, ground := Ground.guard }], guard := some (5, true) }) (v := ?_) rfl (by kernel_rfl) (by kernel_rfl) (by kernel_rfl) (fun _ _ _ h => h) (Or.inl ⟨by rfl, ?_⟩) (by assumption) ?_
        rotate_left
        · (intro W hSw; (try dsimp only at hSw); obtain ⟨y0, y1, y2, y3⟩ := hSw.1; have z0 := hSw.2.at 0; have z1 := hSw.2.at 1; have z2 := hSw.2.at 2; have z3 := hSw.2.at 3; first | (go_simp; done) | (go_simp; with_reducible rfl))
        try simp only [Act.put, List.setIfInBounds_toArray, List.set_cons_zero, List.set_cons_succ]
        refine wpAnyH_ready (rs := [7]) (by kernel_rfl) (by simp) ?_
        refine AllReadyH.cons (o := { dst := some 32, op := Op.call { callee := Callee.value (Operand.func 11), args := #[Operand.tmp 31], argTypes := #[24] }, type := 3, pos := "law.go:92", after := #[{ on := 6, ground := Ground.data }, { on := 5, ground := Ground.chain }, { on := 5, ground := Ground.guard }], guard := some (5, true) }) rfl (fun K hK => ?_) AllReadyH.nil
        go_simp
        (refine (NU _ _).mono ?_; rintro e w5 ⟨rfl, rfl⟩)
        refine hK.out _ _ ?_ (fun hHeld => ?_)
        · ((try dsimp only); first | exact ⟨P6, A6⟩ | exact ⟨P4, A4⟩)
        clear hK K
        try simp only [Act.put, List.setIfInBounds_toArray, List.set_cons_zero, List.set_cons_succ]
        refine wpAnyH_take (i := 8) (oi := { dst := some 33, op := Op.binOp BinOp.neq 3 (Operand.tmp 32) (Operand.const (Value.int IntKind.i64 0)) 3, type := 4, pos := "law.go:92", after := #[{ on := 7, ground := Ground.data }, { on := 5, ground := Ground.guard }], guard := some (5, true) }) (v := ?_) rfl (by kernel_rfl) (by kernel_rfl) (by kernel_rfl) (fun _ _ _ h => h) (Or.inl ⟨by rfl, ?_⟩) (by assumption) ?_
        rotate_left
        · (intro W hSw; (try dsimp only at hSw); obtain ⟨y0, y1, y2, y3⟩ := hSw.1; have z0 := hSw.2.at 0; have z1 := hSw.2.at 1; have z2 := hSw.2.at 2; have z3 := hSw.2.at 3; first | (go_simp; done) | (go_simp; with_reducible rfl))
        try simp only [Act.put, List.setIfInBounds_toArray, List.set_cons_zero, List.set_cons_succ]
        refine wpAnyH_take (i := 9) (oi := { dst := some 34, op := Op.move (Operand.tmp 33), type := 4, pos := "law.go:92", after := #[{ on := 8, ground := Ground.data }, { on := 7, ground := Ground.chain }, { on := 5, ground := Ground.guard }], guard := some (5, true) }) (v := ?_) rfl (by kernel_rfl) (by kernel_rfl) (by kernel_rfl) (fun _ _ _ h => h) (Or.inl ⟨by rfl, ?_⟩) (by assumption) ?_
        rotate_left
        · (intro W hSw; (try dsimp only at hSw); obtain ⟨y0, y1, y2, y3⟩ := hSw.1; have z0 := hSw.2.at 0; have z1 := hSw.2.at 1; have z2 := hSw.2.at 2; have z3 := hSw.2.at 3; first | (go_simp; done) | (go_simp; with_reducible rfl))
        try simp only [Act.put, List.setIfInBounds_toArray, List.set_cons_zero, List.set_cons_succ]
        refine wpAnyH_take (i := 10) (oi := { dst := some 35, op := Op.load 23 (Operand.tmp 4), type := 23, pos := "law.go:92", after := #[{ on := 9, ground := Ground.guard }], guard := some (9, false) }) (v := ?_) rfl (by kernel_rfl) (by kernel_rfl) (by kernel_rfl) (fun _ _ _ h => h) (Or.inl ⟨by rfl, ?_⟩) (by assumption) ?_
        rotate_left
        · (intro W hSw; (try dsimp only at hSw); obtain ⟨y0, y1, y2, y3⟩ := hSw.1; have z0 := hSw.2.at 0; have z1 := hSw.2.at 1; have z2 := hSw.2.at 2; have z3 := hSw.2.at 3; first | (go_simp; done) | (go_simp; with_reducible rfl))
        try simp only [Act.put, List.setIfInBounds_toArray, List.set_cons_zero, List.set_cons_succ]
        refine wpAnyH_take (i := 11) (oi := { dst := some 36, op := Op.move (Operand.tmp 0), type := 34, pos := "law.go:92", after := #[{ on := 9, ground := Ground.guard }], guard := some (9, false) }) (v := ?_) rfl (by kernel_rfl) (by kernel_rfl) (by kernel_rfl) (fun _ _ _ h => h) (Or.inl ⟨by rfl, ?_⟩) (by assumption) ?_
        rotate_left
        · (intro W hSw; (try dsimp only at hSw); obtain ⟨y0, y1, y2, y3⟩ := hSw.1; have z0 := hSw.2.at 0; have z1 := hSw.2.at 1; have z2 := hSw.2.at 2; have z3 := hSw.2.at 3; first | (go_simp; done) | (go_simp; with_reducible rfl))
        try simp only [Act.put, List.setIfInBounds_toArray, List.set_cons_zero, List.set_cons_succ]
        refine wpAnyH_take (i := 12) (oi := { dst := some 37, op := Op.move (Operand.tmp 3), type := 3, pos := "law.go:92", after := #[{ on := 9, ground := Ground.guard }], guard := some (9, false) }) (v := ?_) rfl (by kernel_rfl) (by kernel_rfl) (by kernel_rfl) (fun _ _ _ h => h) (Or.inl ⟨by rfl, ?_⟩) (by assumption) ?_
        rotate_left
        · (intro W hSw; (try dsimp only at hSw); obtain ⟨y0, y1, y2, y3⟩ := hSw.1; have z0 := hSw.2.at 0; have z1 := hSw.2.at 1; have z2 := hSw.2.at 2; have z3 := hSw.2.at 3; first | (go_simp; done) | (go_simp; with_reducible rfl))
        try simp only [Act.put, List.setIfInBounds_toArray, List.set_cons_zero, List.set_cons_succ]
        refine wpAnyH_take (i := 13) (oi := { dst := some 38, op := Op.indexAddr 34 (Operand.tmp 36) (Operand.tmp 37), type := 0, pos := "law.go:92", after := #[{ on := 11, ground := Ground.data }, { on := 12, ground := Ground.data }, { on := 9, ground := Ground.guard }], guard := some (9, false) }) (v := ?_) rfl (by kernel_rfl) (by kernel_rfl) (by kernel_rfl) (fun _ _ _ h => h) (Or.inl ⟨by rfl, ?_⟩) (by assumption) ?_
        rotate_left
        · (intro W hSw; (try dsimp only at hSw); obtain ⟨y0, y1, y2, y3⟩ := hSw.1; have z0 := hSw.2.at 0; have z1 := hSw.2.at 1; have z2 := hSw.2.at 2; have z3 := hSw.2.at 3; first | (go_simp; done) | (go_simp; with_reducible rfl))
        try simp only [Act.put, List.setIfInBounds_toArray, List.set_cons_zero, List.set_cons_succ]
        refine wpAnyH_take (i := 14) (oi := { dst := some 39, op := Op.load 23 (Operand.tmp 38), type := 23, pos := "law.go:92", after := #[{ on := 13, ground := Ground.data }, { on := 9, ground := Ground.guard }], guard := some (9, false) }) (v := ?_) rfl (by kernel_rfl) (by kernel_rfl) (by kernel_rfl) (fun _ _ _ h => h) (Or.inl ⟨by rfl, ?_⟩) (by assumption) ?_
        rotate_left
        · (intro W hSw; (try dsimp only at hSw); obtain ⟨y0, y1, y2, y3⟩ := hSw.1; have z0 := hSw.2.at 0; have z1 := hSw.2.at 1; have z2 := hSw.2.at 2; have z3 := hSw.2.at 3; first | (go_simp; done) | (go_simp; with_reducible rfl))
        try simp only [Act.put, List.setIfInBounds_toArray, List.set_cons_zero, List.set_cons_succ]
        refine wpAnyH_ready (rs := [15]) (by kernel_rfl) (by simp) ?_
        refine AllReadyH.cons (o := { dst := some 40, op := Op.call { callee := Callee.value (Operand.func 10), args := #[Operand.tmp 35, Operand.tmp 39], argTypes := #[23, 23] }, type := 4, pos := "law.go:92", after := #[{ on := 10, ground := Ground.data }, { on := 14, ground := Ground.data }, { on := 9, ground := Ground.chain }, { on := 9, ground := Ground.guard }], guard := some (9, false) }) rfl (fun K hK => ?_) AllReadyH.nil
        go_simp
        (refine (SM _).mono ?_; rintro e w6 ⟨rfl, g6⟩; have d6 : Below w4.heap.size w4 w6 := (by first | exact below_trans ((Below.refl _ w4).drew) g6.below | exact g6.below); have B6 := below_trans B4 d6; have P6 := P4.later d6; have A6 := A4.later d6)
        refine hK.out _ _ ?_ (fun hHeld => ?_)
        · ((try dsimp only); first | exact ⟨P6, A6⟩ | exact ⟨P4, A4⟩)
        clear hK K
        try simp only [Act.put, List.setIfInBounds_toArray, List.set_cons_zero, List.set_cons_succ]
        refine wpAnyH_take (i := 16) (oi := { dst := some 41, op := Op.unOp UnOp.not 4 (Operand.tmp 40), type := 4, pos := "law.go:92", after := #[{ on := 15, ground := Ground.data }, { on := 9, ground := Ground.guard }], guard := some (9, false) }) (v := ?_) rfl (by kernel_rfl) (by kernel_rfl) (by kernel_rfl) (fun _ _ _ h => h) (Or.inl ⟨by rfl, ?_⟩) (by assumption) ?_
        rotate_left
        · (intro W hSw; (try dsimp only at hSw); obtain ⟨y0, y1, y2, y3⟩ := hSw.1; have z0 := hSw.2.at 0; have z1 := hSw.2.at 1; have z2 := hSw.2.at 2; have z3 := hSw.2.at 3; first | (go_simp; done) | (go_simp; with_reducible rfl))
        try simp only [Act.put, List.setIfInBounds_toArray, List.set_cons_zero, List.set_cons_succ]
        refine wpAnyH_take (i := 17) (oi := { dst := some 42, op := Op.pick (Operand.tmp 34) (Operand.const (Value.bool true)) (Operand.tmp 41), type := 4, pos := "law.go:92", after := #[{ on := 9, ground := Ground.data }, { on := 16, ground := Ground.data }, { on := 5, ground := Ground.guard }], guard := some (5, true) }) (v := ?_) rfl (by kernel_rfl) (by kernel_rfl) (by kernel_rfl) (fun _ _ _ h => h) (Or.inl ⟨by rfl, ?_⟩) (by assumption) ?_
        rotate_left
        · (intro W hSw; (try dsimp only at hSw); obtain ⟨y0, y1, y2, y3⟩ := hSw.1; have z0 := hSw.2.at 0; have z1 := hSw.2.at 1; have z2 := hSw.2.at 2; have z3 := hSw.2.at 3; first | (go_simp; done) | (go_simp; with_reducible rfl))
        try simp only [Act.put, List.setIfInBounds_toArray, List.set_cons_zero, List.set_cons_succ]
        refine wpAnyH_take (i := 18) (oi := { dst := some 43, op := Op.pick (Operand.tmp 30) (Operand.tmp 42) (Operand.const (Value.bool false)), type := 4, pos := "law.go:92", after := #[{ on := 5, ground := Ground.data }, { on := 17, ground := Ground.data }], guard := none }) (v := ?_) rfl (by kernel_rfl) (by kernel_rfl) (by kernel_rfl) (fun _ _ _ h => h) (Or.inl ⟨by rfl, ?_⟩) (by assumption) ?_
        rotate_left
        · (intro W hSw; (try dsimp only at hSw); obtain ⟨y0, y1, y2, y3⟩ := hSw.1; have z0 := hSw.2.at 0; have z1 := hSw.2.at 1; have z2 := hSw.2.at 2; have z3 := hSw.2.at 3; first | (go_simp; done) | (go_simp; with_reducible rfl))
        try simp only [Act.put, List.setIfInBounds_toArray, List.set_cons_zero, List.set_cons_succ]
        refine wpAnyH_done (by kernel_rfl) ?_ _
        go_wp2_with fail
        exact ⟨⟨i + 1, by rw [cast1], by omega, B6⟩, by simp [intOf]; omega⟩
      | false =>
        have PR : ∀ W, Below w.heap.size w W → Calls Tryz.prog 8 #[va v.k v.n v.m ⟨v.b.toArray⟩] W fun e w' => e = .returned (.string ⟨(tx v).toArray⟩) ∧ Below W.heap.size W w' := fun W h => Dt.print_any v W (HT.out.later h) (HP.out.later h) (HIN.out v hvm).1
        have PA : ∀ W, Below w.heap.size w W → Calls Tryz.prog 6 #[.string ⟨(tx v).toArray⟩] W fun e w' => e = .returned (.tuple #[va 0 0 0 ⟨#[]⟩, .int .i64 21]) ∧ Below W.heap.size W w' := fun W h => by
          have := Dt.parse_any (tx v) W (tx_len v (HIN.out v hvm).1) (HT.out.later h) (HP.out.later h) (HE.out.later h)
          rw [back_none v hvr] at this
          exact this
        have RR : ∀ W, Calls Tryz.prog 13 #[va v.k v.n v.m ⟨v.b.toArray⟩] W fun e w' => e = .returned (.bool false) ∧ Below W.heap.size W w' := fun W => by
          have : Calls Tryz.prog 13 #[va v.k v.n v.m ⟨v.b.toArray⟩] W fun e w' => e = .returned (.bool (vr v)) ∧ Below W.heap.size W w' := rright_any v.k v.n v.m ⟨v.b.toArray⟩ W
          rwa [hvr] at this
        skip
        have NU := lnum_any
        generalize ByteArray.mk (tx v).toArray = TB at *
        clear hvr hvm
        go_wp2_with fail
        refine (PR _ B0).mono ?_
        rintro e w1 ⟨rfl, b1⟩
        have B1 := below_trans B0 b1
        have P1 := P0.later b1
        go_wp2_with fail
        refine (PA _ B1).mono ?_
        rintro e w2 ⟨rfl, b2⟩
        have B2 := below_trans B1 b2
        have P2 := P1.later b2
        have u2 : Below w2.heap.size w2 (w2.alloc (.cells #[.int .i64 0, .int .i64 0, .int .i64 0, .string ⟨#[]⟩] 23)) := (Below.refl _ _).alloc (Nat.le_refl _) _
        have A3 := Cbox.new w2 #[.int .i64 0, .int .i64 0, .int .i64 0, .string ⟨#[]⟩] 23
        have B3 := below_trans B2 u2
        have P3 := P2.later u2
        go_upto_region 5 with fail
        generalize w2.alloc (.cells #[.int .i64 0, .int .i64 0, .int .i64 0, .string ⟨#[]⟩] 23) = w3 at *
        clear P0 P1 P2 p0 p1 p2 p3 u2 b1 b2
        refine wp_region_held_drew (S := (fun W => At4 W b (off + i * 4) v ∧ Cbox W w2.heap.size #[.int .i64 0, .int .i64 0, .int .i64 0, .string ⟨#[]⟩] 23)) (by kernel_rfl) ?_ (fun hHeld => ?_)
        · ((try dsimp only); exact ⟨P3, A3⟩)
        refine wpAnyH_take (i := 0) (oi := { dst := some 25, op := Op.move (Operand.tmp 0), type := 34, pos := "law.go:92", after := #[], guard := none }) (v := ?_) rfl (by kernel_rfl) (by kernel_rfl) (by kernel_rfl) (fun _ _ _ h => h) (Or.inl ⟨by rfl, ?_⟩) (by assumption) ?_
        rotate_left
        · (intro W hSw; (try dsimp only at hSw); obtain ⟨y0, y1, y2, y3⟩ := hSw.1; have z0 := hSw.2.at 0; have z1 := hSw.2.at 1; have z2 := hSw.2.at 2; have z3 := hSw.2.at 3; first | (go_simp; done) | (go_simp; with_reducible rfl))
        try simp only [Act.put, List.setIfInBounds_toArray, List.set_cons_zero, List.set_cons_succ]
        refine wpAnyH_take (i := 1) (oi := { dst := some 26, op := Op.move (Operand.tmp 3), type := 3, pos := "law.go:92", after := #[], guard := none }) (v := ?_) rfl (by kernel_rfl) (by kernel_rfl) (by kernel_rfl) (fun _ _ _ h => h) (Or.inl ⟨by rfl, ?_⟩) (by assumption) ?_
        rotate_left
        · (intro W hSw; (try dsimp only at hSw); obtain ⟨y0, y1, y2, y3⟩ := hSw.1; have z0 := hSw.2.at 0; have z1 := hSw.2.at 1; have z2 := hSw.2.at 2; have z3 := hSw.2.at 3; first | (go_simp; done) | (go_simp; with_reducible rfl))
        try simp only [Act.put, List.setIfInBounds_toArray, List.set_cons_zero, List.set_cons_succ]
        refine wpAnyH_take (i := 2) (oi := { dst := some 27, op := Op.indexAddr 34 (Operand.tmp 25) (Operand.tmp 26), type := 0, pos := "law.go:92", after := #[{ on := 0, ground := Ground.data }, { on := 1, ground := Ground.data }], guard := none }) (v := ?_) rfl (by kernel_rfl) (by kernel_rfl) (by kernel_rfl) (fun _ _ _ h => h) (Or.inl ⟨by rfl, ?_⟩) (by assumption) ?_
        rotate_left
        · (intro W hSw; (try dsimp only at hSw); obtain ⟨y0, y1, y2, y3⟩ := hSw.1; have z0 := hSw.2.at 0; have z1 := hSw.2.at 1; have z2 := hSw.2.at 2; have z3 := hSw.2.at 3; first | (go_simp; done) | (go_simp; with_reducible rfl))
        try simp only [Act.put, List.setIfInBounds_toArray, List.set_cons_zero, List.set_cons_succ]
        refine wpAnyH_take (i := 3) (oi := { dst := some 28, op := Op.load 23 (Operand.tmp 27), type := 23, pos := "law.go:92", after := #[{ on := 2, ground := Ground.data }], guard := none }) (v := ?_) rfl (by kernel_rfl) (by kernel_rfl) (by kernel_rfl) (fun _ _ _ h => h) (Or.inl ⟨by rfl, ?_⟩) (by assumption) ?_
        rotate_left
        · (intro W hSw; (try dsimp only at hSw); obtain ⟨y0, y1, y2, y3⟩ := hSw.1; have z0 := hSw.2.at 0; have z1 := hSw.2.at 1; have z2 := hSw.2.at 2; have z3 := hSw.2.at 3; first | (go_simp; done) | (go_simp; with_reducible rfl))
        try simp only [Act.put, List.setIfInBounds_toArray, List.set_cons_zero, List.set_cons_succ]
        refine wpAnyH_ready (rs := [4]) (by kernel_rfl) (by simp) ?_
        refine AllReadyH.cons (o := { dst := some 29, op := Op.call { callee := Callee.value (Operand.func 13), args := #[Operand.tmp 28], argTypes := #[23] }, type := 4, pos := "law.go:92", after := #[{ on := 3, ground := Ground.data }], guard := none }) rfl (fun K hK => ?_) AllReadyH.nil
        go_simp
        (refine (RR _).mono ?_; rintro e w4 ⟨rfl, b4⟩; have d4 : Below w3.heap.size w3 w4 := (by first | exact below_trans ((Below.refl _ w3).drew) b4 | exact b4); have B4 := below_trans B3 d4; have P4 := P3.later d4; have A4 := A3.later d4)
        refine hK.out _ _ ?_ (fun hHeld => ?_)
        · ((try dsimp only); exact ⟨P4, A4⟩)
        clear hK K
        try simp only [Act.put, List.setIfInBounds_toArray, List.set_cons_zero, List.set_cons_succ]
        refine wpAnyH_take (i := 5) (oi := { dst := some 30, op := Op.move (Operand.tmp 29), type := 4, pos := "law.go:92", after := #[{ on := 4, ground := Ground.data }, { on := 4, ground := Ground.chain }], guard := none }) (v := ?_) rfl (by kernel_rfl) (by kernel_rfl) (by kernel_rfl) (fun _ _ _ h => h) (Or.inl ⟨by rfl, ?_⟩) (by assumption) ?_
        rotate_left
        · (intro W hSw; (try dsimp only at hSw); obtain ⟨y0, y1, y2, y3⟩ := hSw.1; have z0 := hSw.2.at 0; have z1 := hSw.2.at 1; have z2 := hSw.2.at 2; have z3 := hSw.2.at 3; first | (go_simp; done) | (go_simp; with_reducible rfl))
        try simp only [Act.put, List.setIfInBounds_toArray, List.set_cons_zero, List.set_cons_succ]
        refine wpAnyH_take (i := 6) (oi := { dst := some 31, op := Op.move (Operand.tmp 5), type := 24, pos := "law.go:92", after := #[{ on := 5, ground := Ground.guard }], guard := some (5, true) }) (v := undef) rfl (by kernel_rfl) (by kernel_rfl) (by kernel_rfl) (fun _ _ _ h => h) (Or.inr ⟨by rfl, rfl⟩) (by assumption) ?_
        try simp only [Act.put, List.setIfInBounds_toArray, List.set_cons_zero, List.set_cons_succ]
        refine wpAnyH_take (i := 7) (oi := { dst := some 32, op := Op.call { callee := Callee.value (Operand.func 11), args := #[Operand.tmp 31], argTypes := #[24] }, type := 3, pos := "law.go:92", after := #[{ on := 6, ground := Ground.data }, { on := 5, ground := Ground.chain }, { on := 5, ground := Ground.guard }], guard := some (5, true) }) (v := undef) rfl (by kernel_rfl) (by kernel_rfl) (by kernel_rfl) (fun _ _ _ h => h) (Or.inr ⟨by rfl, rfl⟩) (by assumption) ?_
        try simp only [Act.put, List.setIfInBounds_toArray, List.set_cons_zero, List.set_cons_succ]
        refine wpAnyH_take (i := 8) (oi := { dst := some 33, op := Op.binOp BinOp.neq 3 (Operand.tmp 32) (Operand.const (Value.int IntKind.i64 0)) 3, type := 4, pos := "law.go:92", after := #[{ on := 7, ground := Ground.data }, { on := 5, ground := Ground.guard }], guard := some (5, true) }) (v := undef) rfl (by kernel_rfl) (by kernel_rfl) (by kernel_rfl) (fun _ _ _ h => h) (Or.inr ⟨by rfl, rfl⟩) (by assumption) ?_
        try simp only [Act.put, List.setIfInBounds_toArray, List.set_cons_zero, List.set_cons_succ]
        refine wpAnyH_take (i := 9) (oi := { dst := some 34, op := Op.move (Operand.tmp 33), type := 4, pos := "law.go:92", after := #[{ on := 8, ground := Ground.data }, { on := 7, ground := Ground.chain }, { on := 5, ground := Ground.guard }], guard := some (5, true) }) (v := undef) rfl (by kernel_rfl) (by kernel_rfl) (by kernel_rfl) (fun _ _ _ h => h) (Or.inr ⟨by rfl, rfl⟩) (by assumption) ?_
        try simp only [Act.put, List.setIfInBounds_toArray, List.set_cons_zero, List.set_cons_succ]
        refine wpAnyH_take (i := 10) (oi := { dst := some 35, op := Op.load 23 (Operand.tmp 4), type := 23, pos := "law.go:92", after := #[{ on := 9, ground := Ground.guard }], guard := some (9, false) }) (v := undef) rfl (by kernel_rfl) (by kernel_rfl) (by kernel_rfl) (fun _ _ _ h => h) (Or.inr ⟨by rfl, rfl⟩) (by assumption) ?_
        try simp only [Act.put, List.setIfInBounds_toArray, List.set_cons_zero, List.set_cons_succ]
        refine wpAnyH_take (i := 11) (oi := { dst := some 36, op := Op.move (Operand.tmp 0), type := 34, pos := "law.go:92", after := #[{ on := 9, ground := Ground.guard }], guard := some (9, false) }) (v := undef) rfl (by kernel_rfl) (by kernel_rfl) (by kernel_rfl) (fun _ _ _ h => h) (Or.inr ⟨by rfl, rfl⟩) (by assumption) ?_
        try simp only [Act.put, List.setIfInBounds_toArray, List.set_cons_zero, List.set_cons_succ]
        refine wpAnyH_take (i := 12) (oi := { dst := some 37, op := Op.move (Operand.tmp 3), type := 3, pos := "law.go:92", after := #[{ on := 9, ground := Ground.guard }], guard := some (9, false) }) (v := undef) rfl (by kernel_rfl) (by kernel_rfl) (by kernel_rfl) (fun _ _ _ h => h) (Or.inr ⟨by rfl, rfl⟩) (by assumption) ?_
        try simp only [Act.put, List.setIfInBounds_toArray, List.set_cons_zero, List.set_cons_succ]
        refine wpAnyH_take (i := 13) (oi := { dst := some 38, op := Op.indexAddr 34 (Operand.tmp 36) (Operand.tmp 37), type := 0, pos := "law.go:92", after := #[{ on := 11, ground := Ground.data }, { on := 12, ground := Ground.data }, { on := 9, ground := Ground.guard }], guard := some (9, false) }) (v := undef) rfl (by kernel_rfl) (by kernel_rfl) (by kernel_rfl) (fun _ _ _ h => h) (Or.inr ⟨by rfl, rfl⟩) (by assumption) ?_
        try simp only [Act.put, List.setIfInBounds_toArray, List.set_cons_zero, List.set_cons_succ]
        refine wpAnyH_take (i := 14) (oi := { dst := some 39, op := Op.load 23 (Operand.tmp 38), type := 23, pos := "law.go:92", after := #[{ on := 13, ground := Ground.data }, { on := 9, ground := Ground.guard }], guard := some (9, false) }) (v := undef) rfl (by kernel_rfl) (by kernel_rfl) (by kernel_rfl) (fun _ _ _ h => h) (Or.inr ⟨by rfl, rfl⟩) (by assumption) ?_
        try simp only [Act.put, List.setIfInBounds_toArray, List.set_cons_zero, List.set_cons_succ]
        refine wpAnyH_take (i := 15) (oi := { dst := some 40, op := Op.call { callee := Callee.value (Operand.func 10), args := #[Operand.tmp 35, Operand.tmp 39], argTypes := #[23, 23] }, type := 4, pos := "law.go:92", after := #[{ on := 10, ground := Ground.data }, { on := 14, ground := Ground.data }, { on := 9, ground := Ground.chain }, { on := 9, ground := Ground.guard }], guard := some (9, false) }) (v := undef) rfl (by kernel_rfl) (by kernel_rfl) (by kernel_rfl) (fun _ _ _ h => h) (Or.inr ⟨by rfl, rfl⟩) (by assumption) ?_
        try simp only [Act.put, List.setIfInBounds_toArray, List.set_cons_zero, List.set_cons_succ]
        refine wpAnyH_take (i := 16) (oi := { dst := some 41, op := Op.unOp UnOp.not 4 (Operand.tmp 40), type := 4, pos := "law.go:92", after := #[{ on := 15, ground := Ground.data }, { on := 9, ground := Ground.guard }], guard := some (9, false) }) (v := undef) rfl (by kernel_rfl) (by kernel_rfl) (by kernel_rfl) (fun _ _ _ h => h) (Or.inr ⟨by rfl, rfl⟩) (by assumption) ?_
        try simp only [Act.put, List.setIfInBounds_toArray, List.set_cons_zero, List.set_cons_succ]
        refine wpAnyH_take (i := 17) (oi := { dst := some 42, op := Op.pick (Operand.tmp 34) (Operand.const (Value.bool true)) (Operand.tmp 41), type := 4, pos := "law.go:92", after := #[{ on := 9, ground := Ground.data }, { on := 16, ground := Ground.data }, { on := 5, ground := Ground.guard }], guard := some (5, true) }) (v := undef) rfl (by kernel_rfl) (by kernel_rfl) (by kernel_rfl) (fun _ _ _ h => h) (Or.inr ⟨by rfl, rfl⟩) (by assumption) ?_
        try simp only [Act.put, List.setIfInBounds_toArray, List.set_cons_zero, List.set_cons_succ]
        refine wpAnyH_take (i := 18) (oi := { dst := some 43, op := Op.pick (Operand.tmp 30) (Operand.tmp 42) (Operand.const (Value.bool false)), type := 4, pos := "law.go:92", after := #[{ on := 5, ground := Ground.data }, { on := 17, ground := Ground.data }], guard := none }) (v := ?_) rfl (by kernel_rfl) (by kernel_rfl) (by kernel_rfl) (fun _ _ _ h => h) (Or.inl ⟨by rfl, ?_⟩) (by assumption) ?_
        rotate_left
        · (intro W hSw; (try dsimp only at hSw); obtain ⟨y0, y1, y2, y3⟩ := hSw.1; have z0 := hSw.2.at 0; have z1 := hSw.2.at 1; have z2 := hSw.2.at 2; have z3 := hSw.2.at 3; first | (go_simp; done) | (go_simp; with_reducible rfl))
        try simp only [Act.put, List.setIfInBounds_toArray, List.set_cons_zero, List.set_cons_succ]
        refine wpAnyH_done (by kernel_rfl) ?_ _
        go_wp2_with fail
        exact ⟨⟨i + 1, by rw [cast1], by omega, B4⟩, by simp [intOf]; omega⟩
    · have hlt' : ¬ (i : Int) < (l.length : Int) := by omega
      go_wp2_with fail
      refine (OWN _ B0).mono ?_
      rintro e w1 ⟨ao', cap', rfl, V1, b1⟩
      have B1 := below_trans B0 b1
      go_wp2_with fail
      refine (PUT _ _ _ B1 V1).mono ?_
      rintro e w2 ⟨rfl, b2⟩
      have B2 := below_trans B1 b2
      go_wp2_with fail
      refine (NU _ _).mono ?_
      rintro e w3 ⟨rfl, rfl⟩
      go_wp2_with fail
      refine (ROW _ B2).mono ?_
      rintro e w4 ⟨rfl, b4⟩
      have B4 := below_trans B2 b4
      go_wp2_with fail
      refine (KN _ B4).mono ?_
      rintro e w5 ⟨rfl, b5⟩
      have B5 := below_trans B4 b5
      go_wp2
      go_ret
      exact ⟨rfl, B5⟩

set_option maxRecDepth 20000 in
set_option maxHeartbeats 4000000 in
theorem back_good (ao : Option Addr) (cap : Nat) (l : List Va) (w : World) (hv : Vs w ao l) (h0 : ao = none → l = []) (hl : l.length * 40 ≤ 140737488351232) (hin : ∀ v ∈ l, vin v) (hT : Tabs w) (hP : Pt.Ptab w) (hE : Pt.Ers w) (hC : ckE l = 0) :
    Calls Tryz.prog 4 #[.slice ao l.length cap] w fun e w' => e = .returned (.bool true) ∧ Below w.heap.size w w' := by
  have NU := lnum_any
  have KN : ∀ W, Below w.heap.size w W → _ := fun W h => knows_any W (hT.later h)
  have OWN : ∀ W, Below w.heap.size w W → _ := fun W h => vown_any ao cap l W (hv.later h) h0 hl
  have PUT : ∀ ao' cap' W, Below w.heap.size w W → Vs W ao' l → Calls Tryz.prog 14 #[.slice ao' l.length cap'] W fun e w' => ∃ v', e = .returned (.tuple #[v', .int .i64 0]) ∧ Own w' W.heap.size v' (numBytes (l.length : Int) ++ many vbytes l) ∧ Below W.heap.size W w' := fun ao' cap' W h hV => put_good ao' cap' l W (hT.later h) hV hC hin
  have hbl : (numBytes (l.length : Int) ++ many vbytes l).length ≤ 70368744177664 := rbytes_len l hC
  have GET : ∀ bo bc W, Below w.heap.size w W → Rd W bo (numBytes (l.length : Int) ++ many vbytes l).length bc (numBytes (l.length : Int) ++ many vbytes l) → _ := fun bo bc W h hR => get_any bo bc l W (hT.later h) hC hin hR hbl
  have SAM : ∀ g cap' W, Below w.heap.size w W → Vs W (some ⟨g, 0, none⟩) l → Calls Tryz.prog 18 #[.slice (some ⟨g, 0, none⟩) l.length cap', .slice ao l.length cap] W fun e w' => e = .returned (.bool true) ∧ Below W.heap.size W w' := fun g cap' W h hV => by
    have := vsame_any (some ⟨g, 0, none⟩) ao cap' cap l l W hV (hv.later h) (by omega) (by omega)
    rwa [decide_eq_true rfl] at this
  generalize numBytes (l.length : Int) ++ many vbytes l = bs at *
  have HIN : Hid (∀ v ∈ l, vin v) := hin
  have HV : Hid (Vs w ao l) := hv
  have HT : Hid (Tabs w) := hT
  have HP : Hid (Pt.Ptab w) := hP
  have HE : Hid (Pt.Ers w) := hE
  have hll : l.length ≤ 3518437208880 := by omega
  clear hv h0 hl hin hT hP hE hC
  go_enter Tryz.func4, Tryz.ntmps4
  go_wp2_with fail
  go_loopw [3] (fun r3 wr => ∃ i : Nat, r3 = .int .i64 (i : Int) ∧ i ≤ l.length ∧ Below w.heap.size w wr) (fun r3 _ => l.length - (intOf r3).toNat)
  case atStart => exact ⟨0, rfl, Nat.zero_le _, Below.refl _ _⟩
  case round =>
    obtain ⟨i, rfl, hi, B0⟩ := hrel
    by_cases hlt : i < l.length
    · have hlt' : (i : Int) < (l.length : Int) := by omega
      have j0 : (0 : Int) ≤ (i : Int) := by omega
      have e5 : IntKind.i64.wrap ((i : Int) + 1) = (i : Int) + 1 := by rw [IntKind.wrap_i64]; omega
      clear PUT OWN KN
      obtain ⟨b, off, hao, hat⟩ := HV.out (by omega)
      have P0 : At4 wr b (off + i * 4) l[i] := (hat i hlt).later B0
      obtain ⟨v, hvl⟩ : ∃ v, v = l[i] := ⟨_, rfl⟩
      have hvm : v ∈ l := by rw [hvl]; exact List.getElem_mem hlt
      rw [← hvl] at P0
      obtain ⟨p0, p1, p2, p3⟩ := P0
      have P0 : At4 wr b (off + i * 4) v := ⟨p0, p1, p2, p3⟩
      clear hat hvl
      subst hao
      cases hvr : vr v with
      | true =>
        have PR : ∀ W, Below w.heap.size w W → Calls Tryz.prog 8 #[va v.k v.n v.m ⟨v.b.toArray⟩] W fun e w' => e = .returned (.string ⟨(tx v).toArray⟩) ∧ Below W.heap.size W w' := fun W h => Dt.print_any v W (HT.out.later h) (HP.out.later h) (HIN.out v hvm).1
        have PA : ∀ W, Below w.heap.size w W → Calls Tryz.prog 6 #[.string ⟨(tx v).toArray⟩] W fun e w' => e = .returned (.tuple #[va v.k v.n v.m ⟨v.b.toArray⟩, .int .i64 0]) ∧ Below W.heap.size W w' := fun W h => by
          have := Dt.parse_any (tx v) W (tx_len v (HIN.out v hvm).1) (HT.out.later h) (HP.out.later h) (HE.out.later h)
          rw [back_some v hvr (HIN.out v hvm).1] at this
          exact this
        have RR : ∀ W, Calls Tryz.prog 13 #[va v.k v.n v.m ⟨v.b.toArray⟩] W fun e w' => e = .returned (.bool true) ∧ Below W.heap.size W w' := fun W => by
          have : Calls Tryz.prog 13 #[va v.k v.n v.m ⟨v.b.toArray⟩] W fun e w' => e = .returned (.bool (vr v)) ∧ Below W.heap.size W w' := rright_any v.k v.n v.m ⟨v.b.toArray⟩ W
          rwa [hvr] at this
        have SM : ∀ W, Calls Tryz.prog 10 #[va v.k v.n v.m ⟨v.b.toArray⟩, va v.k v.n v.m ⟨v.b.toArray⟩] W fun e w2 => e = .returned (.bool true) ∧ Grew W w2 := fun W => by
          have := rsame_any v.k v.n v.m ⟨v.b.toArray⟩ v.k v.n v.m ⟨v.b.toArray⟩ W
          simpa using this
        have NU := lnum_any
        generalize ByteArray.mk (tx v).toArray = TB at *
        clear hvr hvm
        go_wp2_with fail
        refine (PR _ B0).mono ?_
        rintro e w1 ⟨rfl, b1⟩
        have B1 := below_trans B0 b1
        have P1 := P0.later b1
        go_wp2_with fail
        refine (PA _ B1).mono ?_
        rintro e w2 ⟨rfl, b2⟩
        have B2 := below_trans B1 b2
        have P2 := P1.later b2
        have u2 : Below w2.heap.size w2 (w2.alloc (.cells #[.int .i64 v.k, .int .i64 v.n, .int .i64 v.m, .string ⟨v.b.toArray⟩] 23)) := (Below.refl _ _).alloc (Nat.le_refl _) _
        have A3 := Cbox.new w2 #[.int .i64 v.k, .int .i64 v.n, .int .i64 v.m, .string ⟨v.b.toArray⟩] 23
        have B3 := below_trans B2 u2
        have P3 := P2.later u2
        go_upto_region 5 with fail
        generalize w2.alloc (.cells #[.int .i64 v.k, .int .i64 v.n, .int .i64 v.m, .string ⟨v.b.toArray⟩] 23) = w3 at *
        clear P0 P1 P2 p0 p1 p2 p3 u2 b1 b2
        refine wp_region_held_drew (S := (fun W => At4 W b (off + i * 4) v ∧ Cbox W w2.heap.size #[.int .i64 v.k, .int .i64 v.n, .int .i64 v.m, .string ⟨v.b.toArray⟩] 23)) (by kernel_rfl) ?_ (fun hHeld => ?_)
        · ((try dsimp only); exact ⟨P3, A3⟩)
        refine wpAnyH_take (i := 0) (oi := { dst := some 25, op := Op.move (Operand.tmp 0), type := 34, pos := "law.go:92", after := #[], guard := none }) (v := ?_) rfl (by kernel_rfl) (by kernel_rfl) (by kernel_rfl) (fun _ _ _ h => h) (Or.inl ⟨by rfl, ?_⟩) (by assumption) ?_
        rotate_left
        · (intro W hSw; (try dsimp only at hSw); obtain ⟨y0, y1, y2, y3⟩ := hSw.1; have z0 := hSw.2.at 0; have z1 := hSw.2.at 1; have z2 := hSw.2.at 2; have z3 := hSw.2.at 3; first | (go_simp; done) | (go_simp; with_reducible rfl))
        try simp only [Act.put, List.setIfInBounds_toArray, List.set_cons_zero, List.set_cons_succ]
        refine wpAnyH_take (i := 1) (oi := { dst := some 26, op := Op.move (Operand.tmp 3), type := 3, pos := "law.go:92", after := #[], guard := none }) (v := ?_) rfl (by kernel_rfl) (by kernel_rfl) (by kernel_rfl) (fun _ _ _ h => h) (Or.inl ⟨by rfl, ?_⟩) (by assumption) ?_
        rotate_left
        · (intro W hSw; (try dsimp only at hSw); obtain ⟨y0, y1, y2, y3⟩ := hSw.1; have z0 := hSw.2.at 0; have z1 := hSw.2.at 1; have z2 := hSw.2.at 2; have z3 := hSw.2.at 3; first | (go_simp; done) | (go_simp; with_reducible rfl))
        try simp only [Act.put, List.setIfInBounds_toArray, List.set_cons_zero, List.set_cons_succ]
        refine wpAnyH_take (i := 2) (oi := { dst := some 27, op := Op.indexAddr 34 (Operand.tmp 25) (Operand.tmp 26), type := 0, pos := "law.go:92", after := #[{ on := 0, ground := Ground.data }, { on := 1, ground := Ground.data }], guard := none }) (v := ?_) rfl (by kernel_rfl) (by kernel_rfl) (by kernel_rfl) (fun _ _ _ h => h) (Or.inl ⟨by rfl, ?_⟩) (by assumption) ?_
        rotate_left
        · (intro W hSw; (try dsimp only at hSw); obtain ⟨y0, y1, y2, y3⟩ := hSw.1; have z0 := hSw.2.at 0; have z1 := hSw.2.at 1; have z2 := hSw.2.at 2; have z3 := hSw.2.at 3; first | (go_simp; done) | (go_simp; with_reducible rfl))
        try simp only [Act.put, List.setIfInBounds_toArray, List.set_cons_zero, List.set_cons_succ]
        refine wpAnyH_take (i := 3) (oi := { dst := some 28, op := Op.load 23 (Operand.tmp 27), type := 23, pos := "law.go:92", after := #[{ on := 2, ground := Ground.data }], guard := none }) (v := ?_) rfl (by kernel_rfl) (by kernel_rfl) (by kernel_rfl) (fun _ _ _ h => h) (Or.inl ⟨by rfl, ?_⟩) (by assumption) ?_
        rotate_left
        · (intro W hSw; (try dsimp only at hSw); obtain ⟨y0, y1, y2, y3⟩ := hSw.1; have z0 := hSw.2.at 0; have z1 := hSw.2.at 1; have z2 := hSw.2.at 2; have z3 := hSw.2.at 3; first | (go_simp; done) | (go_simp; with_reducible rfl))
        try simp only [Act.put, List.setIfInBounds_toArray, List.set_cons_zero, List.set_cons_succ]
        refine wpAnyH_ready (rs := [4]) (by kernel_rfl) (by simp) ?_
        refine AllReadyH.cons (o := { dst := some 29, op := Op.call { callee := Callee.value (Operand.func 13), args := #[Operand.tmp 28], argTypes := #[23] }, type := 4, pos := "law.go:92", after := #[{ on := 3, ground := Ground.data }], guard := none }) rfl (fun K hK => ?_) AllReadyH.nil
        go_simp
        (refine (RR _).mono ?_; rintro e w4 ⟨rfl, b4⟩; have d4 : Below w3.heap.size w3 w4 := (by first | exact below_trans ((Below.refl _ w3).drew) b4 | exact b4); have B4 := below_trans B3 d4; have P4 := P3.later d4; have A4 := A3.later d4)
        refine hK.out _ _ ?_ (fun hHeld => ?_)
        · ((try dsimp only); first | exact ⟨P6, A6⟩ | exact ⟨P4, A4⟩)
        clear hK K
        try simp only [Act.put, List.setIfInBounds_toArray, List.set_cons_zero, List.set_cons_succ]
        refine wpAnyH_take (i := 5) (oi := { dst := some 30, op := Op.move (Operand.tmp 29), type := 4, pos := "law.go:92", after := #[{ on := 4, ground := Ground.data }, { on := 4, ground := Ground.chain }], guard := none }) (v := ?_) rfl (by kernel_rfl) (by kernel_rfl) (by kernel_rfl) (fun _ _ _ h => h) (Or.inl ⟨by rfl, ?_⟩) (by assumption) ?_
        rotate_left
        · (intro W hSw; (try dsimp only at hSw); obtain ⟨y0, y1, y2, y3⟩ := hSw.1; have z0 := hSw.2.at 0; have z1 := hSw.2.at 1; have z2 := hSw.2.at 2; have z3 := hSw.2.at 3; first | (go_simp; done) | (go_simp; with_reducible rfl))
        try simp only [Act.put, List.setIfInBounds_toArray, List.set_cons_zero, List.set_cons_succ]
        refine wpAnyH_take (i := 6) (oi := { dst := some 31, op := Op.move (Operand.tmp 5), type := 24, pos := "law.go:92", after := #[{ on := 5, ground := Ground.guard }], guard := some (5, true) }) (v := ?_) rfl (by kernel_rfl) (by kernel_rfl) (by kernel_rfl) (fun _ _ _ h => h) (Or.inl ⟨by rfl, ?_⟩) (by assumption) ?_
        rotate_left
        · (intro W hSw; (try dsimp only at hSw); obtain ⟨y0, y1, y2, y3⟩ := hSw.1; have z0 := hSw.2.at 0; have z1 := hSw.2.at 1; have z2 := hSw.2.at 2; have z3 := hSw.2.at 3; first | (go_simp; done) | (go_simp; with_reducible rfl))
        try simp only [Act.put, List.setIfInBounds_toArray, List.set_cons_zero, List.set_cons_succ]
        refine wpAnyH_ready (rs := [7]) (by kernel_rfl) (by simp) ?_
        refine AllReadyH.cons (o := { dst := some 32, op := Op.call { callee := Callee.value (Operand.func 11), args := #[Operand.tmp 31], argTypes := #[24] }, type := 3, pos := "law.go:92", after := #[{ on := 6, ground := Ground.data }, { on := 5, ground := Ground.chain }, { on := 5, ground := Ground.guard }], guard := some (5, true) }) rfl (fun K hK => ?_) AllReadyH.nil
        go_simp
        (refine (NU _ _).mono ?_; rintro e w5 ⟨rfl, rfl⟩)
        refine hK.out _ _ ?_ (fun hHeld => ?_)
        · ((try dsimp only); first | exact ⟨P6, A6⟩ | exact ⟨P4, A4⟩)
        clear hK K
        try simp only [Act.put, List.setIfInBounds_toArray, List.set_cons_zero, List.set_cons_succ]
        refine wpAnyH_take (i := 8) (oi := { dst := some 33, op := Op.binOp BinOp.neq 3 (Operand.tmp 32) (Operand.const (Value.int IntKind.i64 0)) 3, type := 4, pos := "law.go:92", after := #[{ on := 7, ground := Ground.data }, { on := 5, ground := Ground.guard }], guard := some (5, true) }) (v := ?_) rfl (by kernel_rfl) (by kernel_rfl) (by kernel_rfl) (fun _ _ _ h => h) (Or.inl ⟨by rfl, ?_⟩) (by assumption) ?_
        rotate_left
        · (intro W hSw; (try dsimp only at hSw); obtain ⟨y0, y1, y2, y3⟩ := hSw.1; have z0 := hSw.2.at 0; have z1 := hSw.2.at 1; have z2 := hSw.2.at 2; have z3 := hSw.2.at 3; first | (go_simp; done) | (go_simp; with_reducible rfl))
        try simp only [Act.put, List.setIfInBounds_toArray, List.set_cons_zero, List.set_cons_succ]
        refine wpAnyH_take (i := 9) (oi := { dst := some 34, op := Op.move (Operand.tmp 33), type := 4, pos := "law.go:92", after := #[{ on := 8, ground := Ground.data }, { on := 7, ground := Ground.chain }, { on := 5, ground := Ground.guard }], guard := some (5, true) }) (v := ?_) rfl (by kernel_rfl) (by kernel_rfl) (by kernel_rfl) (fun _ _ _ h => h) (Or.inl ⟨by rfl, ?_⟩) (by assumption) ?_
        rotate_left
        · (intro W hSw; (try dsimp only at hSw); obtain ⟨y0, y1, y2, y3⟩ := hSw.1; have z0 := hSw.2.at 0; have z1 := hSw.2.at 1; have z2 := hSw.2.at 2; have z3 := hSw.2.at 3; first | (go_simp; done) | (go_simp; with_reducible rfl))
        try simp only [Act.put, List.setIfInBounds_toArray, List.set_cons_zero, List.set_cons_succ]
        refine wpAnyH_take (i := 10) (oi := { dst := some 35, op := Op.load 23 (Operand.tmp 4), type := 23, pos := "law.go:92", after := #[{ on := 9, ground := Ground.guard }], guard := some (9, false) }) (v := ?_) rfl (by kernel_rfl) (by kernel_rfl) (by kernel_rfl) (fun _ _ _ h => h) (Or.inl ⟨by rfl, ?_⟩) (by assumption) ?_
        rotate_left
        · (intro W hSw; (try dsimp only at hSw); obtain ⟨y0, y1, y2, y3⟩ := hSw.1; have z0 := hSw.2.at 0; have z1 := hSw.2.at 1; have z2 := hSw.2.at 2; have z3 := hSw.2.at 3; first | (go_simp; done) | (go_simp; with_reducible rfl))
        try simp only [Act.put, List.setIfInBounds_toArray, List.set_cons_zero, List.set_cons_succ]
        refine wpAnyH_take (i := 11) (oi := { dst := some 36, op := Op.move (Operand.tmp 0), type := 34, pos := "law.go:92", after := #[{ on := 9, ground := Ground.guard }], guard := some (9, false) }) (v := ?_) rfl (by kernel_rfl) (by kernel_rfl) (by kernel_rfl) (fun _ _ _ h => h) (Or.inl ⟨by rfl, ?_⟩) (by assumption) ?_
        rotate_left
        · (intro W hSw; (try dsimp only at hSw); obtain ⟨y0, y1, y2, y3⟩ := hSw.1; have z0 := hSw.2.at 0; have z1 := hSw.2.at 1; have z2 := hSw.2.at 2; have z3 := hSw.2.at 3; first | (go_simp; done) | (go_simp; with_reducible rfl))
        try simp only [Act.put, List.setIfInBounds_toArray, List.set_cons_zero, List.set_cons_succ]
        refine wpAnyH_take (i := 12) (oi := { dst := some 37, op := Op.move (Operand.tmp 3), type := 3, pos := "law.go:92", after := #[{ on := 9, ground := Ground.guard }], guard := some (9, false) }) (v := ?_) rfl (by kernel_rfl) (by kernel_rfl) (by kernel_rfl) (fun _ _ _ h => h) (Or.inl ⟨by rfl, ?_⟩) (by assumption) ?_
        rotate_left
        · (intro W hSw; (try dsimp only at hSw); obtain ⟨y0, y1, y2, y3⟩ := hSw.1; have z0 := hSw.2.at 0; have z1 := hSw.2.at 1; have z2 := hSw.2.at 2; have z3 := hSw.2.at 3; first | (go_simp; done) | (go_simp; with_reducible rfl))
        try simp only [Act.put, List.setIfInBounds_toArray, List.set_cons_zero, List.set_cons_succ]
        refine wpAnyH_take (i := 13) (oi := { dst := some 38, op := Op.indexAddr 34 (Operand.tmp 36) (Operand.tmp 37), type := 0, pos := "law.go:92", after := #[{ on := 11, ground := Ground.data }, { on := 12, ground := Ground.data }, { on := 9, ground := Ground.guard }], guard := some (9, false) }) (v := ?_) rfl (by kernel_rfl) (by kernel_rfl) (by kernel_rfl) (fun _ _ _ h => h) (Or.inl ⟨by rfl, ?_⟩) (by assumption) ?_
        rotate_left
        · (intro W hSw; (try dsimp only at hSw); obtain ⟨y0, y1, y2, y3⟩ := hSw.1; have z0 := hSw.2.at 0; have z1 := hSw.2.at 1; have z2 := hSw.2.at 2; have z3 := hSw.2.at 3; first | (go_simp; done) | (go_simp; with_reducible rfl))
        try simp only [Act.put, List.setIfInBounds_toArray, List.set_cons_zero, List.set_cons_succ]
        refine wpAnyH_take (i := 14) (oi := { dst := some 39, op := Op.load 23 (Operand.tmp 38), type := 23, pos := "law.go:92", after := #[{ on := 13, ground := Ground.data }, { on := 9, ground := Ground.guard }], guard := some (9, false) }) (v := ?_) rfl (by kernel_rfl) (by kernel_rfl) (by kernel_rfl) (fun _ _ _ h => h) (Or.inl ⟨by rfl, ?_⟩) (by assumption) ?_
        rotate_left
        · (intro W hSw; (try dsimp only at hSw); obtain ⟨y0, y1, y2, y3⟩ := hSw.1; have z0 := hSw.2.at 0; have z1 := hSw.2.at 1; have z2 := hSw.2.at 2; have z3 := hSw.2.at 3; first | (go_simp; done) | (go_simp; with_reducible rfl))
        try simp only [Act.put, List.setIfInBounds_toArray, List.set_cons_zero, List.set_cons_succ]
        refine wpAnyH_ready (rs := [15]) (by kernel_rfl) (by simp) ?_
        refine AllReadyH.cons (o := { dst := some 40, op := Op.call { callee := Callee.value (Operand.func 10), args := #[Operand.tmp 35, Operand.tmp 39], argTypes := #[23, 23] }, type := 4, pos := "law.go:92", after := #[{ on := 10, ground := Ground.data }, { on := 14, ground := Ground.data }, { on := 9, ground := Ground.chain }, { on := 9, ground := Ground.guard }], guard := some (9, false) }) rfl (fun K hK => ?_) AllReadyH.nil
        go_simp
        (refine (SM _).mono ?_; rintro e w6 ⟨rfl, g6⟩; have d6 : Below w4.heap.size w4 w6 := (by first | exact below_trans ((Below.refl _ w4).drew) g6.below | exact g6.below); have B6 := below_trans B4 d6; have P6 := P4.later d6; have A6 := A4.later d6)
        refine hK.out _ _ ?_ (fun hHeld => ?_)
        · ((try dsimp only); first | exact ⟨P6, A6⟩ | exact ⟨P4, A4⟩)
        clear hK K
        try simp only [Act.put, List.setIfInBounds_toArray, List.set_cons_zero, List.set_cons_succ]
        refine wpAnyH_take (i := 16) (oi := { dst := some 41, op := Op.unOp UnOp.not 4 (Operand.tmp 40), type := 4, pos := "law.go:92", after := #[{ on := 15, ground := Ground.data }, { on := 9, ground := Ground.guard }], guard := some (9, false) }) (v := ?_) rfl (by kernel_rfl) (by kernel_rfl) (by kernel_rfl) (fun _ _ _ h => h) (Or.inl ⟨by rfl, ?_⟩) (by assumption) ?_
        rotate_left
        · (intro W hSw; (try dsimp only at hSw); obtain ⟨y0, y1, y2, y3⟩ := hSw.1; have z0 := hSw.2.at 0; have z1 := hSw.2.at 1; have z2 := hSw.2.at 2; have z3 := hSw.2.at 3; first | (go_simp; done) | (go_simp; with_reducible rfl))
        try simp only [Act.put, List.setIfInBounds_toArray, List.set_cons_zero, List.set_cons_succ]
        refine wpAnyH_take (i := 17) (oi := { dst := some 42, op := Op.pick (Operand.tmp 34) (Operand.const (Value.bool true)) (Operand.tmp 41), type := 4, pos := "law.go:92", after := #[{ on := 9, ground := Ground.data }, { on := 16, ground := Ground.data }, { on := 5, ground := Ground.guard }], guard := some (5, true) }) (v := ?_) rfl (by kernel_rfl) (by kernel_rfl) (by kernel_rfl) (fun _ _ _ h => h) (Or.inl ⟨by rfl, ?_⟩) (by assumption) ?_
        rotate_left
        · (intro W hSw; (try dsimp only at hSw); obtain ⟨y0, y1, y2, y3⟩ := hSw.1; have z0 := hSw.2.at 0; have z1 := hSw.2.at 1; have z2 := hSw.2.at 2; have z3 := hSw.2.at 3; first | (go_simp; done) | (go_simp; with_reducible rfl))
        try simp only [Act.put, List.setIfInBounds_toArray, List.set_cons_zero, List.set_cons_succ]
        refine wpAnyH_take (i := 18) (oi := { dst := some 43, op := Op.pick (Operand.tmp 30) (Operand.tmp 42) (Operand.const (Value.bool false)), type := 4, pos := "law.go:92", after := #[{ on := 5, ground := Ground.data }, { on := 17, ground := Ground.data }], guard := none }) (v := ?_) rfl (by kernel_rfl) (by kernel_rfl) (by kernel_rfl) (fun _ _ _ h => h) (Or.inl ⟨by rfl, ?_⟩) (by assumption) ?_
        rotate_left
        · (intro W hSw; (try dsimp only at hSw); obtain ⟨y0, y1, y2, y3⟩ := hSw.1; have z0 := hSw.2.at 0; have z1 := hSw.2.at 1; have z2 := hSw.2.at 2; have z3 := hSw.2.at 3; first | (go_simp; done) | (go_simp; with_reducible rfl))
        try simp only [Act.put, List.setIfInBounds_toArray, List.set_cons_zero, List.set_cons_succ]
        refine wpAnyH_done (by kernel_rfl) ?_ _
        go_wp2_with fail
        exact ⟨⟨i + 1, by rw [cast1], by omega, B6⟩, by simp [intOf]; omega⟩
      | false =>
        have PR : ∀ W, Below w.heap.size w W → Calls Tryz.prog 8 #[va v.k v.n v.m ⟨v.b.toArray⟩] W fun e w' => e = .returned (.string ⟨(tx v).toArray⟩) ∧ Below W.heap.size W w' := fun W h => Dt.print_any v W (HT.out.later h) (HP.out.later h) (HIN.out v hvm).1
        have PA : ∀ W, Below w.heap.size w W → Calls Tryz.prog 6 #[.string ⟨(tx v).toArray⟩] W fun e w' => e = .returned (.tuple #[va 0 0 0 ⟨#[]⟩, .int .i64 21]) ∧ Below W.heap.size W w' := fun W h => by
          have := Dt.parse_any (tx v) W (tx_len v (HIN.out v hvm).1) (HT.out.later h) (HP.out.later h) (HE.out.later h)
          rw [back_none v hvr] at this
          exact this
        have RR : ∀ W, Calls Tryz.prog 13 #[va v.k v.n v.m ⟨v.b.toArray⟩] W fun e w' => e = .returned (.bool false) ∧ Below W.heap.size W w' := fun W => by
          have : Calls Tryz.prog 13 #[va v.k v.n v.m ⟨v.b.toArray⟩] W fun e w' => e = .returned (.bool (vr v)) ∧ Below W.heap.size W w' := rright_any v.k v.n v.m ⟨v.b.toArray⟩ W
          rwa [hvr] at this
        skip
        have NU := lnum_any
        generalize ByteArray.mk (tx v).toArray = TB at *
        clear hvr hvm
        go_wp2_with fail
        refine (PR _ B0).mono ?_
        rintro e w1 ⟨rfl, b1⟩
        have B1 := below_trans B0 b1
        have P1 := P0.later b1
        go_wp2_with fail
        refine (PA _ B1).mono ?_
        rintro e w2 ⟨rfl, b2⟩
        have B2 := below_trans B1 b2
        have P2 := P1.later b2
        have u2 : Below w2.heap.size w2 (w2.alloc (.cells #[.int .i64 0, .int .i64 0, .int .i64 0, .string ⟨#[]⟩] 23)) := (Below.refl _ _).alloc (Nat.le_refl _) _
        have A3 := Cbox.new w2 #[.int .i64 0, .int .i64 0, .int .i64 0, .string ⟨#[]⟩] 23
        have B3 := below_trans B2 u2
        have P3 := P2.later u2
        go_upto_region 5 with fail
        generalize w2.alloc (.cells #[.int .i64 0, .int .i64 0, .int .i64 0, .string ⟨#[]⟩] 23) = w3 at *
        clear P0 P1 P2 p0 p1 p2 p3 u2 b1 b2
        refine wp_region_held_drew (S := (fun W => At4 W b (off + i * 4) v ∧ Cbox W w2.heap.size #[.int .i64 0, .int .i64 0, .int .i64 0, .string ⟨#[]⟩] 23)) (by kernel_rfl) ?_ (fun hHeld => ?_)
        · ((try dsimp only); exact ⟨P3, A3⟩)
        refine wpAnyH_take (i := 0) (oi := { dst := some 25, op := Op.move (Operand.tmp 0), type := 34, pos := "law.go:92", after := #[], guard := none }) (v := ?_) rfl (by kernel_rfl) (by kernel_rfl) (by kernel_rfl) (fun _ _ _ h => h) (Or.inl ⟨by rfl, ?_⟩) (by assumption) ?_
        rotate_left
        · (intro W hSw; (try dsimp only at hSw); obtain ⟨y0, y1, y2, y3⟩ := hSw.1; have z0 := hSw.2.at 0; have z1 := hSw.2.at 1; have z2 := hSw.2.at 2; have z3 := hSw.2.at 3; first | (go_simp; done) | (go_simp; with_reducible rfl))
        try simp only [Act.put, List.setIfInBounds_toArray, List.set_cons_zero, List.set_cons_succ]
        refine wpAnyH_take (i := 1) (oi := { dst := some 26, op := Op.move (Operand.tmp 3), type := 3, pos := "law.go:92", after := #[], guard := none }) (v := ?_) rfl (by kernel_rfl) (by kernel_rfl) (by kernel_rfl) (fun _ _ _ h => h) (Or.inl ⟨by rfl, ?_⟩) (by assumption) ?_
        rotate_left
        · (intro W hSw; (try dsimp only at hSw); obtain ⟨y0, y1, y2, y3⟩ := hSw.1; have z0 := hSw.2.at 0; have z1 := hSw.2.at 1; have z2 := hSw.2.at 2; have z3 := hSw.2.at 3; first | (go_simp; done) | (go_simp; with_reducible rfl))
        try simp only [Act.put, List.setIfInBounds_toArray, List.set_cons_zero, List.set_cons_succ]
        refine wpAnyH_take (i := 2) (oi := { dst := some 27, op := Op.indexAddr 34 (Operand.tmp 25) (Operand.tmp 26), type := 0, pos := "law.go:92", after := #[{ on := 0, ground := Ground.data }, { on := 1, ground := Ground.data }], guard := none }) (v := ?_) rfl (by kernel_rfl) (by kernel_rfl) (by kernel_rfl) (fun _ _ _ h => h) (Or.inl ⟨by rfl, ?_⟩) (by assumption) ?_
        rotate_left
        · (intro W hSw; (try dsimp only at hSw); obtain ⟨y0, y1, y2, y3⟩ := hSw.1; have z0 := hSw.2.at 0; have z1 := hSw.2.at 1; have z2 := hSw.2.at 2; have z3 := hSw.2.at 3; first | (go_simp; done) | (go_simp; with_reducible rfl))
        try simp only [Act.put, List.setIfInBounds_toArray, List.set_cons_zero, List.set_cons_succ]
        refine wpAnyH_take (i := 3) (oi := { dst := some 28, op := Op.load 23 (Operand.tmp 27), type := 23, pos := "law.go:92", after := #[{ on := 2, ground := Ground.data }], guard := none }) (v := ?_) rfl (by kernel_rfl) (by kernel_rfl) (by kernel_rfl) (fun _ _ _ h => h) (Or.inl ⟨by rfl, ?_⟩) (by assumption) ?_
        rotate_left
        · (intro W hSw; (try dsimp only at hSw); obtain ⟨y0, y1, y2, y3⟩ := hSw.1; have z0 := hSw.2.at 0; have z1 := hSw.2.at 1; have z2 := hSw.2.at 2; have z3 := hSw.2.at 3; first | (go_simp; done) | (go_simp; with_reducible rfl))
        try simp only [Act.put, List.setIfInBounds_toArray, List.set_cons_zero, List.set_cons_succ]
        refine wpAnyH_ready (rs := [4]) (by kernel_rfl) (by simp) ?_
        refine AllReadyH.cons (o := { dst := some 29, op := Op.call { callee := Callee.value (Operand.func 13), args := #[Operand.tmp 28], argTypes := #[23] }, type := 4, pos := "law.go:92", after := #[{ on := 3, ground := Ground.data }], guard := none }) rfl (fun K hK => ?_) AllReadyH.nil
        go_simp
        (refine (RR _).mono ?_; rintro e w4 ⟨rfl, b4⟩; have d4 : Below w3.heap.size w3 w4 := (by first | exact below_trans ((Below.refl _ w3).drew) b4 | exact b4); have B4 := below_trans B3 d4; have P4 := P3.later d4; have A4 := A3.later d4)
        refine hK.out _ _ ?_ (fun hHeld => ?_)
        · ((try dsimp only); exact ⟨P4, A4⟩)
        clear hK K
        try simp only [Act.put, List.setIfInBounds_toArray, List.set_cons_zero, List.set_cons_succ]
        refine wpAnyH_take (i := 5) (oi := { dst := some 30, op := Op.move (Operand.tmp 29), type := 4, pos := "law.go:92", after := #[{ on := 4, ground := Ground.data }, { on := 4, ground := Ground.chain }], guard := none }) (v := ?_) rfl (by kernel_rfl) (by kernel_rfl) (by kernel_rfl) (fun _ _ _ h => h) (Or.inl ⟨by rfl, ?_⟩) (by assumption) ?_
        rotate_left
        · (intro W hSw; (try dsimp only at hSw); obtain ⟨y0, y1, y2, y3⟩ := hSw.1; have z0 := hSw.2.at 0; have z1 := hSw.2.at 1; have z2 := hSw.2.at 2; have z3 := hSw.2.at 3; first | (go_simp; done) | (go_simp; with_reducible rfl))
        try simp only [Act.put, List.setIfInBounds_toArray, List.set_cons_zero, List.set_cons_succ]
        refine wpAnyH_take (i := 6) (oi := { dst := some 31, op := Op.move (Operand.tmp 5), type := 24, pos := "law.go:92", after := #[{ on := 5, ground := Ground.guard }], guard := some (5, true) }) (v := undef) rfl (by kernel_rfl) (by kernel_rfl) (by kernel_rfl) (fun _ _ _ h => h) (Or.inr ⟨by rfl, rfl⟩) (by assumption) ?_
        try simp only [Act.put, List.setIfInBounds_toArray, List.set_cons_zero, List.set_cons_succ]
        refine wpAnyH_take (i := 7) (oi := { dst := some 32, op := Op.call { callee := Callee.value (Operand.func 11), args := #[Operand.tmp 31], argTypes := #[24] }, type := 3, pos := "law.go:92", after := #[{ on := 6, ground := Ground.data }, { on := 5, ground := Ground.chain }, { on := 5, ground := Ground.guard }], guard := some (5, true) }) (v := undef) rfl (by kernel_rfl) (by kernel_rfl) (by kernel_rfl) (fun _ _ _ h => h) (Or.inr ⟨by rfl, rfl⟩) (by assumption) ?_
        try simp only [Act.put, List.setIfInBounds_toArray, List.set_cons_zero, List.set_cons_succ]
        refine wpAnyH_take (i := 8) (oi := { dst := some 33, op := Op.binOp BinOp.neq 3 (Operand.tmp 32) (Operand.const (Value.int IntKind.i64 0)) 3, type := 4, pos := "law.go:92", after := #[{ on := 7, ground := Ground.data }, { on := 5, ground := Ground.guard }], guard := some (5, true) }) (v := undef) rfl (by kernel_rfl) (by kernel_rfl) (by kernel_rfl) (fun _ _ _ h => h) (Or.inr ⟨by rfl, rfl⟩) (by assumption) ?_
        try simp only [Act.put, List.setIfInBounds_toArray, List.set_cons_zero, List.set_cons_succ]
        refine wpAnyH_take (i := 9) (oi := { dst := some 34, op := Op.move (Operand.tmp 33), type := 4, pos := "law.go:92", after := #[{ on := 8, ground := Ground.data }, { on := 7, ground := Ground.chain }, { on := 5, ground := Ground.guard }], guard := some (5, true) }) (v := undef) rfl (by kernel_rfl) (by kernel_rfl) (by kernel_rfl) (fun _ _ _ h => h) (Or.inr ⟨by rfl, rfl⟩) (by assumption) ?_
        try simp only [Act.put, List.setIfInBounds_toArray, List.set_cons_zero, List.set_cons_succ]
        refine wpAnyH_take (i := 10) (oi := { dst := some 35, op := Op.load 23 (Operand.tmp 4), type := 23, pos := "law.go:92", after := #[{ on := 9, ground := Ground.guard }], guard := some (9, false) }) (v := undef) rfl (by kernel_rfl) (by kernel_rfl) (by kernel_rfl) (fun _ _ _ h => h) (Or.inr ⟨by rfl, rfl⟩) (by assumption) ?_
        try simp only [Act.put, List.setIfInBounds_toArray, List.set_cons_zero, List.set_cons_succ]
        refine wpAnyH_take (i := 11) (oi := { dst := some 36, op := Op.move (Operand.tmp 0), type := 34, pos := "law.go:92", after := #[{ on := 9, ground := Ground.guard }], guard := some (9, false) }) (v := undef) rfl (by kernel_rfl) (by kernel_rfl) (by kernel_rfl) (fun _ _ _ h => h) (Or.inr ⟨by rfl, rfl⟩) (by assumption) ?_
        try simp only [Act.put, List.setIfInBounds_toArray, List.set_cons_zero, List.set_cons_succ]
        refine wpAnyH_take (i := 12) (oi := { dst := some 37, op := Op.move (Operand.tmp 3), type := 3, pos := "law.go:92", after := #[{ on := 9, ground := Ground.guard }], guard := some (9, false) }) (v := undef) rfl (by kernel_rfl) (by kernel_rfl) (by kernel_rfl) (fun _ _ _ h => h) (Or.inr ⟨by rfl, rfl⟩) (by assumption) ?_
        try simp only [Act.put, List.setIfInBounds_toArray, List.set_cons_zero, List.set_cons_succ]
        refine wpAnyH_take (i := 13) (oi := { dst := some 38, op := Op.indexAddr 34 (Operand.tmp 36) (Operand.tmp 37), type := 0, pos := "law.go:92", after := #[{ on := 11, ground := Ground.data }, { on := 12, ground := Ground.data }, { on := 9, ground := Ground.guard }], guard := some (9, false) }) (v := undef) rfl (by kernel_rfl) (by kernel_rfl) (by kernel_rfl) (fun _ _ _ h => h) (Or.inr ⟨by rfl, rfl⟩) (by assumption) ?_
        try simp only [Act.put, List.setIfInBounds_toArray, List.set_cons_zero, List.set_cons_succ]
        refine wpAnyH_take (i := 14) (oi := { dst := some 39, op := Op.load 23 (Operand.tmp 38), type := 23, pos := "law.go:92", after := #[{ on := 13, ground := Ground.data }, { on := 9, ground := Ground.guard }], guard := some (9, false) }) (v := undef) rfl (by kernel_rfl) (by kernel_rfl) (by kernel_rfl) (fun _ _ _ h => h) (Or.inr ⟨by rfl, rfl⟩) (by assumption) ?_
        try simp only [Act.put, List.setIfInBounds_toArray, List.set_cons_zero, List.set_cons_succ]
        refine wpAnyH_take (i := 15) (oi := { dst := some 40, op := Op.call { callee := Callee.value (Operand.func 10), args := #[Operand.tmp 35, Operand.tmp 39], argTypes := #[23, 23] }, type := 4, pos := "law.go:92", after := #[{ on := 10, ground := Ground.data }, { on := 14, ground := Ground.data }, { on := 9, ground := Ground.chain }, { on := 9, ground := Ground.guard }], guard := some (9, false) }) (v := undef) rfl (by kernel_rfl) (by kernel_rfl) (by kernel_rfl) (fun _ _ _ h => h) (Or.inr ⟨by rfl, rfl⟩) (by assumption) ?_
        try simp only [Act.put, List.setIfInBounds_toArray, List.set_cons_zero, List.set_cons_succ]
        refine wpAnyH_take (i := 16) (oi := { dst := some 41, op := Op.unOp UnOp.not 4 (Operand.tmp 40), type := 4, pos := "law.go:92", after := #[{ on := 15, ground := Ground.data }, { on := 9, ground := Ground.guard }], guard := some (9, false) }) (v := undef) rfl (by kernel_rfl) (by kernel_rfl) (by kernel_rfl) (fun _ _ _ h => h) (Or.inr ⟨by rfl, rfl⟩) (by assumption) ?_
        try simp only [Act.put, List.setIfInBounds_toArray, List.set_cons_zero, List.set_cons_succ]
        refine wpAnyH_take (i := 17) (oi := { dst := some 42, op := Op.pick (Operand.tmp 34) (Operand.const (Value.bool true)) (Operand.tmp 41), type := 4, pos := "law.go:92", after := #[{ on := 9, ground := Ground.data }, { on := 16, ground := Ground.data }, { on := 5, ground := Ground.guard }], guard := some (5, true) }) (v := undef) rfl (by kernel_rfl) (by kernel_rfl) (by kernel_rfl) (fun _ _ _ h => h) (Or.inr ⟨by rfl, rfl⟩) (by assumption) ?_
        try simp only [Act.put, List.setIfInBounds_toArray, List.set_cons_zero, List.set_cons_succ]
        refine wpAnyH_take (i := 18) (oi := { dst := some 43, op := Op.pick (Operand.tmp 30) (Operand.tmp 42) (Operand.const (Value.bool false)), type := 4, pos := "law.go:92", after := #[{ on := 5, ground := Ground.data }, { on := 17, ground := Ground.data }], guard := none }) (v := ?_) rfl (by kernel_rfl) (by kernel_rfl) (by kernel_rfl) (fun _ _ _ h => h) (Or.inl ⟨by rfl, ?_⟩) (by assumption) ?_
        rotate_left
        · (intro W hSw; (try dsimp only at hSw); obtain ⟨y0, y1, y2, y3⟩ := hSw.1; have z0 := hSw.2.at 0; have z1 := hSw.2.at 1; have z2 := hSw.2.at 2; have z3 := hSw.2.at 3; first | (go_simp; done) | (go_simp; with_reducible rfl))
        try simp only [Act.put, List.setIfInBounds_toArray, List.set_cons_zero, List.set_cons_succ]
        refine wpAnyH_done (by kernel_rfl) ?_ _
        go_wp2_with fail
        exact ⟨⟨i + 1, by rw [cast1], by omega, B4⟩, by simp [intOf]; omega⟩
    · have hlt' : ¬ (i : Int) < (l.length : Int) := by omega
      go_wp2_with fail
      refine (OWN _ B0).mono ?_
      rintro e w1 ⟨ao', cap', rfl, V1, b1⟩
      have B1 := below_trans B0 b1
      go_wp2_with fail
      refine (PUT _ _ _ B1 V1).mono ?_
      rintro e w2 ⟨v', rfl, o2, b2⟩
      have B2 := below_trans B1 b2
      obtain ⟨bo, bc, rfl, rd2, _⟩ := o2.rd
      go_wp2_with fail
      refine (NU _ _).mono ?_
      rintro e w3 ⟨rfl, rfl⟩
      go_wp2_with fail
      refine (GET _ _ _ B2 rd2).mono ?_
      rintro e w4 ⟨g, rfl, V4, b4⟩
      have B4 := below_trans B2 b4
      go_wp2_with fail
      refine (NU _ _).mono ?_
      rintro e w5 ⟨rfl, rfl⟩
      go_wp2_with fail
      refine (SAM _ _ _ B4 V4).mono ?_
      rintro e w6 ⟨rfl, b6⟩
      have B6 := below_trans B4 b6
      go_wp2_with fail
      refine (KN _ B6).mono ?_
      rintro e w7 ⟨rfl, b7⟩
      have B7 := below_trans B6 b7
      go_wp2
      go_ret
      exact ⟨rfl, B7⟩

theorem back_all (ao : Option Addr) (cap : Nat) (l : List Va) (w : World) (hv : Vs w ao l) (h0 : ao = none → l = []) (hl : l.length * 40 ≤ 140737488351232) (hin : ∀ v ∈ l, vin v) (hT : Tabs w) (hP : Pt.Ptab w) (hE : Pt.Ers w) :
    Calls Tryz.prog 4 #[.slice ao l.length cap] w fun e w' => e = .returned (.bool true) ∧ Below w.heap.size w w' := by
  by_cases hC : ckE l = 0
  · exact back_good ao cap l w hv h0 hl hin hT hP hE hC
  · exact back_bad ao cap l w hv h0 hl hin hT hP hE hC
end Go.Proofs.YtibbenhplmmmiaaGreatDoor.Bk
