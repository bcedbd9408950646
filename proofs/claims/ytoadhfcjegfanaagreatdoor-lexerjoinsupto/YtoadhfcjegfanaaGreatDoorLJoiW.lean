/-
  The walk of LexerJoins: for every row of tokens and every text.
-/
import Derived.Test.YtoadhfcjegfanaaGreatDoorMXLOwn
import Derived.Test.YtoadhfcjegfanaaGreatDoorLSame
namespace Go.Proofs.YtoadhfcjegfanaaGreatDoor
open Go.RowKit Go.Shelf
attribute [local go_sem] cell?_more frozen?_more setCell_more more_lt more_more more_drew more_drewN setCell_drewN alloc_drewN

set_option maxRecDepth 20000 in
set_option maxHeartbeats 4000000 in
theorem joi_any (ao : Option Addr) (cap : Nat) (xs : List Ti) (l : List UInt8) (w : World) (hv : Tw w ao xs) (hn : xs.length ≤ 1048576) (hs : (joinN (xs.map (·.t))).length ≤ 1048576) (hl : l.length ≤ 140737488351232) (hT : Tabs w) (hP : Ptab w) :
    Calls Tryz.prog 3 #[.slice ao xs.length cap, .string ⟨l.toArray⟩] w fun e w' => e = .returned (.bool true) ∧ Below w.heap.size w w' := by
  have K := know_of hT hP
  have O := own5_any ao cap xs w hv (by omega)
  have RA : ∀ (x : Ti) W, Below w.heap.size w W → Calls Tryz.prog 10 #[tiv x] W fun e w' => e = .returned (.bool (rtok x)) ∧ Below W.heap.size W w' := fun x W h => right_any5 x W (hT.later h) (hP.later h)
  have RB := fun (x : Ti) W => rright_any5 x W
  have JA : ∀ (a2 : Option Addr) (c2 : Nat) W, Below w.heap.size w W → Tw W a2 xs → Calls Tryz.prog 12 #[.slice a2 xs.length c2] W fun e w' => e = .returned (.string ⟨(joinT xs).toArray⟩) ∧ Below W.heap.size W w' := fun a2 c2 W h h2 => join_any a2 c2 xs W (hT.later h) (hP.later h) h2 (by omega) (by omega)
  have JB : ∀ W, Below w.heap.size w W → Calls Tryz.prog 13 #[.slice ao xs.length cap] W fun e w' => e = .returned (.string ⟨(joinT xs).toArray⟩) ∧ Below W.heap.size W w' := fun W h => rjoin_any ao cap xs W (hv.later h) (by omega) (by omega)
  have WA := fun W => word_any l W hl
  have WB := fun W => rword_any l W hl
  have SM : ∀ (a2 : Option Addr) (c2 : Nat) W, Below w.heap.size w W → Tw W a2 xs → Calls Tryz.prog 16 #[.slice a2 xs.length c2, .slice ao xs.length cap, .bool true] W fun e w' => e = .returned (.bool true) ∧ Below W.heap.size W w' := fun a2 c2 W h h2 => same5_true a2 ao c2 cap xs xs W h2 (hv.later h) (by omega) rfl (fun i _ _ => ⟨rfl, rfl, rfl, rfl⟩)
  clear hT hP
  obtain ⟨n, hnn⟩ : ∃ n, xs.length = n := ⟨_, rfl⟩
  rw [hnn] at hn O JA JB SM ⊢
  have HN : Hid (xs.length = n) := hnn
  clear hnn hs
  generalize ByteArray.mk l.toArray = B at *
  generalize ByteArray.mk (joinT xs).toArray = J at *
  go_enter Tryz.func3, Tryz.ntmps3
  go_wp2_with (go_at_call 9; refine O.mono ?_; rintro e w1 ⟨⟨a1, c1, rfl, hw1⟩, b1⟩)
  go_loopw [6] (fun r6 wr => ∃ k : Nat, r6 = .int .i64 (k : Int) ∧ k ≤ n ∧ Below w1.heap.size w1 wr) (fun r _ => n - (intOf r).toNat)
  case atStart => exact ⟨0, rfl, Nat.zero_le _, Below.refl _ _⟩
  case round =>
    obtain ⟨k, rfl, hk, hbw⟩ := hrel
    have sB := hbw.size
    have B1 := below_trans b1 hbw
    by_cases hlt : k < n
    · have hlt' : (k : Int) < (n : Int) := by omega
      have j0 : (0 : Int) ≤ (k : Int) := by omega
      have kx : k < xs.length := by rw [HN.out]; exact hlt
      obtain ⟨b, off, rfl, hc⟩ := hv (by omega)
      obtain ⟨b2, off2, rfl, hc2⟩ := hw1 (by omega)
      have T1 : Hid (T7 wr b (off + k * 7) xs[k]) := (hc k kx).later B1
      have T2 : Hid (T7 wr b2 (off2 + k * 7) xs[k]) := (hc2 k kx).later hbw
      generalize xs[k] = x at T1 T2
      obtain ⟨xk, xt, xv, xa⟩ := x
      have RAx := fun W h => RA ⟨xk, xt, xv, xa⟩ W h
      have RBx := fun W => RB ⟨xk, xt, xv, xa⟩ W
      generalize rtok ⟨xk, xt, xv, xa⟩ = r at RAx RBx
      clear hc hc2 hv O RA RB JA JB WA WB SM K
      go_wp2
      refine wp_region_held_drew (S := (fun W => Below wr.heap.size wr W)) (by kernel_rfl) ?_ (fun hHeld => ?_)
      · ((try dsimp only); exact (Below.refl _ _).drew)
      refine wpAnyH_take (i := 0) (oi := { dst := some 15, op := Op.move (Operand.tmp 5), type := 23, pos := "law.go:52", after := #[], guard := none }) (v := ?_) rfl (by kernel_rfl) (by kernel_rfl) (by kernel_rfl) (fun _ _ _ h => h) (Or.inl ⟨by rfl, ?_⟩) (by assumption) ?_
      rotate_left
      · (intro W hSw; (try dsimp only at hSw); obtain ⟨p0, p1, p2, p3, p4, p5, p6⟩ := T7.later T1.out hSw; obtain ⟨q0, q1, q2, q3, q4, q5, q6⟩ := T7.later T2.out hSw; first | (go_simp; done) | (go_simp; with_reducible rfl))
      try simp only [Act.put, List.setIfInBounds_toArray, List.set_cons_zero, List.set_cons_succ]
      refine wpAnyH_take (i := 1) (oi := { dst := some 16, op := Op.move (Operand.tmp 6), type := 3, pos := "law.go:52", after := #[], guard := none }) (v := ?_) rfl (by kernel_rfl) (by kernel_rfl) (by kernel_rfl) (fun _ _ _ h => h) (Or.inl ⟨by rfl, ?_⟩) (by assumption) ?_
      rotate_left
      · (intro W hSw; (try dsimp only at hSw); obtain ⟨p0, p1, p2, p3, p4, p5, p6⟩ := T7.later T1.out hSw; obtain ⟨q0, q1, q2, q3, q4, q5, q6⟩ := T7.later T2.out hSw; first | (go_simp; done) | (go_simp; with_reducible rfl))
      try simp only [Act.put, List.setIfInBounds_toArray, List.set_cons_zero, List.set_cons_succ]
      refine wpAnyH_take (i := 2) (oi := { dst := some 17, op := Op.indexAddr 23 (Operand.tmp 15) (Operand.tmp 16), type := 0, pos := "law.go:52", after := #[{ on := 0, ground := Ground.data }, { on := 1, ground := Ground.data }], guard := none }) (v := ?_) rfl (by kernel_rfl) (by kernel_rfl) (by kernel_rfl) (fun _ _ _ h => h) (Or.inl ⟨by rfl, ?_⟩) (by assumption) ?_
      rotate_left
      · (intro W hSw; (try dsimp only at hSw); obtain ⟨p0, p1, p2, p3, p4, p5, p6⟩ := T7.later T1.out hSw; obtain ⟨q0, q1, q2, q3, q4, q5, q6⟩ := T7.later T2.out hSw; first | (go_simp; done) | (go_simp; with_reducible rfl))
      try simp only [Act.put, List.setIfInBounds_toArray, List.set_cons_zero, List.set_cons_succ]
      refine wpAnyH_take (i := 3) (oi := { dst := some 18, op := Op.load 29 (Operand.tmp 17), type := 29, pos := "law.go:52", after := #[{ on := 2, ground := Ground.data }], guard := none }) (v := ?_) rfl (by kernel_rfl) (by kernel_rfl) (by kernel_rfl) (fun _ _ _ h => h) (Or.inl ⟨by rfl, ?_⟩) (by assumption) ?_
      rotate_left
      · (intro W hSw; (try dsimp only at hSw); obtain ⟨p0, p1, p2, p3, p4, p5, p6⟩ := T7.later T1.out hSw; obtain ⟨q0, q1, q2, q3, q4, q5, q6⟩ := T7.later T2.out hSw; first | (go_simp; done) | (go_simp; with_reducible rfl))
      try simp only [Act.put, List.setIfInBounds_toArray, List.set_cons_zero, List.set_cons_succ]
      refine wpAnyH_take (i := 5) (oi := { dst := some 20, op := Op.move (Operand.tmp 0), type := 22, pos := "law.go:52", after := #[], guard := none }) (v := ?_) rfl (by kernel_rfl) (by kernel_rfl) (by kernel_rfl) (fun _ _ _ h => h) (Or.inl ⟨by rfl, ?_⟩) (by assumption) ?_
      rotate_left
      · (intro W hSw; (try dsimp only at hSw); obtain ⟨p0, p1, p2, p3, p4, p5, p6⟩ := T7.later T1.out hSw; obtain ⟨q0, q1, q2, q3, q4, q5, q6⟩ := T7.later T2.out hSw; first | (go_simp; done) | (go_simp; with_reducible rfl))
      try simp only [Act.put, List.setIfInBounds_toArray, List.set_cons_zero, List.set_cons_succ]
      refine wpAnyH_take (i := 6) (oi := { dst := some 21, op := Op.move (Operand.tmp 6), type := 3, pos := "law.go:52", after := #[], guard := none }) (v := ?_) rfl (by kernel_rfl) (by kernel_rfl) (by kernel_rfl) (fun _ _ _ h => h) (Or.inl ⟨by rfl, ?_⟩) (by assumption) ?_
      rotate_left
      · (intro W hSw; (try dsimp only at hSw); obtain ⟨p0, p1, p2, p3, p4, p5, p6⟩ := T7.later T1.out hSw; obtain ⟨q0, q1, q2, q3, q4, q5, q6⟩ := T7.later T2.out hSw; first | (go_simp; done) | (go_simp; with_reducible rfl))
      try simp only [Act.put, List.setIfInBounds_toArray, List.set_cons_zero, List.set_cons_succ]
      refine wpAnyH_take (i := 7) (oi := { dst := some 22, op := Op.indexAddr 22 (Operand.tmp 20) (Operand.tmp 21), type := 0, pos := "law.go:52", after := #[{ on := 5, ground := Ground.data }, { on := 6, ground := Ground.data }], guard := none }) (v := ?_) rfl (by kernel_rfl) (by kernel_rfl) (by kernel_rfl) (fun _ _ _ h => h) (Or.inl ⟨by rfl, ?_⟩) (by assumption) ?_
      rotate_left
      · (intro W hSw; (try dsimp only at hSw); obtain ⟨p0, p1, p2, p3, p4, p5, p6⟩ := T7.later T1.out hSw; obtain ⟨q0, q1, q2, q3, q4, q5, q6⟩ := T7.later T2.out hSw; first | (go_simp; done) | (go_simp; with_reducible rfl))
      try simp only [Act.put, List.setIfInBounds_toArray, List.set_cons_zero, List.set_cons_succ]
      refine wpAnyH_take (i := 8) (oi := { dst := some 23, op := Op.load 31 (Operand.tmp 22), type := 31, pos := "law.go:52", after := #[{ on := 7, ground := Ground.data }], guard := none }) (v := ?_) rfl (by kernel_rfl) (by kernel_rfl) (by kernel_rfl) (fun _ _ _ h => h) (Or.inl ⟨by rfl, ?_⟩) (by assumption) ?_
      rotate_left
      · (intro W hSw; (try dsimp only at hSw); obtain ⟨p0, p1, p2, p3, p4, p5, p6⟩ := T7.later T1.out hSw; obtain ⟨q0, q1, q2, q3, q4, q5, q6⟩ := T7.later T2.out hSw; first | (go_simp; done) | (go_simp; with_reducible rfl))
      try simp only [Act.put, List.setIfInBounds_toArray, List.set_cons_zero, List.set_cons_succ]
      refine wpAnyH_ready (rs := [4]) (by kernel_rfl) (by simp) ?_
      refine AllReadyH.cons (o := { dst := some 19, op := Op.call { callee := Callee.value (Operand.func 10), args := #[Operand.tmp 18], argTypes := #[29] }, type := 4, pos := "law.go:52", after := #[{ on := 3, ground := Ground.data }], guard := none }) rfl (fun K hK => ?_) AllReadyH.nil
      go_simp
      go_wp2_with (go_at_call 10; refine (RAx _ (below_trans B1 hHeld)).mono ?_; rintro e w2 ⟨rfl, b2⟩)
      refine hK.out _ _ ?_ (fun hHeld => ?_)
      · ((try dsimp only); first | exact below_trans hHeld b3 | exact below_trans hHeld b2)
      clear hK K
      try simp only [Act.put, List.setIfInBounds_toArray, List.set_cons_zero, List.set_cons_succ]
      refine wpAnyH_ready (rs := [9]) (by kernel_rfl) (by simp) ?_
      refine AllReadyH.cons (o := { dst := some 24, op := Op.call { callee := Callee.value (Operand.func 11), args := #[Operand.tmp 23], argTypes := #[31] }, type := 4, pos := "law.go:52", after := #[{ on := 8, ground := Ground.data }, { on := 4, ground := Ground.chain }], guard := none }) rfl (fun K hK => ?_) AllReadyH.nil
      go_simp
      go_wp2_with (go_at_call 11; refine (RBx _).mono ?_; rintro e w3 ⟨rfl, b3⟩)
      refine hK.out _ _ ?_ (fun hHeld => ?_)
      · ((try dsimp only); first | exact below_trans hHeld b3 | exact below_trans hHeld b2)
      clear hK K
      try simp only [Act.put, List.setIfInBounds_toArray, List.set_cons_zero, List.set_cons_succ]
      refine wpAnyH_take (i := 10) (oi := { dst := some 25, op := Op.binOp BinOp.neq 4 (Operand.tmp 19) (Operand.tmp 24) 4, type := 4, pos := "law.go:52", after := #[{ on := 4, ground := Ground.data }, { on := 9, ground := Ground.data }], guard := none }) (v := ?_) rfl (by kernel_rfl) (by kernel_rfl) (by kernel_rfl) (fun _ _ _ h => h) (Or.inl ⟨by rfl, ?_⟩) (by assumption) ?_
      rotate_left
      · (intro W hSw; (try dsimp only at hSw); obtain ⟨p0, p1, p2, p3, p4, p5, p6⟩ := T7.later T1.out hSw; obtain ⟨q0, q1, q2, q3, q4, q5, q6⟩ := T7.later T2.out hSw; first | (go_simp; done) | (go_simp; with_reducible rfl))
      try simp only [Act.put, List.setIfInBounds_toArray, List.set_cons_zero, List.set_cons_succ]
      refine wpAnyH_done (by kernel_rfl) ?_ _
      have eqr : (r != r) = false := by cases r <;> rfl
      go_wp2
      exact ⟨⟨k + 1, by rw [cast1], by omega, below_trans hbw hHeld⟩, by simp [intOf] <;> omega⟩
    · have hlt' : ¬ (k : Int) < (n : Int) := by omega
      have hw2 := hw1.later hbw
      have J1 := fun W h h2 => JA a1 c1 W h h2
      have S1 := fun W h h2 => SM a1 c1 W h h2
      clear JA SM RA RB O
      go_wp2_with (first
        | (go_at_call 12; refine (J1 _ B1 hw2).mono ?_; rintro e w2 ⟨rfl, b2⟩; have B2 := below_trans B1 b2; have hw3 := hw2.later b2; clear J1)
        | (go_at_call 13; refine (JB _ B2).mono ?_; rintro e w3 ⟨rfl, b3⟩; have B3 := below_trans B2 b3; have hw4 := hw3.later b3; clear JB)
        | (go_at_call 14; refine (WA _).mono ?_; rintro e w' ⟨rfl, rfl⟩)
        | (go_at_call 15; refine (WB _).mono ?_; rintro e w' ⟨rfl, rfl⟩)
        | (go_at_call 16; refine (S1 _ B3 hw4).mono ?_; rintro e w5 ⟨rfl, b5⟩; have B5 := below_trans B3 b5; clear S1)
        | (go_at_call 17; refine (K _ B5).mono ?_; rintro e w6 ⟨rfl, b6⟩))
      go_ret
      exact ⟨rfl, below_trans B5 b6⟩

theorem joi_anyB (ao : Option Addr) (cap : Nat) (xs : List Ti) (S : ByteArray) (w : World) (hv : Tw w ao xs) (hn : xs.length ≤ 1048576) (hs : (joinN (xs.map (·.t))).length ≤ 1048576) (hl : S.size ≤ 140737488351232) (hT : Tabs w) (hP : Ptab w) :
    Calls Tryz.prog 3 #[.slice ao xs.length cap, .string S] w fun e w' => e = .returned (.bool true) ∧ Below w.heap.size w w' := by
  obtain ⟨⟨l⟩⟩ := S
  exact joi_any ao cap xs l w hv hn hs hl hT hP
end Go.Proofs.YtoadhfcjegfanaaGreatDoor
