/-
  The document's lexer: the token that a text begins with.
-/
import Derived.Test.YtoadhfcjegfanaaGreatDoorLRSign
import Derived.Test.YtoadhfcjegfanaaGreatDoorLRParse3
import Derived.Test.YtoadhfcjegfanaaGreatDoorLTok
namespace Go.Proofs.YtoadhfcjegfanaaGreatDoor
open Go.RowKit Go.Shelf
attribute [local go_sem] cell?_more frozen?_more setCell_more more_lt more_more more_drew more_drewN setCell_drewN alloc_drewN

abbrev Z7 : Array Value := #[.int .i64 0, .string ⟨#[]⟩, .int .i64 0, .int .i64 0, .int .i64 0, .string ⟨#[]⟩, .int .i64 0]
abbrev Z7w : Array Value := Z7

set_option maxRecDepth 20000 in
set_option maxHeartbeats 4000000 in
theorem rone_num (S X : ByteArray) (c : UInt8) (n L : Nat) (w : World) (hS : S.size = L) (h0 : (0 : Int) < (L : Int)) (hn : n ≤ L) (hL : L ≤ 4096) (hg : ∀ h, S[0]'h = c) (hx : S.extract 0 n = X)
    (Lt : ∀ W, Calls Tryz.prog 39 #[.int .u8 (c.toNat : Int)] W fun e w' => e = .returned (.bool false) ∧ W = w')
    (Dg : ∀ W, Calls Tryz.prog 40 #[.int .u8 (c.toNat : Int)] W fun e w' => e = .returned (.bool true) ∧ W = w')
    (Nm : ∀ W, Calls Tryz.prog 73 #[.string S] W fun e w' => e = .returned (.int .i64 (n : Int)) ∧ W = w')
    (vk vn vm E : Int) (vb : ByteArray) (V : ∀ W, Calls Tryz.prog 76 #[.string X] W fun e w' => e = .returned (.tuple #[va vk vn vm vb, .int .i64 E]) ∧ Below W.heap.size W w') :
    Calls Tryz.prog 52 #[.string S] w fun e w' => e = .returned (.tuple #[.agg #[.int .i64 3, .string X, .int .i64 vk, .int .i64 vn, .int .i64 vm, .string vb, .int .i64 0], .bool (E == 0)]) ∧ Below w.heap.size w w' := by
  have j1 : (0 : Int) ≤ (n : Int) := by omega
  have j2 : (n : Int) ≤ (L : Int) := by omega
  have Z0 : Cbox ((w.alloc (.cells Z7 31)).alloc (.cells Z7 31)) w.heap.size Z7 31 := (Cbox.new w _ _).later ((Below.refl _ _).alloc (Nat.le_refl _) _)
  have Z1 : Cbox ((w.alloc (.cells Z7 31)).alloc (.cells Z7 31)) (w.heap.size + 1) Z7 31 := by
    have := Cbox.new (w.alloc (.cells Z7 31)) Z7 31
    rwa [World.size_alloc] at this
  go_enter Tryz.func52, Tryz.ntmps52
  go_wp2_with (first
    | (go_at_call 39; refine (Lt _).mono ?_; rintro e w' ⟨rfl, rfl⟩)
    | (go_at_call 40; refine (Dg _).mono ?_; rintro e w' ⟨rfl, rfl⟩)
    | (go_at_call 73; refine (Nm _).mono ?_; rintro e w' ⟨rfl, rfl⟩)
    | (go_at_call 76; refine (V _).mono ?_; rintro e w1 ⟨rfl, b1⟩; have zz := Z0.later b1; have z0 := zz.at 0; have z1 := zz.at 1; have z2 := zz.at 2; have z3 := zz.at 3; have z4 := zz.at 4; have z5 := zz.at 5; have z6 := zz.at 6; have f0 := zz.free 0; have f1 := zz.free 1; have f2 := zz.free 2; have f3 := zz.free 3; have f4 := zz.free 4; have f5 := zz.free 5; have f6 := zz.free 6; have lt1 := zz.lt; have B1 : Below w.heap.size w w1 := (((Below.refl _ w).alloc (Nat.le_refl _) _).alloc (by simp) _).trans (b1.mono (by simp; omega)); have hs1 := B1.size; clear zz))
  go_region
  all_goals go_wp2
  all_goals refine bodyPost_ret_by (v := .tuple #[.agg #[.int .i64 3, .string X, .int .i64 vk, .int .i64 vn, .int .i64 vm, .string vb, .int .i64 0], .bool (E == 0)]) ?_ rfl ⟨rfl, ?_⟩
  all_goals first
    | (simp [results, Tryz.results52, go_sem, z0, z1, z2, z3, z4, z5, z6, lt1]; done)
    | (repeat (first | with_reducible exact B1 | with_reducible refine bl_set ?_ _ | with_reducible refine Below.drew ?_ | with_reducible refine Below.alloc ?_ (by simp; omega) _ | with_reducible refine bl_set2 ?_ (by omega) _))

set_option maxRecDepth 20000 in
set_option maxHeartbeats 4000000 in
theorem rone_txt (S X : ByteArray) (c : UInt8) (n L : Nat) (w : World) (hS : S.size = L) (h0 : (0 : Int) < (L : Int)) (hn : n ≤ L) (hL : L ≤ 4096) (hg : ∀ h, S[0]'h = c) (hx : S.extract 0 n = X)
    (Lt : ∀ W, Calls Tryz.prog 39 #[.int .u8 (c.toNat : Int)] W fun e w' => e = .returned (.bool false) ∧ W = w')
    (Dg : ∀ W, Calls Tryz.prog 40 #[.int .u8 (c.toNat : Int)] W fun e w' => e = .returned (.bool false) ∧ W = w')
    (h39 : ((c.toNat : Int) == 39) = true) (Qt : ∀ W, Calls Tryz.prog 74 #[.string S] W fun e w' => e = .returned (.int .i64 (n : Int)) ∧ W = w')
    (vk vn vm E : Int) (vb : ByteArray) (V : ∀ W, Calls Tryz.prog 76 #[.string X] W fun e w' => e = .returned (.tuple #[va vk vn vm vb, .int .i64 E]) ∧ Below W.heap.size W w') :
    Calls Tryz.prog 52 #[.string S] w fun e w' => e = .returned (.tuple #[.agg #[.int .i64 3, .string X, .int .i64 vk, .int .i64 vn, .int .i64 vm, .string vb, .int .i64 0], .bool (E == 0)]) ∧ Below w.heap.size w w' := by
  have j1 : (0 : Int) ≤ (n : Int) := by omega
  have j2 : (n : Int) ≤ (L : Int) := by omega
  have Z0 : Cbox ((w.alloc (.cells Z7 31)).alloc (.cells Z7 31)) w.heap.size Z7 31 := (Cbox.new w _ _).later ((Below.refl _ _).alloc (Nat.le_refl _) _)
  have Z1 : Cbox ((w.alloc (.cells Z7 31)).alloc (.cells Z7 31)) (w.heap.size + 1) Z7 31 := by
    have := Cbox.new (w.alloc (.cells Z7 31)) Z7 31
    rwa [World.size_alloc] at this
  go_enter Tryz.func52, Tryz.ntmps52
  go_wp2_with (first
    | (go_at_call 39; refine (Lt _).mono ?_; rintro e w' ⟨rfl, rfl⟩)
    | (go_at_call 40; refine (Dg _).mono ?_; rintro e w' ⟨rfl, rfl⟩)
    | (go_at_call 74; refine (Qt _).mono ?_; rintro e w' ⟨rfl, rfl⟩)
    | (go_at_call 76; refine (V _).mono ?_; rintro e w1 ⟨rfl, b1⟩; have zz := Z0.later b1; have z0 := zz.at 0; have z1 := zz.at 1; have z2 := zz.at 2; have z3 := zz.at 3; have z4 := zz.at 4; have z5 := zz.at 5; have z6 := zz.at 6; have f0 := zz.free 0; have f1 := zz.free 1; have f2 := zz.free 2; have f3 := zz.free 3; have f4 := zz.free 4; have f5 := zz.free 5; have f6 := zz.free 6; have lt1 := zz.lt; have B1 : Below w.heap.size w w1 := (((Below.refl _ w).alloc (Nat.le_refl _) _).alloc (by simp) _).trans (b1.mono (by simp; omega)); have hs1 := B1.size; clear zz))
  go_region
  all_goals go_wp2
  all_goals refine bodyPost_ret_by (v := .tuple #[.agg #[.int .i64 3, .string X, .int .i64 vk, .int .i64 vn, .int .i64 vm, .string vb, .int .i64 0], .bool (E == 0)]) ?_ rfl ⟨rfl, ?_⟩
  all_goals first
    | (simp [results, Tryz.results52, go_sem, z0, z1, z2, z3, z4, z5, z6, lt1]; done)
    | (repeat (first | with_reducible exact B1 | with_reducible refine bl_set ?_ _ | with_reducible refine Below.drew ?_ | with_reducible refine Below.alloc ?_ (by simp; omega) _ | with_reducible refine bl_set2 ?_ (by omega) _))

set_option maxRecDepth 20000 in
set_option maxHeartbeats 4000000 in
theorem rone_sgn (S X : ByteArray) (c : UInt8) (n L : Nat) (w : World) (hS : S.size = L) (h0 : (0 : Int) < (L : Int)) (hn : n ≤ L) (hL : L ≤ 4096) (hg : ∀ h, S[0]'h = c) (hx : S.extract 0 n = X)
    (Lt : ∀ W, Calls Tryz.prog 39 #[.int .u8 (c.toNat : Int)] W fun e w' => e = .returned (.bool false) ∧ W = w')
    (Dg : ∀ W, Calls Tryz.prog 40 #[.int .u8 (c.toNat : Int)] W fun e w' => e = .returned (.bool false) ∧ W = w')
    (h39 : ((c.toNat : Int) == 39) = false) (Sg : ∀ W, Calls Tryz.prog 75 #[.string S] W fun e w' => e = .returned (.int .i64 (n : Int)) ∧ Below W.heap.size W w') :
    Calls Tryz.prog 52 #[.string S] w fun e w' => e = .returned (.tuple #[.agg #[.int .i64 2, .string X, .int .i64 0, .int .i64 0, .int .i64 0, .string ⟨#[]⟩, .int .i64 0], .bool (decide (0 < n))]) ∧ Below w.heap.size w w' := by
  have j1 : (0 : Int) ≤ (n : Int) := by omega
  have j2 : (n : Int) ≤ (L : Int) := by omega
  have Z0 : Cbox ((w.alloc (.cells Z7 31)).alloc (.cells Z7 31)) w.heap.size Z7 31 := (Cbox.new w _ _).later ((Below.refl _ _).alloc (Nat.le_refl _) _)
  have Z1 : Cbox ((w.alloc (.cells Z7 31)).alloc (.cells Z7 31)) (w.heap.size + 1) Z7 31 := by
    have := Cbox.new (w.alloc (.cells Z7 31)) Z7 31
    rwa [World.size_alloc] at this
  go_enter Tryz.func52, Tryz.ntmps52
  go_wp2_with (first
    | (go_at_call 39; refine (Lt _).mono ?_; rintro e w' ⟨rfl, rfl⟩)
    | (go_at_call 40; refine (Dg _).mono ?_; rintro e w' ⟨rfl, rfl⟩)
    | (go_at_call 75; refine (Sg _).mono ?_; rintro e w1 ⟨rfl, b1⟩; have zz := Z0.later b1; have z0 := zz.at 0; have z1 := zz.at 1; have z2 := zz.at 2; have z3 := zz.at 3; have z4 := zz.at 4; have z5 := zz.at 5; have z6 := zz.at 6; have f0 := zz.free 0; have f1 := zz.free 1; have f2 := zz.free 2; have f3 := zz.free 3; have f4 := zz.free 4; have f5 := zz.free 5; have f6 := zz.free 6; have lt1 := zz.lt; have yy := Z1.later b1; have y0 := yy.at 0; have y1 := yy.at 1; have y2 := yy.at 2; have y3 := yy.at 3; have y4 := yy.at 4; have y5 := yy.at 5; have y6 := yy.at 6; have g0 := yy.free 0; have g1 := yy.free 1; have g2 := yy.free 2; have g3 := yy.free 3; have g4 := yy.free 4; have g5 := yy.free 5; have g6 := yy.free 6; have ly1 := yy.lt; clear yy; have B1 : Below w.heap.size w w1 := (((Below.refl _ w).alloc (Nat.le_refl _) _).alloc (by simp) _).trans (b1.mono (by simp; omega)); have hs1 := B1.size; clear zz))
  all_goals go_wp2
  all_goals refine bodyPost_ret_by (v := .tuple #[.agg #[.int .i64 2, .string X, .int .i64 0, .int .i64 0, .int .i64 0, .string ⟨#[]⟩, .int .i64 0], .bool (decide (0 < n))]) ?_ rfl ⟨rfl, ?_⟩
  all_goals first
    | (simp [results, Tryz.results52, go_sem, z0, z1, z2, z3, z4, z5, z6]; done)
    | (repeat (first | with_reducible exact B1 | with_reducible refine bl_set ?_ _ | with_reducible refine Below.drew ?_ | with_reducible refine Below.alloc ?_ (by simp; omega) _ | with_reducible refine bl_set2 ?_ (by omega) _))

set_option maxRecDepth 20000 in
set_option maxHeartbeats 4000000 in
theorem rone_wrd (l : List UInt8) (S X : ByteArray) (c : UInt8) (n L : Nat) (w : World) (hS : S.size = L) (h0 : (0 : Int) < (L : Int)) (hn : n ≤ L) (hL : L ≤ 4096) (hg : ∀ h, S[0]'h = c) (hx : S.extract 0 n = X) (HG : Hid (∀ (k : Nat) h, S[k]'h = bat l k)) (HL : Hid (l.length = L)) (HN : Hid (n = 0 + wordN (l.drop 0)))
    (Lt : ∀ W, Calls Tryz.prog 39 #[.int .u8 (c.toNat : Int)] W fun e w' => e = .returned (.bool true) ∧ W = w')
    (LL : ∀ c, ∀ W, Calls Tryz.prog 39 #[.int .u8 (c.toNat : Int)] W fun e w' => e = .returned (.bool (isL c)) ∧ W = w')
    (DD : ∀ c, ∀ W, Calls Tryz.prog 40 #[.int .u8 (c.toNat : Int)] W fun e w' => e = .returned (.bool (isD c)) ∧ W = w')
    (b : Bool) (Wd : ∀ W, Calls Tryz.prog 15 #[.string X] W fun e w' => e = .returned (.bool b) ∧ W = w') :
    Calls Tryz.prog 52 #[.string S] w fun e w' => e = .returned (.tuple #[.agg #[.int .i64 1, .string X, .int .i64 0, .int .i64 0, .int .i64 0, .string ⟨#[]⟩, .int .i64 0], .bool b]) ∧ Below w.heap.size w w' := by
  have j1 : (0 : Int) ≤ (n : Int) := by omega
  have j2 : (n : Int) ≤ (L : Int) := by omega
  have Z0 : Cbox ((w.alloc (.cells Z7 31)).alloc (.cells Z7 31)) w.heap.size Z7 31 := (Cbox.new w _ _).later ((Below.refl _ _).alloc (Nat.le_refl _) _)
  have Z1 : Cbox ((w.alloc (.cells Z7 31)).alloc (.cells Z7 31)) (w.heap.size + 1) Z7 31 := by
    have := Cbox.new (w.alloc (.cells Z7 31)) Z7 31
    rwa [World.size_alloc] at this
  go_enter Tryz.func52, Tryz.ntmps52
  go_wp2_with (go_at_call 39; refine (Lt _).mono ?_; rintro e w' ⟨rfl, rfl⟩)
  clear Lt
  go_loopw [4] (fun r4 wr => ∃ k : Nat, r4 = .int .i64 (k : Int) ∧ k ≤ L ∧ wr = ((w.alloc (.cells Z7 31)).alloc (.cells Z7 31)) ∧ Hid (n = k + wordN (l.drop k))) (fun r _ => L - (intOf r).toNat)
  case atStart => exact ⟨0, rfl, Nat.zero_le _, rfl, HN⟩
  case round =>
    obtain ⟨k, rfl, hk, rfl, hH⟩ := hrel
    by_cases hlt : k < L
    · have hlt' : (k : Int) < (L : Int) := by omega
      have i0 : (0 : Int) ≤ (k : Int) := by omega
      have hgk := HG.out k
      have hw := wordN_bat l k
      obtain ⟨d, hd⟩ : ∃ d, d = bat l k := ⟨_, rfl⟩
      rw [← hd] at hgk hw
      have Lk := LL d
      have Dk := DD d
      clear HG LL DD hd HN
      cases hdl : isL d with
      | true =>
        rw [hdl] at Lk
        have hH' : Hid (n = (k + 1) + wordN (l.drop (k + 1))) := by
          show n = _
          rw [hH.out, hw, if_pos (by simp [isW, hdl])]; omega
        clear hH hw hdl
        go_wp2_with (first
          | (go_at_call 39; refine (Lk _).mono ?_; rintro e w' ⟨rfl, rfl⟩)
          | (go_at_call 40; refine (Dk _).mono ?_; rintro e w' ⟨rfl, rfl⟩))
        exact ⟨⟨k + 1, by rw [cast1], by omega, by first | trivial | rfl, hH'⟩, by simp [intOf] <;> omega⟩
      | false =>
        rw [hdl] at Lk
        cases hdd : isD d with
        | true =>
          rw [hdd] at Dk
          have hH' : Hid (n = (k + 1) + wordN (l.drop (k + 1))) := by
            show n = _
            rw [hH.out, hw, if_pos (by simp [isW, hdd])]; omega
          clear hH hw hdl hdd
          go_wp2_with (first
            | (go_at_call 39; refine (Lk _).mono ?_; rintro e w' ⟨rfl, rfl⟩)
            | (go_at_call 40; refine (Dk _).mono ?_; rintro e w' ⟨rfl, rfl⟩))
          exact ⟨⟨k + 1, by rw [cast1], by omega, by first | trivial | rfl, hH'⟩, by simp [intOf] <;> omega⟩
        | false =>
          rw [hdd] at Dk
          have hH' : n = k := by rw [hH.out, hw, if_neg (by simp [isW, hdl, hdd])]; rfl
          clear hH hw hdl hdd
          subst hH'
          go_wp2_with (first
            | (go_at_call 39; refine (Lk _).mono ?_; rintro e w' ⟨rfl, rfl⟩)
            | (go_at_call 40; refine (Dk _).mono ?_; rintro e w' ⟨rfl, rfl⟩))
          go_region_with (go_at_call 15; refine (Wd _).mono ?_; rintro e w' ⟨rfl, rfl⟩)
          all_goals go_wp2
          all_goals refine bodyPost_ret_by (v := .tuple #[.agg #[.int .i64 1, .string X, .int .i64 0, .int .i64 0, .int .i64 0, .string ⟨#[]⟩, .int .i64 0], .bool b]) ?_ rfl ⟨rfl, ?_⟩
          all_goals first
            | (simp [results, Tryz.results52, go_sem]; done)
            | (repeat (first | with_reducible exact Below.refl _ _ | with_reducible refine bl_set ?_ _ | with_reducible refine Below.drew ?_ | with_reducible refine Below.alloc ?_ (by simp) _ | with_reducible refine bl_set2 ?_ (by omega) _))
    · have hlt' : ¬ (k : Int) < (L : Int) := by omega
      have hH' : n = k := by
        rw [hH.out, List.drop_eq_nil_of_le (by have := HL.out; omega)]; rfl
      clear hH HG LL DD HN
      subst hH'
      go_wp2
      go_region_with (go_at_call 15; refine (Wd _).mono ?_; rintro e w' ⟨rfl, rfl⟩)
      all_goals go_wp2
      all_goals refine bodyPost_ret_by (v := .tuple #[.agg #[.int .i64 1, .string X, .int .i64 0, .int .i64 0, .int .i64 0, .string ⟨#[]⟩, .int .i64 0], .bool b]) ?_ rfl ⟨rfl, ?_⟩
      all_goals first
        | (simp [results, Tryz.results52, go_sem]; done)
        | (repeat (first | with_reducible exact Below.refl _ _ | with_reducible refine bl_set ?_ _ | with_reducible refine Below.drew ?_ | with_reducible refine Below.alloc ?_ (by simp) _ | with_reducible refine bl_set2 ?_ (by omega) _))
end Go.Proofs.YtoadhfcjegfanaaGreatDoor
