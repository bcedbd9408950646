/-
  The reader of expressions: columnOrCall, unit, and all parts of the grammar together.
-/
import Derived.Test.YtclhmmgdhagloaaGreatDoorEArg
namespace Go.Proofs.YtclhmmgdhagloaaGreatDoor
open Go.RowKit Go.Shelf
attribute [local go_sem] cell?_more frozen?_more setCell_more more_lt more_more more_drew more_drewN setCell_drewN alloc_drewN

theorem name_yes (w0 : World) (ao : Option Addr) (ts : List Ti) (cap p k o : Nat) (nv : Value) (acc : List Nd) (w : World) (E : Env w0 ao ts) (S : Stt w0 ao ts cap p w k nv acc o) (h : nmT (nxt ts k) = true) :
    Calls Tryz.prog 339 #[.pointer (some ⟨p, 0, none⟩)] w fun e w' => e = .returned (.tuple #[.string ⟨(nxt ts k).t.toArray⟩, .bool true]) ∧ Stt w0 ao ts cap p w' (k + 1) nv acc o ∧ Goes p w w' nv nv := by
  have := tookName_any w0 p ao ts cap k o nv acc w E S
  rw [h] at this
  simp only [↓reduceIte] at this
  exact this.mono fun e w' ⟨h1, h2, h3⟩ => ⟨h1, h2, Goes.of_fr h3 nv⟩
theorem name_no (w0 : World) (ao : Option Addr) (ts : List Ti) (cap p k o : Nat) (nv : Value) (acc : List Nd) (w : World) (E : Env w0 ao ts) (S : Stt w0 ao ts cap p w k nv acc o) (h : nmT (nxt ts k) = false) :
    Calls Tryz.prog 339 #[.pointer (some ⟨p, 0, none⟩)] w fun e w' => e = .returned (.tuple #[.string ⟨#[]⟩, .bool false]) ∧ Stt w0 ao ts cap p w' k nv acc o ∧ Goes p w w' nv nv := by
  have := tookName_any w0 p ao ts cap k o nv acc w E S
  rw [h] at this
  simp only [Bool.false_eq_true, ↓reduceIte] at this
  exact this.mono fun e w' ⟨h1, h2, h3⟩ => ⟨h1, h2, Goes.of_fr h3 nv⟩

set_option maxRecDepth 20000 in
set_option maxHeartbeats 4000000 in
theorem col_any (w0 : World) (ao : Option Addr) (ts : List Ti) (cap p o k : Nat) (E : Env w0 ao ts) (part : Nat → List Nd → Rz) (acc : List Nd) (nv : Value) (w : World) (S : Stt w0 ao ts cap p w k nv acc o)
    (H : o < 64 → ∀ k' acc nv w, Stt w0 ao ts cap p w k' nv acc (o + 1) → k + 2 ≤ k' → Does w0 ao ts cap p 74 (o + 1) k' acc nv w (part k' acc)) :
    Does w0 ao ts cap p 330 o k acc nv w (colF (nxt ts) part k acc o) := by
  unfold colF
  cases h1 : nmT (nxt ts k) with
  | false =>
    simp only [Bool.false_eq_true, ↓reduceIte]
    have T := name_no w0 ao ts cap p k o nv acc w E S h1
    clear S E H h1
    unfold Does
    simp only
    go_enter Tryz.func330, Tryz.ntmps330
    go_wp2_with (go_at_call 339; refine T.mono ?_; rintro e w1 ⟨rfl, S1, g1⟩)
    go_ret
    exact ⟨rfl, ⟨nv, S1, g1⟩, Nat.le_refl _⟩
  | true =>
    simp only [↓reduceIte]
    have T := name_yes w0 ao ts cap p k o nv acc w E S h1
    cases h2 : ((nxt ts (k + 1)).t == [40]) with
    | true =>
      simp only [↓reduceIte]
      have T2 : Hid (∀ W, Stt w0 ao ts cap p W (k + 1) nv acc o → _) := fun W hS => took_yes w0 ao ts cap p (k + 1) o nv acc [40] W E (by decide) hS h2
      have CA : Hid (∀ W, Stt w0 ao ts cap p W (k + 2) nv acc o → _) := fun W hS => call_any w0 ao ts cap p o (k + 2) E part (nxt ts k).t acc nv W hS H
      generalize (if o = 64 then (38, k + 2, putN acc ⟨19, [], (nxt ts k).t, vz0, 0⟩) else ((argsF (nxt ts) part (k + 2) acc).1.1, (argsF (nxt ts) part (k + 2) acc).1.2.1, putN (argsF (nxt ts) part (k + 2) acc).1.2.2 ⟨19, [], (nxt ts k).t, vz0, ((argsF (nxt ts) part (k + 2) acc).2 : Int)⟩) : Rz) = R at CA ⊢
      obtain ⟨re, rk, rc⟩ := R
      simp only at CA
      clear S E H h1 h2
      generalize (nxt ts k).t = nm at *
      unfold Does
      simp only
      go_enter Tryz.func330, Tryz.ntmps330
      go_wp2_with fail
      refine T.mono ?_
      rintro e w1 ⟨rfl, S1, g1⟩
      have T3 := T2.out w1 S1
      go_wp2_with fail
      refine T3.mono ?_
      rintro e w2 ⟨rfl, S2, g2⟩
      have C3 := CA.out w2 S2
      go_wp2_with fail
      refine C3.mono ?_
      rintro e w3 ⟨rfl, ⟨n3, S3, g3⟩, hk3⟩
      go_wp2
      go_ret
      exact ⟨rfl, ⟨n3, S3, (g1.trans g2).trans g3⟩, by omega⟩
    | false =>
      simp only [Bool.false_eq_true, ↓reduceIte]
      have T2 : Hid (∀ W, Stt w0 ao ts cap p W (k + 1) nv acc o → _) := fun W hS => took_no w0 ao ts cap p (k + 1) o nv acc [40] W E (by decide) hS h2
      cases h3 : ((nxt ts (k + 1)).t == [46]) with
      | false =>
        simp only [Bool.false_eq_true, ↓reduceIte]
        have T3 : Hid (∀ W, Stt w0 ao ts cap p W (k + 1) nv acc o → _) := fun W hS => took_no w0 ao ts cap p (k + 1) o nv acc [46] W E (by decide) hS h3
        clear S E H h1 h2 h3
        generalize (nxt ts k).t = nm at *
        unfold Does
        simp only
        go_enter Tryz.func330, Tryz.ntmps330
        go_wp2_with fail
        refine T.mono ?_
        rintro e w1 ⟨rfl, S1, g1⟩
        have T4 := T2.out w1 S1
        go_wp2_with fail
        refine T4.mono ?_
        rintro e w2 ⟨rfl, S2, g2⟩
        have S3 := S2.alloc (.cells (ncs ⟨2, [], nm, vz0, 0⟩) 44)
        have G3 := (Goes.refl p w2 nv).alloc (.cells (ncs ⟨2, [], nm, vz0, 0⟩) 44)
        have T5 := T3.out _ S3
        go_wp2_with fail
        refine T5.mono ?_
        rintro e w3 ⟨rfl, S4, g4⟩
        have hl2 := S2.rb.lt
        have hrl := S2.row_lt
        have B3 := g4.box (Cbox.new w2 (ncs ⟨2, [], nm, vz0, 0⟩) 44) (by omega) (fun g h => by have := hrl g h; omega)
        have z0 := B3.at 0
        have z1 := B3.at 1
        have z2 := B3.at 2
        have z3 := B3.at 3
        have z4 := B3.at 4
        have z5 := B3.at 5
        have z6 := B3.at 6
        have z7 := B3.at 7
        have hlb := B3.lt
        have PU : Calls Tryz.prog 198 #[.pointer (some ⟨p, 0, none⟩), .agg #[.int .i64 2, .string ⟨#[]⟩, .string ⟨nm.toArray⟩, .int .i64 0, .int .i64 0, .int .i64 0, .string ⟨#[]⟩, .int .i64 0]] w3 fun e w' => e = .returned (.tuple #[]) ∧ ∃ nv', Stt w0 ao ts cap p w' (k + 1) nv' (putN acc ⟨2, [], nm, vz0, 0⟩) o ∧ Goes p w3 w' nv nv' := put_any w0 p ao ts cap (k + 1) o nv acc ⟨2, [], nm, vz0, 0⟩ w3 S4
        have GG := ((g1.trans g2).trans G3).trans g4
        clear B3 S4 S3 S2 S1 T5 T4 g4 G3 g1 g2
        go_wp2_with fail
        refine PU.mono ?_
        rintro e w4 ⟨rfl, n4, S5, g5⟩
        go_wp2
        go_ret
        exact ⟨rfl, ⟨n4, S5, GG.trans g5⟩, by omega⟩
      | true =>
        simp only [↓reduceIte]
        have T3 : Hid (∀ W, Stt w0 ao ts cap p W (k + 1) nv acc o → _) := fun W hS => took_yes w0 ao ts cap p (k + 1) o nv acc [46] W E (by decide) hS h3
        cases h4 : nmT (nxt ts (k + 2)) with
        | true =>
          simp only [↓reduceIte]
          have TN : Hid (∀ W, Stt w0 ao ts cap p W (k + 2) nv acc o → _) := fun W hS => name_yes w0 ao ts cap p (k + 2) o nv acc W E hS h4
          clear S E H h1 h2 h3 h4
          generalize (nxt ts k).t = nm at *
          generalize (nxt ts (k + 2)).t = cn at *
          unfold Does
          simp only
          go_enter Tryz.func330, Tryz.ntmps330
          go_wp2_with fail
          refine T.mono ?_
          rintro e w1 ⟨rfl, S1, g1⟩
          have T4 := T2.out w1 S1
          go_wp2_with fail
          refine T4.mono ?_
          rintro e w2 ⟨rfl, S2, g2⟩
          have S3 := S2.alloc (.cells (ncs ⟨2, [], nm, vz0, 0⟩) 44)
          have G3 := (Goes.refl p w2 nv).alloc (.cells (ncs ⟨2, [], nm, vz0, 0⟩) 44)
          have T5 := T3.out _ S3
          go_wp2_with fail
          refine T5.mono ?_
          rintro e w3 ⟨rfl, S4, g4⟩
          have hl2 := S2.rb.lt
          have hrl := S2.row_lt
          have hlo := S2.low.size
          have hbp : w2.heap.size ≠ p := by omega
          have hbr : ∀ g, nv.ownBlock = some g → g ≠ w2.heap.size := fun g h => by have := hrl g h; omega
          have hb0 : w0.heap.size ≤ w2.heap.size := hlo
          have hwb : w.heap.size ≤ w2.heap.size := (g1.trans g2).1.size
          have B3 := g4.box (Cbox.new w2 (ncs ⟨2, [], nm, vz0, 0⟩) 44) hbp hbr
          have y1 := B3.at 1
          have f1 := B3.free 1
          have hlb := B3.lt
          have B5 : Cbox (w3.setCell ⟨w2.heap.size, 1, none⟩ (.string ⟨nm.toArray⟩)) w2.heap.size (ncs ⟨2, nm, nm, vz0, 0⟩) 44 := by
            have := B3.set 1 (.string ⟨nm.toArray⟩)
            simp only [List.setIfInBounds_toArray, List.set_cons_zero, List.set_cons_succ] at this
            exact this
          have S5 := S4.setq w2.heap.size 1 (.string ⟨nm.toArray⟩) hb0 hbp hbr
          have GG := ((((g1.trans g2).trans G3).trans g4)).setq (j := 1) (v := .string ⟨nm.toArray⟩) hwb
          clear B3 S4 S3 S2 S1 T5 T4 g4 G3 g1 g2
          have TN5 := TN.out _ S5
          go_wp2_with fail
          refine TN5.mono ?_
          rintro e w4 ⟨rfl, S6, g6⟩
          have B6 := g6.box B5 hbp hbr
          have x0 := B6.at 0
          have x1 := B6.at 1
          have x2 := B6.at 2
          have x3 := B6.at 3
          have x4 := B6.at 4
          have x5 := B6.at 5
          have x6 := B6.at 6
          have x7 := B6.at 7
          have q2 := B6.free 2
          have hlb6 := B6.lt
          have S7 := S6.setq w2.heap.size 2 (.string ⟨cn.toArray⟩) hb0 hbp hbr
          have G7 := (GG.trans g6).setq (j := 2) (v := .string ⟨cn.toArray⟩) hwb
          have PU : Calls Tryz.prog 198 #[.pointer (some ⟨p, 0, none⟩), .agg #[.int .i64 2, .string ⟨nm.toArray⟩, .string ⟨cn.toArray⟩, .int .i64 0, .int .i64 0, .int .i64 0, .string ⟨#[]⟩, .int .i64 0]] (w4.setCell ⟨w2.heap.size, 2, none⟩ (.string ⟨cn.toArray⟩)) fun e w' => e = .returned (.tuple #[]) ∧ ∃ nv', Stt w0 ao ts cap p w' (k + 3) nv' (putN acc ⟨2, nm, cn, vz0, 0⟩) o ∧ Goes p (w4.setCell ⟨w2.heap.size, 2, none⟩ (.string ⟨cn.toArray⟩)) w' nv nv' := put_any w0 p ao ts cap (k + 3) o nv acc ⟨2, nm, cn, vz0, 0⟩ _ S7
          clear B6 B5 S7 S6 S5 TN5 GG g6
          go_wp2_with fail
          refine PU.mono ?_
          rintro e w5 ⟨rfl, n5, S8, g8⟩
          go_wp2
          go_ret
          exact ⟨rfl, ⟨n5, S8, G7.trans g8⟩, by omega⟩
        | false =>
          simp only [Bool.false_eq_true, ↓reduceIte]
          have TN : Hid (∀ W, Stt w0 ao ts cap p W (k + 2) nv acc o → _) := fun W hS => name_no w0 ao ts cap p (k + 2) o nv acc W E hS h4
          clear S E H h1 h2 h3 h4
          generalize (nxt ts k).t = nm at *
          unfold Does
          simp only
          go_enter Tryz.func330, Tryz.ntmps330
          go_wp2_with fail
          refine T.mono ?_
          rintro e w1 ⟨rfl, S1, g1⟩
          have T4 := T2.out w1 S1
          go_wp2_with fail
          refine T4.mono ?_
          rintro e w2 ⟨rfl, S2, g2⟩
          have S3 := S2.alloc (.cells (ncs ⟨2, [], nm, vz0, 0⟩) 44)
          have G3 := (Goes.refl p w2 nv).alloc (.cells (ncs ⟨2, [], nm, vz0, 0⟩) 44)
          have T5 := T3.out _ S3
          go_wp2_with fail
          refine T5.mono ?_
          rintro e w3 ⟨rfl, S4, g4⟩
          have hl2 := S2.rb.lt
          have hrl := S2.row_lt
          have hlo := S2.low.size
          have hbp : w2.heap.size ≠ p := by omega
          have hbr : ∀ g, nv.ownBlock = some g → g ≠ w2.heap.size := fun g h => by have := hrl g h; omega
          have hb0 : w0.heap.size ≤ w2.heap.size := hlo
          have hwb : w.heap.size ≤ w2.heap.size := (g1.trans g2).1.size
          have B3 := g4.box (Cbox.new w2 (ncs ⟨2, [], nm, vz0, 0⟩) 44) hbp hbr
          have y1 := B3.at 1
          have f1 := B3.free 1
          have hlb := B3.lt
          have B5 : Cbox (w3.setCell ⟨w2.heap.size, 1, none⟩ (.string ⟨nm.toArray⟩)) w2.heap.size (ncs ⟨2, nm, nm, vz0, 0⟩) 44 := by
            have := B3.set 1 (.string ⟨nm.toArray⟩)
            simp only [List.setIfInBounds_toArray, List.set_cons_zero, List.set_cons_succ] at this
            exact this
          have S5 := S4.setq w2.heap.size 1 (.string ⟨nm.toArray⟩) hb0 hbp hbr
          have GG := ((((g1.trans g2).trans G3).trans g4)).setq (j := 1) (v := .string ⟨nm.toArray⟩) hwb
          clear B3 S4 S3 S2 S1 T5 T4 g4 G3 g1 g2
          have TN5 := TN.out _ S5
          go_wp2_with fail
          refine TN5.mono ?_
          rintro e w4 ⟨rfl, S6, g6⟩
          have B6 := g6.box B5 hbp hbr
          have x0 := B6.at 0
          have x1 := B6.at 1
          have x2 := B6.at 2
          have x3 := B6.at 3
          have x4 := B6.at 4
          have x5 := B6.at 5
          have x6 := B6.at 6
          have x7 := B6.at 7
          have q2 := B6.free 2
          have hlb6 := B6.lt
          have S7 := S6.setq w2.heap.size 2 (.string ⟨#[]⟩) hb0 hbp hbr
          have G7 := (GG.trans g6).setq (j := 2) (v := .string ⟨#[]⟩) hwb
          clear B6 B5 S6 S5 TN5 GG g6
          go_wp2
          go_ret
          exact ⟨rfl, ⟨nv, S7, G7⟩, by omega⟩
end Go.Proofs.YtclhmmgdhagloaaGreatDoor
