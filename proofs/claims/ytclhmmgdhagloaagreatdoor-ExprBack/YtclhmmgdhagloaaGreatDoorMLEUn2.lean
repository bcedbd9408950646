/-
  The reader of expressions: columnOrCall, unit, and all parts of the grammar together.
  The reader of expressions: unit, and all parts of the grammar together, by induction on what is left to read.
-/
import Derived.Test.YtclhmmgdhagloaaGreatDoorEArg
import Derived.Test.YtclhmmgdhagloaaGreatDoorMwLByte
namespace Go.Proofs.YtclhmmgdhagloaaGreatDoor
open Go.RowKit Go.Shelf
attribute [local go_sem] cell?_more frozen?_more setCell_more more_lt more_more more_drew more_drewN setCell_drewN alloc_drewN

theorem name_yes (w0 : World) (ao : Option Addr) (ts : List Ti) (cap p k o : Nat) (nv : Value) (acc : List Nd) (w : World) (E : Env w0 ao ts) (S : Stt w0 ao ts cap p w k nv acc o) (h : nmT (nxt ts k) = true) :
    Calls Tryz.prog 339 #[.pointer (some ⟨p, 0, none⟩)] w fun e w' => e = .returned (.tuple #[.string ⟨(nxt ts k).t.toArray⟩, .bool true]) ∧ Stt w0 ao ts cap p w' (k + 1) nv acc o ∧ Goes p w w' nv nv := by
  have := tookName_any w0 p ao ts cap k o nv acc w E S
  rw [h] at this
  simp only [↓reduceIte] at this
  exact this.mono fun e w' ⟨h1, h2, h3⟩ => ⟨h1, h2, Goes.of_fr h3 nv⟩
theorem name_no (w0 : World) (ao : Option Addr) (ts : List Ti) (cap p k o : Nat) (nv : Value) (acc : List Nd) (w : World) (E : Env w0 ao ts) (S : Stt w0 ao ts cap p w k nv acc o) (h : nmT (nxt ts k) = false) :
    Calls Tryz.prog 339 #[.pointer (some ⟨p, 0, none⟩)] w fun e w' => e = .returned (.tuple #[.string ⟨#[]⟩, .bool false]) ∧ Stt w0 ao ts cap p w' k nv acc o ∧ Goes p w w' nv nv := by
  have := tookName_any w0 p ao ts cap k o nv acc w E S
  rw [h] at this
  simp only [Bool.false_eq_true, ↓reduceIte] at this
  exact this.mono fun e w' ⟨h1, h2, h3⟩ => ⟨h1, h2, Goes.of_fr h3 nv⟩

set_option maxRecDepth 20000 in
set_option maxHeartbeats 4000000 in
theorem col_any (w0 : World) (ao : Option Addr) (ts : List Ti) (cap p o k : Nat) (E : Env w0 ao ts) (part : Nat → List Nd → Rz) (acc : List Nd) (nv : Value) (w : World) (S : Stt w0 ao ts cap p w k nv acc o)
    (H : o < 64 → ∀ k' acc nv w, Stt w0 ao ts cap p w k' nv acc (o + 1) → k + 2 ≤ k' → Does w0 ao ts cap p 74 (o + 1) k' acc nv w (part k' acc)) :
    Does w0 ao ts cap p 330 o k acc nv w (colF (nxt ts) part k acc o) := by
  unfold colF
  cases h1 : nmT (nxt ts k) with
  | false =>
    simp only [Bool.false_eq_true, ↓reduceIte]
    have T := name_no w0 ao ts cap p k o nv acc w E S h1
    clear S E H h1
    unfold Does
    simp only
    go_enter Tryz.func330, Tryz.ntmps330
    go_wp2_with (go_at_call 339; refine T.mono ?_; rintro e w1 ⟨rfl, S1, g1⟩)
    go_ret
    exact ⟨rfl, ⟨nv, S1, g1⟩, Nat.le_refl _⟩
  | true =>
    simp only [↓reduceIte]
    have T := name_yes w0 ao ts cap p k o nv acc w E S h1
    cases h2 : ((nxt ts (k + 1)).t == [40]) with
    | true =>
      simp only [↓reduceIte]
      have T2 : Hid (∀ W, Stt w0 ao ts cap p W (k + 1) nv acc o → _) := fun W hS => took_yes w0 ao ts cap p (k + 1) o nv acc [40] W E (by decide) hS h2
      have CA : Hid (∀ W, Stt w0 ao ts cap p W (k + 2) nv acc o → _) := fun W hS => call_any w0 ao ts cap p o (k + 2) E part (nxt ts k).t acc nv W hS H
      generalize (if o = 64 then (38, k + 2, putN acc ⟨19, [], (nxt ts k).t, vz0, 0⟩) else ((argsF (nxt ts) part (k + 2) acc).1.1, (argsF (nxt ts) part (k + 2) acc).1.2.1, putN (argsF (nxt ts) part (k + 2) acc).1.2.2 ⟨19, [], (nxt ts k).t, vz0, ((argsF (nxt ts) part (k + 2) acc).2 : Int)⟩) : Rz) = R at CA ⊢
      obtain ⟨re, rk, rc⟩ := R
      simp only at CA
      clear S E H h1 h2
      generalize (nxt ts k).t = nm at *
      unfold Does
      simp only
      go_enter Tryz.func330, Tryz.ntmps330
      go_wp2_with fail
      refine T.mono ?_
      rintro e w1 ⟨rfl, S1, g1⟩
      have T3 := T2.out w1 S1
      go_wp2_with fail
      refine T3.mono ?_
      rintro e w2 ⟨rfl, S2, g2⟩
      have C3 := CA.out w2 S2
      go_wp2_with fail
      refine C3.mono ?_
      rintro e w3 ⟨rfl, ⟨n3, S3, g3⟩, hk3⟩
      go_wp2
      go_ret
      exact ⟨rfl, ⟨n3, S3, (g1.trans g2).trans g3⟩, by omega⟩
    | false =>
      simp only [Bool.false_eq_true, ↓reduceIte]
      have T2 : Hid (∀ W, Stt w0 ao ts cap p W (k + 1) nv acc o → _) := fun W hS => took_no w0 ao ts cap p (k + 1) o nv acc [40] W E (by decide) hS h2
      cases h3 : ((nxt ts (k + 1)).t == [46]) with
      | false =>
        simp only [Bool.false_eq_true, ↓reduceIte]
        have T3 : Hid (∀ W, Stt w0 ao ts cap p W (k + 1) nv acc o → _) := fun W hS => took_no w0 ao ts cap p (k + 1) o nv acc [46] W E (by decide) hS h3
        clear S E H h1 h2 h3
        generalize (nxt ts k).t = nm at *
        unfold Does
        simp only
        go_enter Tryz.func330, Tryz.ntmps330
        go_wp2_with fail
        refine T.mono ?_
        rintro e w1 ⟨rfl, S1, g1⟩
        have T4 := T2.out w1 S1
        go_wp2_with fail
        refine T4.mono ?_
        rintro e w2 ⟨rfl, S2, g2⟩
        have S3 := S2.alloc (.cells (ncs ⟨2, [], nm, vz0, 0⟩) 44)
        have G3 := (Goes.refl p w2 nv).alloc (.cells (ncs ⟨2, [], nm, vz0, 0⟩) 44)
        have T5 := T3.out _ S3
        go_wp2_with fail
        refine T5.mono ?_
        rintro e w3 ⟨rfl, S4, g4⟩
        have hl2 := S2.rb.lt
        have hrl := S2.row_lt
        have B3 := g4.box (Cbox.new w2 (ncs ⟨2, [], nm, vz0, 0⟩) 44) (by omega) (fun g h => by have := hrl g h; omega)
        have z0 := B3.at 0
        have z1 := B3.at 1
        have z2 := B3.at 2
        have z3 := B3.at 3
        have z4 := B3.at 4
        have z5 := B3.at 5
        have z6 := B3.at 6
        have z7 := B3.at 7
        have hlb := B3.lt
        have PU : Calls Tryz.prog 198 #[.pointer (some ⟨p, 0, none⟩), .agg #[.int .i64 2, .string ⟨#[]⟩, .string ⟨nm.toArray⟩, .int .i64 0, .int .i64 0, .int .i64 0, .string ⟨#[]⟩, .int .i64 0]] w3 fun e w' => e = .returned (.tuple #[]) ∧ ∃ nv', Stt w0 ao ts cap p w' (k + 1) nv' (putN acc ⟨2, [], nm, vz0, 0⟩) o ∧ Goes p w3 w' nv nv' := put_any w0 p ao ts cap (k + 1) o nv acc ⟨2, [], nm, vz0, 0⟩ w3 S4
        have GG := ((g1.trans g2).trans G3).trans g4
        clear B3 S4 S3 S2 S1 T5 T4 g4 G3 g1 g2
        go_wp2_with fail
        refine PU.mono ?_
        rintro e w4 ⟨rfl, n4, S5, g5⟩
        go_wp2
        go_ret
        exact ⟨rfl, ⟨n4, S5, GG.trans g5⟩, by omega⟩
      | true =>
        simp only [↓reduceIte]
        have T3 : Hid (∀ W, Stt w0 ao ts cap p W (k + 1) nv acc o → _) := fun W hS => took_yes w0 ao ts cap p (k + 1) o nv acc [46] W E (by decide) hS h3
        cases h4 : nmT (nxt ts (k + 2)) with
        | true =>
          simp only [↓reduceIte]
          have TN : Hid (∀ W, Stt w0 ao ts cap p W (k + 2) nv acc o → _) := fun W hS => name_yes w0 ao ts cap p (k + 2) o nv acc W E hS h4
          clear S E H h1 h2 h3 h4
          generalize (nxt ts k).t = nm at *
          generalize (nxt ts (k + 2)).t = cn at *
          unfold Does
          simp only
          go_enter Tryz.func330, Tryz.ntmps330
          go_wp2_with fail
          refine T.mono ?_
          rintro e w1 ⟨rfl, S1, g1⟩
          have T4 := T2.out w1 S1
          go_wp2_with fail
          refine T4.mono ?_
          rintro e w2 ⟨rfl, S2, g2⟩
          have S3 := S2.alloc (.cells (ncs ⟨2, [], nm, vz0, 0⟩) 44)
          have G3 := (Goes.refl p w2 nv).alloc (.cells (ncs ⟨2, [], nm, vz0, 0⟩) 44)
          have T5 := T3.out _ S3
          go_wp2_with fail
          refine T5.mono ?_
          rintro e w3 ⟨rfl, S4, g4⟩
          have hl2 := S2.rb.lt
          have hrl := S2.row_lt
          have hlo := S2.low.size
          have hbp : w2.heap.size ≠ p := by omega
          have hbr : ∀ g, nv.ownBlock = some g → g ≠ w2.heap.size := fun g h => by have := hrl g h; omega
          have hb0 : w0.heap.size ≤ w2.heap.size := hlo
          have hwb : w.heap.size ≤ w2.heap.size := (g1.trans g2).1.size
          have B3 := g4.box (Cbox.new w2 (ncs ⟨2, [], nm, vz0, 0⟩) 44) hbp hbr
          have y1 := B3.at 1
          have f1 := B3.free 1
          have hlb := B3.lt
          have B5 : Cbox (w3.setCell ⟨w2.heap.size, 1, none⟩ (.string ⟨nm.toArray⟩)) w2.heap.size (ncs ⟨2, nm, nm, vz0, 0⟩) 44 := by
            have := B3.set 1 (.string ⟨nm.toArray⟩)
            simp only [List.setIfInBounds_toArray, List.set_cons_zero, List.set_cons_succ] at this
            exact this
          have S5 := S4.setq w2.heap.size 1 (.string ⟨nm.toArray⟩) hb0 hbp hbr
          have GG := ((((g1.trans g2).trans G3).trans g4)).setq (j := 1) (v := .string ⟨nm.toArray⟩) hwb
          clear B3 S4 S3 S2 S1 T5 T4 g4 G3 g1 g2
          have TN5 := TN.out _ S5
          go_wp2_with fail
          refine TN5.mono ?_
          rintro e w4 ⟨rfl, S6, g6⟩
          have B6 := g6.box B5 hbp hbr
          have x0 := B6.at 0
          have x1 := B6.at 1
          have x2 := B6.at 2
          have x3 := B6.at 3
          have x4 := B6.at 4
          have x5 := B6.at 5
          have x6 := B6.at 6
          have x7 := B6.at 7
          have q2 := B6.free 2
          have hlb6 := B6.lt
          have S7 := S6.setq w2.heap.size 2 (.string ⟨cn.toArray⟩) hb0 hbp hbr
          have G7 := (GG.trans g6).setq (j := 2) (v := .string ⟨cn.toArray⟩) hwb
          have PU : Calls Tryz.prog 198 #[.pointer (some ⟨p, 0, none⟩), .agg #[.int .i64 2, .string ⟨nm.toArray⟩, .string ⟨cn.toArray⟩, .int .i64 0, .int .i64 0, .int .i64 0, .string ⟨#[]⟩, .int .i64 0]] (w4.setCell ⟨w2.heap.size, 2, none⟩ (.string ⟨cn.toArray⟩)) fun e w' => e = .returned (.tuple #[]) ∧ ∃ nv', Stt w0 ao ts cap p w' (k + 3) nv' (putN acc ⟨2, nm, cn, vz0, 0⟩) o ∧ Goes p (w4.setCell ⟨w2.heap.size, 2, none⟩ (.string ⟨cn.toArray⟩)) w' nv nv' := put_any w0 p ao ts cap (k + 3) o nv acc ⟨2, nm, cn, vz0, 0⟩ _ S7
          clear B6 B5 S7 S6 S5 TN5 GG g6
          go_wp2_with fail
          refine PU.mono ?_
          rintro e w5 ⟨rfl, n5, S8, g8⟩
          go_wp2
          go_ret
          exact ⟨rfl, ⟨n5, S8, G7.trans g8⟩, by omega⟩
        | false =>
          simp only [Bool.false_eq_true, ↓reduceIte]
          have TN : Hid (∀ W, Stt w0 ao ts cap p W (k + 2) nv acc o → _) := fun W hS => name_no w0 ao ts cap p (k + 2) o nv acc W E hS h4
          clear S E H h1 h2 h3 h4
          generalize (nxt ts k).t = nm at *
          unfold Does
          simp only
          go_enter Tryz.func330, Tryz.ntmps330
          go_wp2_with fail
          refine T.mono ?_
          rintro e w1 ⟨rfl, S1, g1⟩
          have T4 := T2.out w1 S1
          go_wp2_with fail
          refine T4.mono ?_
          rintro e w2 ⟨rfl, S2, g2⟩
          have S3 := S2.alloc (.cells (ncs ⟨2, [], nm, vz0, 0⟩) 44)
          have G3 := (Goes.refl p w2 nv).alloc (.cells (ncs ⟨2, [], nm, vz0, 0⟩) 44)
          have T5 := T3.out _ S3
          go_wp2_with fail
          refine T5.mono ?_
          rintro e w3 ⟨rfl, S4, g4⟩
          have hl2 := S2.rb.lt
          have hrl := S2.row_lt
          have hlo := S2.low.size
          have hbp : w2.heap.size ≠ p := by omega
          have hbr : ∀ g, nv.ownBlock = some g → g ≠ w2.heap.size := fun g h => by have := hrl g h; omega
          have hb0 : w0.heap.size ≤ w2.heap.size := hlo
          have hwb : w.heap.size ≤ w2.heap.size := (g1.trans g2).1.size
          have B3 := g4.box (Cbox.new w2 (ncs ⟨2, [], nm, vz0, 0⟩) 44) hbp hbr
          have y1 := B3.at 1
          have f1 := B3.free 1
          have hlb := B3.lt
          have B5 : Cbox (w3.setCell ⟨w2.heap.size, 1, none⟩ (.string ⟨nm.toArray⟩)) w2.heap.size (ncs ⟨2, nm, nm, vz0, 0⟩) 44 := by
            have := B3.set 1 (.string ⟨nm.toArray⟩)
            simp only [List.setIfInBounds_toArray, List.set_cons_zero, List.set_cons_succ] at this
            exact this
          have S5 := S4.setq w2.heap.size 1 (.string ⟨nm.toArray⟩) hb0 hbp hbr
          have GG := ((((g1.trans g2).trans G3).trans g4)).setq (j := 1) (v := .string ⟨nm.toArray⟩) hwb
          clear B3 S4 S3 S2 S1 T5 T4 g4 G3 g1 g2
          have TN5 := TN.out _ S5
          go_wp2_with fail
          refine TN5.mono ?_
          rintro e w4 ⟨rfl, S6, g6⟩
          have B6 := g6.box B5 hbp hbr
          have x0 := B6.at 0
          have x1 := B6.at 1
          have x2 := B6.at 2
          have x3 := B6.at 3
          have x4 := B6.at 4
          have x5 := B6.at 5
          have x6 := B6.at 6
          have x7 := B6.at 7
          have q2 := B6.free 2
          have hlb6 := B6.lt
          have S7 := S6.setq w2.heap.size 2 (.string ⟨#[]⟩) hb0 hbp hbr
          have G7 := (GG.trans g6).setq (j := 2) (v := .string ⟨#[]⟩) hwb
          clear B6 B5 S6 S5 TN5 GG g6
          go_wp2
          go_ret
          exact ⟨rfl, ⟨nv, S7, G7⟩, by omega⟩
end Go.Proofs.YtclhmmgdhagloaaGreatDoor

namespace Go.Proofs.YtclhmmgdhagloaaGreatDoor
open Go.RowKit Go.Shelf
attribute [local go_sem] cell?_more frozen?_more setCell_more more_lt more_more more_drew more_drewN setCell_drewN alloc_drewN

/-- What datum.Parse tells of the next token's text. -/
def Pars (w0 : World) (ts : List Ti) (V : List UInt8 → Option Va) : Prop := V [] = none ∧ ∀ k W, Below w0.heap.size w0 W → Calls Tryz.prog 134 #[.string ⟨(nxt ts k).t.toArray⟩] W fun e w' => e = .returned (dpR (V (nxt ts k).t)) ∧ Below W.heap.size W w'

theorem Stt.later {w0 : World} {ao : Option Addr} {ts : List Ti} {cap p : Nat} {w w' : World} {k : Nat} {nv : Value} {acc : List Nd} {o : Nat} (S : Stt w0 ao ts cap p w k nv acc o) (h : Below w.heap.size w w') : Stt w0 ao ts cap p w' k nv acc o := by
  have g : Fr w w' p none := Fr.of_below h p none
  exact ⟨g.below S.low S.low.size S.hp (fun k e => by cases e), S.hp, Cbox.later S.rb h, S.own.fr S.rb g, S.kl, S.few, S.deep⟩

set_option maxRecDepth 20000 in
set_option maxHeartbeats 4000000 in
theorem un_step (w0 : World) (ao : Option Addr) (ts : List Ti) (cap p o : Nat) (E : Env w0 ao ts) (V : List UInt8 → Option Va) (PA : Pars w0 ts V) (n k : Nat) (acc : List Nd) (nv : Value) (w : World) (S : Stt w0 ao ts cap p w k nv acc o)
    (H1 : o < 64 → ∀ W, Stt w0 ao ts cap p W (k + 1) nv acc (o + 1) → Does w0 ao ts cap p 314 (o + 1) (k + 1) acc nv W (rdx (nxt ts) V (ts.length + 1) n .un (k + 1) acc (o + 1)))
    (H2 : o < 64 → ∀ W, Stt w0 ao ts cap p W (k + 1) nv acc (o + 1) → Does w0 ao ts cap p 329 (o + 1) (k + 1) acc nv W (rdx (nxt ts) V (ts.length + 1) n .en (k + 1) acc (o + 1)))
    (H3 : o < 64 → ∀ k' acc nv w, Stt w0 ao ts cap p w k' nv acc (o + 1) → k + 2 ≤ k' → Does w0 ao ts cap p 74 (o + 1) k' acc nv w (rdx (nxt ts) V (ts.length + 1) n .ex k' acc (o + 1))) :
    Does w0 ao ts cap p 314 o k acc nv w (rdx (nxt ts) V (ts.length + 1) (n + 1) .un k acc o) := by
  have e0 : rdx (nxt ts) V (ts.length + 1) (n + 1) .un k acc o = (if (nxt ts k).t == [45] then
      (if o = 64 then (38, k + 1, putN acc (opX 3)) else ((rdx (nxt ts) V (ts.length + 1) n .un (k + 1) acc (o + 1)).1, (rdx (nxt ts) V (ts.length + 1) n .un (k + 1) acc (o + 1)).2.1, putN (rdx (nxt ts) V (ts.length + 1) n .un (k + 1) acc (o + 1)).2.2 (opX 3)))
    else if (nxt ts k).t == [40] then
      (if o = 64 then (38, k + 1, acc) else rdx (nxt ts) V (ts.length + 1) n .en (k + 1) acc (o + 1))
    else match V (nxt ts k).t with
      | some v => (0, k + 1, putN acc ⟨1, [], [], v, 0⟩)
      | none => colF (nxt ts) (fun k acc => rdx (nxt ts) V (ts.length + 1) n .ex k acc (o + 1)) k acc o) := rfl
  rw [e0]
  clear e0
  cases h : ((nxt ts k).t == [45]) with
  | true =>
    simp only [↓reduceIte]
    generalize rdx (nxt ts) V (ts.length + 1) n .un (k + 1) acc (o + 1) = r1 at H1 ⊢
    have T := took_yes w0 ao ts cap p k o nv acc [45] w E (by decide) S h
    obtain ⟨q, hq⟩ : ∃ q, q = (if o = 64 then (38, k + 1, acc) else r1 : Rz) := ⟨_, rfl⟩
    have WI : Hid (∀ W, Stt w0 ao ts cap p W (k + 1) nv acc o → Calls Tryz.prog 251 #[.pointer (some ⟨p, 0, none⟩), .func (.func 314) #[.pointer (some ⟨p, 0, none⟩)] #[]] W fun e w' =>
      e = .returned (.int .i64 (q.1 : Int)) ∧ (∃ nv', Stt w0 ao ts cap p w' q.2.1 nv' q.2.2 o ∧ Goes p W w' nv nv') ∧ k + 1 ≤ q.2.1) := fun W h => by rw [hq]; exact within_un w0 ao ts cap p o r1 (k + 1) acc nv W h H1
    have e1 : (if o = 64 then (38, k + 1, putN acc (opX 3)) else (r1.1, r1.2.1, putN r1.2.2 (opX 3)) : Rz) = (q.1, q.2.1, putN q.2.2 (opX 3)) := by
      rw [hq]; split <;> rfl
    rw [e1]
    clear e1 hq H1 H2 H3 S h E PA
    obtain ⟨qe, qk, qc⟩ := q
    unfold Does
    simp only at WI ⊢
    go_enter Tryz.func314, Tryz.ntmps314
    go_wp2_with fail
    refine T.mono ?_
    rintro e w1 ⟨rfl, S1, g1⟩
    have C := WI.out w1 S1
    go_wp2_with fail
    refine C.mono ?_
    rintro e w2 ⟨rfl, ⟨n2, S2, g2⟩, hk2⟩
    have PU : Calls Tryz.prog 198 #[.pointer (some ⟨p, 0, none⟩), .agg #[.int .i64 3, .string ⟨#[]⟩, .string ⟨#[]⟩, .int .i64 0, .int .i64 0, .int .i64 0, .string ⟨#[]⟩, .int .i64 0]] w2 _ := put_any w0 p ao ts cap qk o n2 qc (opX 3) w2 S2
    go_wp2_with fail
    refine PU.mono ?_
    rintro e w3 ⟨rfl, n3, S3, g3⟩
    go_wp2
    go_ret
    exact ⟨rfl, ⟨n3, S3, (g1.trans g2).trans g3⟩, by omega⟩
  | false =>
    simp only [Bool.false_eq_true, ↓reduceIte]
    have T := took_no w0 ao ts cap p k o nv acc [45] w E (by decide) S h
    cases h2 : ((nxt ts k).t == [40]) with
    | true =>
      simp only [↓reduceIte]
      generalize rdx (nxt ts) V (ts.length + 1) n .en (k + 1) acc (o + 1) = r1 at H2 ⊢
      have T2 : Hid (∀ W, Stt w0 ao ts cap p W k nv acc o → _) := fun W hS => took_yes w0 ao ts cap p k o nv acc [40] W E (by decide) hS h2
      have WI : Hid (∀ W, Stt w0 ao ts cap p W (k + 1) nv acc o → _) := fun W h => within_en w0 ao ts cap p o r1 (k + 1) acc nv W h H2
      generalize (if o = 64 then (38, k + 1, acc) else r1 : Rz) = q at WI ⊢
      clear H1 H2 H3 S h h2 E PA
      obtain ⟨qe, qk, qc⟩ := q
      unfold Does
      simp only at WI ⊢
      go_enter Tryz.func314, Tryz.ntmps314
      go_wp2_with fail
      refine T.mono ?_
      rintro e w1 ⟨rfl, S1, g1⟩
      have T3 := T2.out w1 S1
      go_wp2_with fail
      refine T3.mono ?_
      rintro e w2 ⟨rfl, S2, g2⟩
      have C := WI.out w2 S2
      go_wp2_with fail
      refine C.mono ?_
      rintro e w3 ⟨rfl, ⟨n3, S3, g3⟩, hk3⟩
      go_wp2
      go_ret
      exact ⟨rfl, ⟨n3, S3, (g1.trans g2).trans g3⟩, by omega⟩
    | false =>
      simp only [Bool.false_eq_true, ↓reduceIte]
      have T2 : Hid (∀ W, Stt w0 ao ts cap p W k nv acc o → _) := fun W hS => took_no w0 ao ts cap p k o nv acc [40] W E (by decide) hS h2
      have DP : Hid (∀ W, Below w0.heap.size w0 W → _) := fun W hW => PA.2 k W hW
      have hx3 : Hid (∀ W, Stt w0 ao ts cap p W k nv acc o → W.cell? ⟨p, 3, none⟩ = some (.string ⟨(nxt ts k).t.toArray⟩) ∧ p < W.heap.size) := fun W hS => ⟨hS.rb.at 3, hS.rb.lt⟩
      cases hv : V (nxt ts k).t with
      | some v =>
        simp only
        have hk : k < ts.length := nxt_lt (fun e => by rw [e, PA.1] at hv; cases hv)
        rw [hv] at DP
        have PS : Hid (∀ W, Stt w0 ao ts cap p W k nv acc o → Calls Tryz.prog 274 #[.pointer (some ⟨p, 0, none⟩)] W fun e w' => e = .returned (.tuple #[]) ∧ Stt w0 ao ts cap p w' (k + 1) nv acc o ∧ Goes p W w' nv nv) := fun W hS => (pass_any w0 p ao ts cap k (o : Int) _ nv W E hS.low hS.hp hk hS.rb).mono fun e w' ⟨a1, a2, a3⟩ => ⟨a1, ⟨a3.below hS.low hS.low.size hS.hp (fun k e => by cases e), hS.hp, a2, hS.own.fr hS.rb a3, hk, hS.few, hS.deep⟩, Goes.of_fr a3 nv⟩
        clear H1 H2 H3 S h h2 E PA hv
        obtain ⟨vk, vn, vm, vb⟩ := v
        generalize (nxt ts k).t = tx at *
        unfold Does
        simp only
        go_enter Tryz.func314, Tryz.ntmps314
        go_wp2_with fail
        refine T.mono ?_
        rintro e w1 ⟨rfl, S1, g1⟩
        have T3 := T2.out w1 S1
        go_wp2_with fail
        refine T3.mono ?_
        rintro e w2 ⟨rfl, S2, g2⟩
        obtain ⟨c3, hl2⟩ := hx3.out w2 S2
        have D2 : Calls Tryz.prog 134 #[.string ⟨tx.toArray⟩] w2 fun e w' => e = .returned (.tuple #[va vk vn vm ⟨vb.toArray⟩, .int .i64 0]) ∧ Below w2.heap.size w2 w' := DP.out w2 S2.low
        go_wp2_with fail
        refine D2.mono ?_
        rintro e w3 ⟨rfl, b3⟩
        have S3 := S2.later b3
        have g3 := Goes.of_fr (Fr.of_below b3 p none) nv
        have S4 := S3.alloc (.cells #[.int .i64 vk, .int .i64 vn, .int .i64 vm, .string ⟨vb.toArray⟩] 42)
        have g4 := (Goes.refl p w3 nv).alloc (.cells #[.int .i64 vk, .int .i64 vn, .int .i64 vm, .string ⟨vb.toArray⟩] 42)
        have P4 := PS.out _ S4
        have hl3 := S3.rb.lt
        have hrl := S3.row_lt
        go_wp2_with fail
        refine P4.mono ?_
        rintro e w5 ⟨rfl, S5, g5⟩
        have B5 := g5.box (Cbox.new w3 #[.int .i64 vk, .int .i64 vn, .int .i64 vm, .string ⟨vb.toArray⟩] 42) (by omega) (fun g h => by have := hrl g h; omega)
        have z0 := B5.at 0
        have z1 := B5.at 1
        have z2 := B5.at 2
        have z3 := B5.at 3
        have hlb := B5.lt
        have PU : Calls Tryz.prog 198 #[.pointer (some ⟨p, 0, none⟩), .agg #[.int .i64 1, .string ⟨#[]⟩, .string ⟨#[]⟩, .int .i64 vk, .int .i64 vn, .int .i64 vm, .string ⟨vb.toArray⟩, .int .i64 0]] w5 fun e w' => e = .returned (.tuple #[]) ∧ ∃ nv', Stt w0 ao ts cap p w' (k + 1) nv' (putN acc ⟨1, [], [], ⟨vk, vn, vm, vb⟩, 0⟩) o ∧ Goes p w5 w' nv nv' := put_any w0 p ao ts cap (k + 1) o nv acc ⟨1, [], [], ⟨vk, vn, vm, vb⟩, 0⟩ w5 S5
        have GG := (((g1.trans g2).trans g3).trans g4).trans g5
        clear B5 S5 S4 S3 S2 S1 g1 g2 g3 g4 g5 P4 D2 T3 c3 hl2
        go_wp2_with fail
        refine PU.mono ?_
        rintro e w6 ⟨rfl, n6, S6, g6⟩
        go_wp2
        go_ret
        exact ⟨rfl, ⟨n6, S6, GG.trans g6⟩, by omega⟩
      | none =>
        simp only
        rw [hv] at DP
        have CO : Hid (∀ W, Stt w0 ao ts cap p W k nv acc o → Does w0 ao ts cap p 330 o k acc nv W (colF (nxt ts) (fun k acc => rdx (nxt ts) V (ts.length + 1) n .ex k acc (o + 1)) k acc o)) := fun W hS => col_any w0 ao ts cap p o k E _ acc nv W hS H3
        generalize colF (nxt ts) (fun k acc => rdx (nxt ts) V (ts.length + 1) n .ex k acc (o + 1)) k acc o = q at CO ⊢
        clear H1 H2 H3 S h h2 E PA hv
        obtain ⟨qe, qk, qc⟩ := q
        generalize (nxt ts k).t = tx at *
        unfold Does
        simp only
        go_enter Tryz.func314, Tryz.ntmps314
        go_wp2_with fail
        refine T.mono ?_
        rintro e w1 ⟨rfl, S1, g1⟩
        have T3 := T2.out w1 S1
        go_wp2_with fail
        refine T3.mono ?_
        rintro e w2 ⟨rfl, S2, g2⟩
        obtain ⟨c3, hl2⟩ := hx3.out w2 S2
        have D2 : Calls Tryz.prog 134 #[.string ⟨tx.toArray⟩] w2 fun e w' => e = .returned (.tuple #[va 0 0 0 ⟨#[]⟩, .int .i64 21]) ∧ Below w2.heap.size w2 w' := DP.out w2 S2.low
        go_wp2_with fail
        refine D2.mono ?_
        rintro e w3 ⟨rfl, b3⟩
        have S3 := S2.later b3
        have g3 := Goes.of_fr (Fr.of_below b3 p none) nv
        have S4 := S3.alloc (.cells #[.int .i64 0, .int .i64 0, .int .i64 0, .string ⟨#[]⟩] 42)
        have g4 := (Goes.refl p w3 nv).alloc (.cells #[.int .i64 0, .int .i64 0, .int .i64 0, .string ⟨#[]⟩] 42)
        have C4 := CO.out _ S4
        unfold Does at C4
        simp only at C4
        go_wp2_with fail
        refine C4.mono ?_
        rintro e w5 ⟨rfl, ⟨n5, S5, g5⟩, hk5⟩
        go_wp2
        go_ret
        exact ⟨rfl, ⟨n5, S5, (((g1.trans g2).trans g3).trans g4).trans g5⟩, hk5⟩

/-- All parts of the grammar: what each does is what the function tells. -/
theorem all_parts (w0 : World) (ao : Option Addr) (ts : List Ti) (cap p : Nat) (E : Env w0 ao ts) (V : List UInt8 → Option Va) (PA : Pars w0 ts V) : ∀ (n : Nat) (nt : NT) (k : Nat) (acc : List Nd) (nv : Value) (w : World) (o : Nat), Stt w0 ao ts cap p w k nv acc o → nt.rank + 8 * (ts.length - k) ≤ n → Does w0 ao ts cap p (fnOf nt) o k acc nv w (rdx (nxt ts) V (ts.length + 1) n nt k acc o) := by
  intro n
  induction n with
  | zero =>
    intro nt k acc nv w o S h
    exfalso
    cases nt <;> simp [NT.rank] at h
  | succ n ih =>
    intro nt k acc nv w o S h
    have hkl := S.kl
    cases nt with
    | ex => exact ex_step w0 ao ts cap p o E V n k acc nv w S (fun k' acc nv w S' hk => ih .an k' acc nv w o S' (by simp only [NT.rank] at h ⊢; omega))
    | an => exact an_step w0 ao ts cap p o E V n k acc nv w S (fun k' acc nv w S' hk => ih .no k' acc nv w o S' (by simp only [NT.rank] at h ⊢; omega))
    | su => exact su_step w0 ao ts cap p o E V n k acc nv w S (fun k' acc nv w S' hk => ih .te k' acc nv w o S' (by simp only [NT.rank] at h ⊢; omega))
    | te => exact te_step w0 ao ts cap p o E V n k acc nv w S (fun k' acc nv w S' hk => ih .un k' acc nv w o S' (by simp only [NT.rank] at h ⊢; omega))
    | no => exact no_step w0 ao ts cap p o E V n k acc nv w S (fun ho W S' => ih .no (k + 1) acc nv W (o + 1) S' (by have := S'.kl; simp only [NT.rank] at h ⊢; omega)) (fun W S' => ih .co k acc nv W o S' (by simp only [NT.rank] at h ⊢; omega))
    | co => exact co_step w0 ao ts cap p o E V n k acc nv w (ih .su k acc nv w o S (by simp only [NT.rank] at h ⊢; omega)) (fun k' acc' nv' W hk S' => ih .su k' acc' nv' W o S' (by simp only [NT.rank] at h ⊢; omega))
    | un => exact un_step w0 ao ts cap p o E V PA n k acc nv w S (fun ho W S' => ih .un (k + 1) acc nv W (o + 1) S' (by have := S'.kl; simp only [NT.rank] at h ⊢; omega)) (fun ho W S' => ih .en (k + 1) acc nv W (o + 1) S' (by have := S'.kl; simp only [NT.rank] at h ⊢; omega)) (fun ho k' acc nv w S' hk => ih .ex k' acc nv w (o + 1) S' (by have := S'.kl; simp only [NT.rank] at h ⊢; omega))
    | en => exact en_step w0 ao ts cap p o E V n k acc nv w (ih .ex k acc nv w o S (by simp only [NT.rank] at h ⊢; omega))
end Go.Proofs.YtclhmmgdhagloaaGreatDoor
