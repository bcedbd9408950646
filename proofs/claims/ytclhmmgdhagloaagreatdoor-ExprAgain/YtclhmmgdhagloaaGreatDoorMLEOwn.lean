/-
  The reader of expressions: unit, and all parts of the grammar together, by induction on what is left to read.
  The contract of expr.Read.
  Names of nodes that came in are not too long.
  The contract of longstoplaw06.Own: the program's nodes out of the document's.
-/
import Derived.Test.YtclhmmgdhagloaaGreatDoorEUn
import Derived.Test.YtclhmmgdhagloaaGreatDoorMwLByte
import Derived.Test.YtclhmmgdhagloaaGreatDoorMALRight
import Derived.Deep.RegionHeld3
import Derived.Deep.AppendLies
namespace Go.Proofs.YtclhmmgdhagloaaGreatDoor
open Go.RowKit Go.Shelf
attribute [local go_sem] cell?_more frozen?_more setCell_more more_lt more_more more_drew more_drewN setCell_drewN alloc_drewN

/-- What datum.Parse tells of the next token's text. -/
def Pars (w0 : World) (ts : List Ti) (V : List UInt8 → Option Va) : Prop := V [] = none ∧ ∀ k W, Below w0.heap.size w0 W → Calls Tryz.prog 134 #[.string ⟨(nxt ts k).t.toArray⟩] W fun e w' => e = .returned (dpR (V (nxt ts k).t)) ∧ Below W.heap.size W w'

theorem Stt.later {w0 : World} {ao : Option Addr} {ts : List Ti} {cap p : Nat} {w w' : World} {k : Nat} {nv : Value} {acc : List Nd} {o : Nat} (S : Stt w0 ao ts cap p w k nv acc o) (h : Below w.heap.size w w') : Stt w0 ao ts cap p w' k nv acc o := by
  have g : Fr w w' p none := Fr.of_below h p none
  exact ⟨g.below S.low S.low.size S.hp (fun k e => by cases e), S.hp, Cbox.later S.rb h, S.own.fr S.rb g, S.kl, S.few, S.deep⟩

set_option maxRecDepth 20000 in
set_option maxHeartbeats 4000000 in
theorem un_step (w0 : World) (ao : Option Addr) (ts : List Ti) (cap p o : Nat) (E : Env w0 ao ts) (V : List UInt8 → Option Va) (PA : Pars w0 ts V) (n k : Nat) (acc : List Nd) (nv : Value) (w : World) (S : Stt w0 ao ts cap p w k nv acc o)
    (H1 : o < 64 → ∀ W, Stt w0 ao ts cap p W (k + 1) nv acc (o + 1) → Does w0 ao ts cap p 314 (o + 1) (k + 1) acc nv W (rdx (nxt ts) V (ts.length + 1) n .un (k + 1) acc (o + 1)))
    (H2 : o < 64 → ∀ W, Stt w0 ao ts cap p W (k + 1) nv acc (o + 1) → Does w0 ao ts cap p 329 (o + 1) (k + 1) acc nv W (rdx (nxt ts) V (ts.length + 1) n .en (k + 1) acc (o + 1)))
    (H3 : o < 64 → ∀ k' acc nv w, Stt w0 ao ts cap p w k' nv acc (o + 1) → k + 2 ≤ k' → Does w0 ao ts cap p 74 (o + 1) k' acc nv w (rdx (nxt ts) V (ts.length + 1) n .ex k' acc (o + 1))) :
    Does w0 ao ts cap p 314 o k acc nv w (rdx (nxt ts) V (ts.length + 1) (n + 1) .un k acc o) := by
  have e0 : rdx (nxt ts) V (ts.length + 1) (n + 1) .un k acc o = (if (nxt ts k).t == [45] then
      (if o = 64 then (38, k + 1, putN acc (opX 3)) else ((rdx (nxt ts) V (ts.length + 1) n .un (k + 1) acc (o + 1)).1, (rdx (nxt ts) V (ts.length + 1) n .un (k + 1) acc (o + 1)).2.1, putN (rdx (nxt ts) V (ts.length + 1) n .un (k + 1) acc (o + 1)).2.2 (opX 3)))
    else if (nxt ts k).t == [40] then
      (if o = 64 then (38, k + 1, acc) else rdx (nxt ts) V (ts.length + 1) n .en (k + 1) acc (o + 1))
    else match V (nxt ts k).t with
      | some v => (0, k + 1, putN acc ⟨1, [], [], v, 0⟩)
      | none => colF (nxt ts) (fun k acc => rdx (nxt ts) V (ts.length + 1) n .ex k acc (o + 1)) k acc o) := rfl
  rw [e0]
  clear e0
  cases h : ((nxt ts k).t == [45]) with
  | true =>
    simp only [↓reduceIte]
    generalize rdx (nxt ts) V (ts.length + 1) n .un (k + 1) acc (o + 1) = r1 at H1 ⊢
    have T := took_yes w0 ao ts cap p k o nv acc [45] w E (by decide) S h
    obtain ⟨q, hq⟩ : ∃ q, q = (if o = 64 then (38, k + 1, acc) else r1 : Rz) := ⟨_, rfl⟩
    have WI : Hid (∀ W, Stt w0 ao ts cap p W (k + 1) nv acc o → Calls Tryz.prog 251 #[.pointer (some ⟨p, 0, none⟩), .func (.func 314) #[.pointer (some ⟨p, 0, none⟩)] #[]] W fun e w' =>
      e = .returned (.int .i64 (q.1 : Int)) ∧ (∃ nv', Stt w0 ao ts cap p w' q.2.1 nv' q.2.2 o ∧ Goes p W w' nv nv') ∧ k + 1 ≤ q.2.1) := fun W h => by rw [hq]; exact within_un w0 ao ts cap p o r1 (k + 1) acc nv W h H1
    have e1 : (if o = 64 then (38, k + 1, putN acc (opX 3)) else (r1.1, r1.2.1, putN r1.2.2 (opX 3)) : Rz) = (q.1, q.2.1, putN q.2.2 (opX 3)) := by
      rw [hq]; split <;> rfl
    rw [e1]
    clear e1 hq H1 H2 H3 S h E PA
    obtain ⟨qe, qk, qc⟩ := q
    unfold Does
    simp only at WI ⊢
    go_enter Tryz.func314, Tryz.ntmps314
    go_wp2_with fail
    refine T.mono ?_
    rintro e w1 ⟨rfl, S1, g1⟩
    have C := WI.out w1 S1
    go_wp2_with fail
    refine C.mono ?_
    rintro e w2 ⟨rfl, ⟨n2, S2, g2⟩, hk2⟩
    have PU : Calls Tryz.prog 198 #[.pointer (some ⟨p, 0, none⟩), .agg #[.int .i64 3, .string ⟨#[]⟩, .string ⟨#[]⟩, .int .i64 0, .int .i64 0, .int .i64 0, .string ⟨#[]⟩, .int .i64 0]] w2 _ := put_any w0 p ao ts cap qk o n2 qc (opX 3) w2 S2
    go_wp2_with fail
    refine PU.mono ?_
    rintro e w3 ⟨rfl, n3, S3, g3⟩
    go_wp2
    go_ret
    exact ⟨rfl, ⟨n3, S3, (g1.trans g2).trans g3⟩, by omega⟩
  | false =>
    simp only [Bool.false_eq_true, ↓reduceIte]
    have T := took_no w0 ao ts cap p k o nv acc [45] w E (by decide) S h
    cases h2 : ((nxt ts k).t == [40]) with
    | true =>
      simp only [↓reduceIte]
      generalize rdx (nxt ts) V (ts.length + 1) n .en (k + 1) acc (o + 1) = r1 at H2 ⊢
      have T2 : Hid (∀ W, Stt w0 ao ts cap p W k nv acc o → _) := fun W hS => took_yes w0 ao ts cap p k o nv acc [40] W E (by decide) hS h2
      have WI : Hid (∀ W, Stt w0 ao ts cap p W (k + 1) nv acc o → _) := fun W h => within_en w0 ao ts cap p o r1 (k + 1) acc nv W h H2
      generalize (if o = 64 then (38, k + 1, acc) else r1 : Rz) = q at WI ⊢
      clear H1 H2 H3 S h h2 E PA
      obtain ⟨qe, qk, qc⟩ := q
      unfold Does
      simp only at WI ⊢
      go_enter Tryz.func314, Tryz.ntmps314
      go_wp2_with fail
      refine T.mono ?_
      rintro e w1 ⟨rfl, S1, g1⟩
      have T3 := T2.out w1 S1
      go_wp2_with fail
      refine T3.mono ?_
      rintro e w2 ⟨rfl, S2, g2⟩
      have C := WI.out w2 S2
      go_wp2_with fail
      refine C.mono ?_
      rintro e w3 ⟨rfl, ⟨n3, S3, g3⟩, hk3⟩
      go_wp2
      go_ret
      exact ⟨rfl, ⟨n3, S3, (g1.trans g2).trans g3⟩, by omega⟩
    | false =>
      simp only [Bool.false_eq_true, ↓reduceIte]
      have T2 : Hid (∀ W, Stt w0 ao ts cap p W k nv acc o → _) := fun W hS => took_no w0 ao ts cap p k o nv acc [40] W E (by decide) hS h2
      have DP : Hid (∀ W, Below w0.heap.size w0 W → _) := fun W hW => PA.2 k W hW
      have hx3 : Hid (∀ W, Stt w0 ao ts cap p W k nv acc o → W.cell? ⟨p, 3, none⟩ = some (.string ⟨(nxt ts k).t.toArray⟩) ∧ p < W.heap.size) := fun W hS => ⟨hS.rb.at 3, hS.rb.lt⟩
      cases hv : V (nxt ts k).t with
      | some v =>
        simp only
        have hk : k < ts.length := nxt_lt (fun e => by rw [e, PA.1] at hv; cases hv)
        rw [hv] at DP
        have PS : Hid (∀ W, Stt w0 ao ts cap p W k nv acc o → Calls Tryz.prog 274 #[.pointer (some ⟨p, 0, none⟩)] W fun e w' => e = .returned (.tuple #[]) ∧ Stt w0 ao ts cap p w' (k + 1) nv acc o ∧ Goes p W w' nv nv) := fun W hS => (pass_any w0 p ao ts cap k (o : Int) _ nv W E hS.low hS.hp hk hS.rb).mono fun e w' ⟨a1, a2, a3⟩ => ⟨a1, ⟨a3.below hS.low hS.low.size hS.hp (fun k e => by cases e), hS.hp, a2, hS.own.fr hS.rb a3, hk, hS.few, hS.deep⟩, Goes.of_fr a3 nv⟩
        clear H1 H2 H3 S h h2 E PA hv
        obtain ⟨vk, vn, vm, vb⟩ := v
        generalize (nxt ts k).t = tx at *
        unfold Does
        simp only
        go_enter Tryz.func314, Tryz.ntmps314
        go_wp2_with fail
        refine T.mono ?_
        rintro e w1 ⟨rfl, S1, g1⟩
        have T3 := T2.out w1 S1
        go_wp2_with fail
        refine T3.mono ?_
        rintro e w2 ⟨rfl, S2, g2⟩
        obtain ⟨c3, hl2⟩ := hx3.out w2 S2
        have D2 : Calls Tryz.prog 134 #[.string ⟨tx.toArray⟩] w2 fun e w' => e = .returned (.tuple #[va vk vn vm ⟨vb.toArray⟩, .int .i64 0]) ∧ Below w2.heap.size w2 w' := DP.out w2 S2.low
        go_wp2_with fail
        refine D2.mono ?_
        rintro e w3 ⟨rfl, b3⟩
        have S3 := S2.later b3
        have g3 := Goes.of_fr (Fr.of_below b3 p none) nv
        have S4 := S3.alloc (.cells #[.int .i64 vk, .int .i64 vn, .int .i64 vm, .string ⟨vb.toArray⟩] 42)
        have g4 := (Goes.refl p w3 nv).alloc (.cells #[.int .i64 vk, .int .i64 vn, .int .i64 vm, .string ⟨vb.toArray⟩] 42)
        have P4 := PS.out _ S4
        have hl3 := S3.rb.lt
        have hrl := S3.row_lt
        go_wp2_with fail
        refine P4.mono ?_
        rintro e w5 ⟨rfl, S5, g5⟩
        have B5 := g5.box (Cbox.new w3 #[.int .i64 vk, .int .i64 vn, .int .i64 vm, .string ⟨vb.toArray⟩] 42) (by omega) (fun g h => by have := hrl g h; omega)
        have z0 := B5.at 0
        have z1 := B5.at 1
        have z2 := B5.at 2
        have z3 := B5.at 3
        have hlb := B5.lt
        have PU : Calls Tryz.prog 198 #[.pointer (some ⟨p, 0, none⟩), .agg #[.int .i64 1, .string ⟨#[]⟩, .string ⟨#[]⟩, .int .i64 vk, .int .i64 vn, .int .i64 vm, .string ⟨vb.toArray⟩, .int .i64 0]] w5 fun e w' => e = .returned (.tuple #[]) ∧ ∃ nv', Stt w0 ao ts cap p w' (k + 1) nv' (putN acc ⟨1, [], [], ⟨vk, vn, vm, vb⟩, 0⟩) o ∧ Goes p w5 w' nv nv' := put_any w0 p ao ts cap (k + 1) o nv acc ⟨1, [], [], ⟨vk, vn, vm, vb⟩, 0⟩ w5 S5
        have GG := (((g1.trans g2).trans g3).trans g4).trans g5
        clear B5 S5 S4 S3 S2 S1 g1 g2 g3 g4 g5 P4 D2 T3 c3 hl2
        go_wp2_with fail
        refine PU.mono ?_
        rintro e w6 ⟨rfl, n6, S6, g6⟩
        go_wp2
        go_ret
        exact ⟨rfl, ⟨n6, S6, GG.trans g6⟩, by omega⟩
      | none =>
        simp only
        rw [hv] at DP
        have CO : Hid (∀ W, Stt w0 ao ts cap p W k nv acc o → Does w0 ao ts cap p 330 o k acc nv W (colF (nxt ts) (fun k acc => rdx (nxt ts) V (ts.length + 1) n .ex k acc (o + 1)) k acc o)) := fun W hS => col_any w0 ao ts cap p o k E _ acc nv W hS H3
        generalize colF (nxt ts) (fun k acc => rdx (nxt ts) V (ts.length + 1) n .ex k acc (o + 1)) k acc o = q at CO ⊢
        clear H1 H2 H3 S h h2 E PA hv
        obtain ⟨qe, qk, qc⟩ := q
        generalize (nxt ts k).t = tx at *
        unfold Does
        simp only
        go_enter Tryz.func314, Tryz.ntmps314
        go_wp2_with fail
        refine T.mono ?_
        rintro e w1 ⟨rfl, S1, g1⟩
        have T3 := T2.out w1 S1
        go_wp2_with fail
        refine T3.mono ?_
        rintro e w2 ⟨rfl, S2, g2⟩
        obtain ⟨c3, hl2⟩ := hx3.out w2 S2
        have D2 : Calls Tryz.prog 134 #[.string ⟨tx.toArray⟩] w2 fun e w' => e = .returned (.tuple #[va 0 0 0 ⟨#[]⟩, .int .i64 21]) ∧ Below w2.heap.size w2 w' := DP.out w2 S2.low
        go_wp2_with fail
        refine D2.mono ?_
        rintro e w3 ⟨rfl, b3⟩
        have S3 := S2.later b3
        have g3 := Goes.of_fr (Fr.of_below b3 p none) nv
        have S4 := S3.alloc (.cells #[.int .i64 0, .int .i64 0, .int .i64 0, .string ⟨#[]⟩] 42)
        have g4 := (Goes.refl p w3 nv).alloc (.cells #[.int .i64 0, .int .i64 0, .int .i64 0, .string ⟨#[]⟩] 42)
        have C4 := CO.out _ S4
        unfold Does at C4
        simp only at C4
        go_wp2_with fail
        refine C4.mono ?_
        rintro e w5 ⟨rfl, ⟨n5, S5, g5⟩, hk5⟩
        go_wp2
        go_ret
        exact ⟨rfl, ⟨n5, S5, (((g1.trans g2).trans g3).trans g4).trans g5⟩, hk5⟩

/-- All parts of the grammar: what each does is what the function tells. -/
theorem all_parts (w0 : World) (ao : Option Addr) (ts : List Ti) (cap p : Nat) (E : Env w0 ao ts) (V : List UInt8 → Option Va) (PA : Pars w0 ts V) : ∀ (n : Nat) (nt : NT) (k : Nat) (acc : List Nd) (nv : Value) (w : World) (o : Nat), Stt w0 ao ts cap p w k nv acc o → nt.rank + 8 * (ts.length - k) ≤ n → Does w0 ao ts cap p (fnOf nt) o k acc nv w (rdx (nxt ts) V (ts.length + 1) n nt k acc o) := by
  intro n
  induction n with
  | zero =>
    intro nt k acc nv w o S h
    exfalso
    cases nt <;> simp [NT.rank] at h
  | succ n ih =>
    intro nt k acc nv w o S h
    have hkl := S.kl
    cases nt with
    | ex => exact ex_step w0 ao ts cap p o E V n k acc nv w S (fun k' acc nv w S' hk => ih .an k' acc nv w o S' (by simp only [NT.rank] at h ⊢; omega))
    | an => exact an_step w0 ao ts cap p o E V n k acc nv w S (fun k' acc nv w S' hk => ih .no k' acc nv w o S' (by simp only [NT.rank] at h ⊢; omega))
    | su => exact su_step w0 ao ts cap p o E V n k acc nv w S (fun k' acc nv w S' hk => ih .te k' acc nv w o S' (by simp only [NT.rank] at h ⊢; omega))
    | te => exact te_step w0 ao ts cap p o E V n k acc nv w S (fun k' acc nv w S' hk => ih .un k' acc nv w o S' (by simp only [NT.rank] at h ⊢; omega))
    | no => exact no_step w0 ao ts cap p o E V n k acc nv w S (fun ho W S' => ih .no (k + 1) acc nv W (o + 1) S' (by have := S'.kl; simp only [NT.rank] at h ⊢; omega)) (fun W S' => ih .co k acc nv W o S' (by simp only [NT.rank] at h ⊢; omega))
    | co => exact co_step w0 ao ts cap p o E V n k acc nv w (ih .su k acc nv w o S (by simp only [NT.rank] at h ⊢; omega)) (fun k' acc' nv' W hk S' => ih .su k' acc' nv' W o S' (by simp only [NT.rank] at h ⊢; omega))
    | un => exact un_step w0 ao ts cap p o E V PA n k acc nv w S (fun ho W S' => ih .un (k + 1) acc nv W (o + 1) S' (by have := S'.kl; simp only [NT.rank] at h ⊢; omega)) (fun ho W S' => ih .en (k + 1) acc nv W (o + 1) S' (by have := S'.kl; simp only [NT.rank] at h ⊢; omega)) (fun ho k' acc nv w S' hk => ih .ex k' acc nv w (o + 1) S' (by have := S'.kl; simp only [NT.rank] at h ⊢; omega))
    | en => exact en_step w0 ao ts cap p o E V n k acc nv w (ih .ex k acc nv w o S (by simp only [NT.rank] at h ⊢; omega))
end Go.Proofs.YtclhmmgdhagloaaGreatDoor

namespace Go.Proofs.YtclhmmgdhagloaaGreatDoor
open Go.RowKit Go.Shelf
attribute [local go_sem] cell?_more frozen?_more setCell_more more_lt more_more more_drew more_drewN setCell_drewN alloc_drewN

theorem ncells_at (x : List Nd) : ∀ (i j : Nat) (hi : i < x.length), j < 8 → (ncells x)[i * 8 + j]? = (ncs x[i])[j]? := by
  induction x with
  | nil => intro i j hi; simp at hi
  | cons t x ih =>
    intro i j hi hj
    have e : ncells (t :: x) = (ncs t).toList ++ ncells x := by simp [ncells]
    rw [e]
    cases i with
    | zero =>
      rw [List.getElem?_append_left (by simpa using hj)]
      simp
    | succ i =>
      rw [List.getElem?_append_right (by simp; omega)]
      simp at hi
      have := ih i j hi hj
      simp only [List.getElem_cons_succ]
      rw [← this]
      congr 1
      simp; omega
/-- A slice of nodes of one's own, as what is called sees it. -/
theorem Nowns.lies {w : World} {base : Nat} {v : Value} {x : List Nd} (h : Nowns w base v x) :
    ∃ ao cap, v = .slice ao x.length cap ∧ Nw w ao x := by
  obtain ⟨h1, h2⟩ := h
  rcases h2 with ⟨rfl, hn⟩ | ⟨g, cap, cur, rfl, hb, hg, hnc, hcm, hcs, htake⟩
  · exact ⟨none, 0, by rw [hn], fun hp => by omega⟩
  · refine ⟨some ⟨g, 0, none⟩, cap, rfl, fun hp => ⟨g, 0, rfl, fun i hi => ?_⟩⟩
    have hc : ∀ j, j < 8 → w.cell? ⟨g, 0 + i * 8 + j, none⟩ = (ncs x[i])[j]? := by
      intro j hj
      rw [← ncells_at x i j hi hj, cell_of_row w g (0 + i * 8 + j) cur _ (0, 0) hg, ← htake]
      rw [List.getElem?_take, if_pos (by omega), Nat.zero_add]
      simp
    exact ⟨hc 0 (by decide), hc 1 (by decide), hc 2 (by decide), hc 3 (by decide), hc 4 (by decide), hc 5 (by decide), hc 6 (by decide), hc 7 (by decide)⟩

/-- Nodes whose names are short. -/
def shN (l : List Nd) : Prop := ∀ x ∈ l, x.t.length ≤ 140737488351232 ∧ x.n.length ≤ 140737488351232
/-- May a node be? One with names beyond all bounds may not. -/
theorem depth_of (ao : Option Addr) (cap : Nat) (l : List Nd) (w : World) (hv : Nw w ao l) (hn : l.length ≤ 140737488351232) (hs : shN l) (hT : Tabs w) :
    Calls Tryz.prog 11 #[.slice ao l.length cap] w fun e w' => e = .returned (.int .i64 (depN mayN l : Int)) ∧ Below w.heap.size w w' :=
  depth_any mayN ao cap l w hv hn mayN_ops (fun x hx W h => mayBe_any x W (hT.later h) (hs x hx).1 (hs x hx).2)

theorem right_of (ao : Option Addr) (cap : Nat) (l : List Nd) (w : World) (hv : Nw w ao l) (hn : l.length ≤ 140737488351232) (hs : shN l) (hT : Tabs w) :
    Calls Tryz.prog 9 #[.slice ao l.length cap] w fun e w' => e = .returned (.bool (decide (0 < depN mayN l))) ∧ Below w.heap.size w w' := by
  have D := depth_of ao cap l w hv hn hs hT
  generalize depN mayN l = d at *
  have e : decide (0 < d) = decide ((0 : Int) < (d : Int)) := by simp
  rw [e]
  clear e hv hs hT
  go_enter Tryz.func9, Tryz.ntmps9
  go_wp2_with (go_at_call 11; refine D.mono ?_; rintro e w1 ⟨rfl, b1⟩)
  go_ret
  exact ⟨by show Ending.returned _ = _; congr 2; simp, b1⟩

/-- What Read answers. -/
def readP (R : Rz) (base : Nat) (e : Ending) (w' : World) : Prop :=
  if R.1 = 0 then (if 0 < depN mayN R.2.2 then ∃ v, e = .returned (.tuple #[v, .int .i64 (R.2.1 : Int), .int .i64 0]) ∧ Nowns w' base v R.2.2 else e = .returned (.tuple #[.slice none 0 0, .int .i64 0, .int .i64 38]))
  else e = .returned (.tuple #[.slice none 0 0, .int .i64 0, .int .i64 (R.1 : Int)])

set_option maxRecDepth 20000 in
set_option maxHeartbeats 4000000 in
theorem read_any (ao : Option Addr) (ts : List Ti) (cap : Nat) (V : List UInt8 → Option Va) (w : World) (E : Env w ao ts) (PA : Pars w ts V) (R : Rz) (hR : rdx (nxt ts) V (ts.length + 1) (7 + 8 * ts.length) .ex 0 [] 0 = R) (hsh : shN R.2.2) :
    Calls Tryz.prog 43 #[.slice ao ts.length cap] w fun e w' => readP R w.heap.size e w' ∧ Below w.heap.size w w' := by
  have A0 := (Below.refl w.heap.size w).alloc (Nat.le_refl _) (.cells (rcs ao ts.length cap 0 tz (.slice none 0 0) 0) 114)
  have B0 : Rb (w.alloc (.cells (rcs ao ts.length cap 0 tz (.slice none 0 0) 0) 114)) w.heap.size ao ts.length cap ((0 : Nat) : Int) tz (.slice none 0 0) 0 := Cbox.new w _ _
  have L := look_any w w.heap.size ao ts cap 0 0 tz (.slice none 0 0) _ E A0 (Nat.le_refl _) B0
  have X : Hid (∀ W, Stt w ao ts cap w.heap.size W 0 (.slice none 0 0) [] 0 → Does w ao ts cap w.heap.size 74 0 0 [] (.slice none 0 0) W R) := fun W h => by
    have := all_parts w ao ts cap w.heap.size E V PA (7 + 8 * ts.length) .ex 0 [] (.slice none 0 0) W 0 h (by simp [NT.rank])
    rw [hR] at this
    exact this
  have HT : Hid (Tabs w) := E.tabs
  clear E PA hR
  obtain ⟨re, rk, rc⟩ := R
  simp only at hsh
  go_enter Tryz.func43, Tryz.ntmps43
  go_wp2_with fail
  refine L.mono ?_
  rintro e w1 ⟨rfl, h1, g1⟩
  have S1 : Stt w ao ts cap w.heap.size w1 0 (.slice none 0 0) [] 0 := ⟨g1.below A0 (by simp) (Nat.le_refl _) (fun k e => by cases e), Nat.le_refl _, h1, World.ownsRow_nil _ _ _ _, Nat.zero_le _, by simp, by omega⟩
  have X1 := X.out w1 S1
  unfold Does at X1
  simp only at X1
  clear L X S1 h1 g1 A0 B0
  go_wp2_with fail
  refine X1.mono ?_
  rintro e w2 ⟨rfl, ⟨n2, S2, G2⟩, _⟩
  clear X1 G2
  by_cases hre : re = 0
  case neg =>
    have hre' : ¬ (re : Int) = 0 := by omega
    have b2 := S2.low
    clear S2
    go_wp2
    refine bodyPost_ret_by (v := .tuple #[.slice none 0 0, .int .i64 0, .int .i64 (re : Int)]) ?_ rfl ⟨by unfold readP; rw [if_neg hre], b2⟩
    simp [results, Tryz.results43, go_sem]
  subst hre
  obtain ⟨na, nc, rfl, hnw⟩ := S2.own.lies
  have c9 := S2.rb.at 9
  have c1 := S2.rb.at 1
  have hl2 := S2.rb.lt
  have hfew := S2.few
  have RI := right_of na nc rc w2 hnw (by omega) hsh (HT.out.later S2.low)
  have HS2 : Hid (Stt w ao ts cap w.heap.size w2 rk (.slice na rc.length nc) rc 0) := S2
  clear S2 hnw hsh
  by_cases hd : 0 < depN mayN rc
  · rw [decide_eq_true hd] at RI
    have HD : Hid (0 < depN mayN rc) := hd
    clear hd
    go_wp2_with fail
    refine RI.mono ?_
    rintro e w3 ⟨rfl, b3⟩
    have S3 := HS2.out.later b3
    have d9 := S3.rb.at 9
    have d1 := S3.rb.at 1
    have hl3 := S3.rb.lt
    have ho3 := S3.own
    have hb3 := S3.low
    clear S3 HS2 RI c9 c1 hl2
    go_wp2
    go_region
    all_goals go_wp2
    all_goals refine bodyPost_ret_by (v := .tuple #[.slice na rc.length nc, .int .i64 (rk : Int), .int .i64 0]) ?_ rfl ⟨by unfold readP; rw [if_pos rfl, if_pos HD.out]; exact ⟨_, rfl, ho3⟩, by first | exact hb3 | exact hb3.drew⟩
    all_goals simp [results, Tryz.results43, go_sem]
  · rw [decide_eq_false hd] at RI
    have HD : Hid (¬ 0 < depN mayN rc) := hd
    have b2 := HS2.out.low
    clear hd
    go_wp2_with fail
    refine RI.mono ?_
    rintro e w3 ⟨rfl, b3⟩
    go_wp2
    refine bodyPost_ret_by (v := .tuple #[.slice none 0 0, .int .i64 0, .int .i64 38]) ?_ rfl ⟨by unfold readP; rw [if_pos rfl, if_neg HD.out], below_trans b2 b3⟩
    simp [results, Tryz.results43, go_sem]
end Go.Proofs.YtclhmmgdhagloaaGreatDoor

namespace Go.Proofs.YtclhmmgdhagloaaGreatDoor
open Go.ChangeShapes Go.WideShapes Go.ChangeAt Go.WideMaps Go.WideElems Go.RowKit Go.Shelf Go.Lib

end Go.Proofs.YtclhmmgdhagloaaGreatDoor

namespace Go.Proofs.YtclhmmgdhagloaaGreatDoor
open Go.RowKit Go.Shelf
attribute [local go_sem] cell?_more frozen?_more setCell_more more_lt more_more more_drew more_drewN setCell_drewN alloc_drewN

end Go.Proofs.YtclhmmgdhagloaaGreatDoor
