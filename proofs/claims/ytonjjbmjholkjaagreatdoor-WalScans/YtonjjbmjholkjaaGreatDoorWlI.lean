/-
  The contract of wal.records: an iterator over the records that bytes begin with.
-/
import Derived.RangeFuncNested
import Derived.RangeFuncCalls
import Derived.RangeFuncLeaves
import Derived.RangeFuncBox
import Derived.Shelf.Abstract
import Derived.WalkKit
import Derived.OwnWalkIn
import Derived.TacticsInMore
import Derived.LoopNIn
import Derived.LoopIn
import Derived.Maps.AppendAt
import Derived.Deep.RegionHeld2
import Derived.Deep.RegionHeld3
import Derived.Shelf.RegionOpen
import Derived.Test.YtonjjbmjholkjaaGreatDoorWlA
import Derived.Test.YtonjjbmjholkjaaGreatDoorWlR
namespace Go.Proofs.YtonjjbmjholkjaaGreatDoor
open Go.RowKit Go.Shelf

attribute [local go_sem] Oper.semAt_some

/-- A record as yield gets it: what is in it lies somewhere. -/
structure Itv where
  it : It
  ao : Option Addr
  cap : Nat

def encR (base : Int) (x : Itv) : Array Value := #[.agg #[.int .i64 (base + x.it.off), .slice x.ao x.it.inn.length x.cap], .int .i64 (base + x.it.fin)]

/-- The blocks that the iterator reads: the table of sums, and the bytes. -/
def Kr (ao : Option Addr) (m : Nat) (k : Nat) : Prop := k = 0 ∨ (0 < m ∧ ∃ x, ao = some x ∧ x.block = k)

theorem Kr.lt {w : World} {ao : Option Addr} {m cap : Nat} {bs : List UInt8} (hT : Tab w) (hR : Rd w ao m cap bs) {k : Nat} (h : Kr ao m k) : k < w.heap.size := by
  rcases h with rfl | ⟨hm, x, hx, rfl⟩
  · exact hT.pos
  · obtain ⟨b, off, e, hc⟩ := hR.2.2.2.2 hm
    rw [hx] at e
    cases e
    have hl := hR.1
    exact World.block_lt_of_cell? w _ (hc 0 (by omega))

/-- What a round keeps: these blocks. -/
def Kq (K : Nat → Prop) (W W' : World) : Prop := ∀ k, K k → W'.heap[k]? = W.heap[k]?

theorem Kq.refl (K : Nat → Prop) (W : World) : Kq K W W := fun _ _ => rfl

theorem Kq.trans {K : Nat → Prop} {A B C : World} (h : Kq K A B) (k : Kq K B C) : Kq K A C := fun x e => (k x e).trans (h x e)

theorem Kq.of {K : Nat → Prop} {n₀ : Nat} {A B : World} (h : Below n₀ A B) (hK : ∀ k, K k → k < n₀) : Kq K A B := fun k e => h.block k (hK k e)

theorem Kq.put {K : Nat → Prop} {n₀ : Nat} (hK : ∀ k, K k → k < n₀) (W : World) (l : Nat) (o o' : Obj) (hl : n₀ ≤ l) (_ : W.heap[l]? = some o) (_ : o.isCells = false) (_ : o.isWalk = false) : Kq K W (W.putObj l o') :=
  fun k e => World.putObj_heap_other (by have := hK k e; omega)

theorem Kq.tab {ao : Option Addr} {m : Nat} {A B : World} (h : Kq (Kr ao m) A B) (hT : Tab A) : Tab B := fun k hk => by
  rw [World.cell?_of_block (w := A) (a := ⟨0, k, none⟩) (h 0 (.inl rfl))]; exact hT k hk

theorem Kq.rd {ao ao' : Option Addr} {m : Nat} {A B : World} (h : Kq (Kr ao m) A B) {n cap : Nat} {bs : List UInt8} (hn : n ≤ m) (hao : ∀ x, ao' = some x → ∃ y, ao = some y ∧ y.block = x.block) (hR : Rd A ao' n cap bs) : Rd B ao' n cap bs := by
  by_cases h0 : 0 < n
  · exact hR.kept (fun b off e _ => by obtain ⟨y, hy, hb⟩ := hao _ e; exact h b (.inr ⟨by omega, y, hy, hb⟩))
  · exact ⟨hR.1, hR.2.1, hR.2.2.1, hR.2.2.2.1, fun h => absurd h h0⟩

/-- What lies ahead of a round. -/
def Yq (rs : List It) (pre : List Itv) (W0 : World) (x : Itv) (W1 : World) : Prop := Own W1 W0.heap.size (.slice x.ao x.it.inn.length x.cap) x.it.inn ∧ (pre.map Itv.it ++ [x.it]) <+: rs

set_option maxRecDepth 100000 in
set_option maxHeartbeats 4000000 in
theorem records1_lends (n : Nat) (hn : 1 ≤ n) (Bb Bs : Nat) (base : Int) (ao : Option Addr) (m cap : Nat) (bs : List UInt8) (w : World) (hT : Tab w) (hb : w.cell? ⟨Bb, 0, none⟩ = some (.int .i64 base)) (hs : w.cell? ⟨Bs, 0, none⟩ = some (.slice ao m cap))
    (hR : Rd w ao m cap bs) (b1 : -4611686018427387904 ≤ base) (b2 : base ≤ 4611686018427387904) (hm : m ≤ 4611686018427387000) :
    Lends Fence.wide n Tryz.prog 38 #[.pointer (some ⟨Bb, 0, none⟩), .pointer (some ⟨Bs, 0, none⟩)] (encR base) (Kq (Kr ao m)) (Yq (rcs 0 bs)) (fun xs => xs.map Itv.it = rcs 0 bs) w := by
  intro l J W hW hY h0
  have hb' := (hW.cell (p := ⟨Bb, 0, none⟩) (World.block_lt_of_cell? w _ hb)).trans hb
  have hs' := (hW.cell (p := ⟨Bs, 0, none⟩) (World.block_lt_of_cell? w _ hs)).trans hs
  have hT' := hT.later hW hT.pos
  have hR' := hR.later hW
  have hml := hR.1
  clear hb hs hT hR hW
  refine callsIn_of_wp Tryz.func38 rfl trivial ?_ rfl
  simp only [Tryz.ntmps38, List.size_toArray, List.length_cons, List.length_nil, Nat.reduceAdd, Nat.reduceSub, Array.replicate_succ, Array.replicate_zero, List.push_toArray, List.append_toArray, List.nil_append, List.cons_append]
  gi_wp2_with fail
  refine wpIn_wide.2 ?_
  refine wp_region_noPanic ?_
  go_region_held2 (fun V => V.cell? ⟨Bb, 0, none⟩ = some (.int .i64 base) ∧ V.cell? ⟨Bs, 0, none⟩ = some (.slice ao m cap)) (exact ⟨hb', hs'⟩) (fail)
  refine NoPanic.normal ?_
  have bD : Below W.heap.size W W.drew := (Below.refl _ _).drew
  gi_wp2_with fail
  gi_loopw [4, 5] (fun va vr wr => ∃ (pre : List Itv) (rest : List UInt8) (off : Nat) (ao' : Option Addr) (cap' : Nat) (W0 : World), va = .int .i64 (base + off) ∧ vr = .slice ao' rest.length cap' ∧ Rd wr ao' rest.length cap' rest ∧ (∀ x, ao' = some x → ∃ y, ao = some y ∧ y.block = x.block) ∧
      pre.map Itv.it ++ rcs off rest = rcs 0 bs ∧ off + rest.length = bs.length ∧ J pre W0 ∧ Below W0.heap.size W0 wr ∧ Tab wr)
    (fun _ vr _ => match vr with | .slice _ n _ => n | _ => 0)
  case atStart => exact ⟨[], bs, 0, ao, cap, W, by simp, by rw [hml], by rw [hml]; exact hR'.later bD, fun x e => ⟨x, e, rfl⟩, rfl, by simp, h0, bD, hT'.later bD hT'.pos⟩
  case round =>
    clear hb' hs' hT' hR' h0
    obtain ⟨pre, rest, off, ao', cap', W0, rfl, rfl, hRr, hao, hrec, hlen, hJ, hB, hTr⟩ := hrel
    have CU := unrecord_any ao' rest.length cap' rest wr hTr hRr
    by_cases he : (takeR rest).2.2 = 0
    · have hsz := takeR_size rest he
      have hys := rcs_yes off rest he
      obtain ⟨ao2, hrun, hrd2, hao2⟩ := slice_tail hRr (takeR rest).2.1 hsz.2.1
      rw [he] at CU
      have hdl : (rest.drop (takeR rest).2.1).length = rest.length - (takeR rest).2.1 := by simp
      obtain ⟨rr, hrr⟩ : ∃ rr, rr = rest.drop (takeR rest).2.1 := ⟨_, rfl⟩
      rw [← hrr] at hdl hys hrd2
      clear hrr he
      generalize (takeR rest).1 = inn at *
      generalize (takeR rest).2.1 = sz at *
      have HR : Hid (pre.map Itv.it ++ rcs off rest = rcs 0 bs ∧ rcs off rest = { off := off, inn := inn, fin := off + sz } :: rcs (off + sz) rr ∧ rr.length = rest.length - sz) := ⟨hrec, hys, hdl⟩
      have HAO : Hid ((∀ x, ao' = some x → ∃ y, ao = some y ∧ y.block = x.block) ∧ ∀ x, ao2 = some x → ∃ y, ao' = some y ∧ y.block = x.block) := ⟨hao, hao2⟩
      clear hrec hys hdl hao hao2
      gi_wp2_with fail
      refine ⟨trivial, (callsIn_wide.2 CU).mono ?_⟩
      rintro e w1 ⟨v, rfl, hO, bU⟩
      obtain ⟨ao3, cap3, rfl, hrd3, -⟩ := hO.rd
      have hB1 := hB.trans (bU.mono hB.size)
      obtain ⟨fn, tmps, assign, body, hy, hRd⟩ := hY pre ⟨⟨off, inn, off + sz⟩, ao3, cap3⟩ W0 w1 hJ hB1 ⟨hO.more hB.size, by refine ⟨rcs (off + sz) rr, ?_⟩; rw [← HR.out.1, HR.out.2.1]; simp⟩
      have HW : Hid (Rd w1 ao2 (rest.length - sz) (cap' - sz) rr ∧ Tab w1) := ⟨hrd2 _ (hRr.later bU), hTr.later bU hTr.pos⟩
      clear hrd3 hO CU hRr hTr hrd2 hB bU hB1 hJ
      dsimp only [encR] at hy
      have e1 : base + ((off + sz : Nat) : Int) = base + off + sz := by omega
      rw [e1] at hy
      have g1 : ¬ (9223372036854775807 - (sz : Int) < base + off) := by omega
      gi_wp2
      refine hRd.mono ?_
      rintro e W' ⟨rfl, hJ', hk⟩
      clear hRd hy
      gi_wp2_with fail
      refine wpIn_wide.2 ?_
      refine wp_region_noPanic ?_
      go_region_held2 (fun V => Below W'.heap.size W' V) (exact (Below.refl _ _).drew) (fail)
      refine NoPanic.normal ?_
      have bD' : Below W'.heap.size W' W'.drew := (Below.refl _ _).drew
      have e2 : IntKind.i64.wrap (base + off + sz) = base + ((off + sz : Nat) : Int) := by rw [IntKind.wrap_i64]; omega
      rw [e2]
      obtain ⟨hr1, hr2, hr3⟩ := HR.out
      refine And.intro ?_ ?measure
      (repeat apply Exists.intro)
      refine And.intro ?rel ?eq
      case eq => rfl
      case rel =>
        refine ⟨_, rr, off + sz, ao2, cap' - sz, W', rfl, by rw [hr3], ?_, fun x e => ?_, ?_, by omega, hJ', bD', ?_⟩
        · rw [hr3]
          exact (hk.rd (by omega) (fun x e => by obtain ⟨y, hy, hyb⟩ := HAO.out.2 x e; obtain ⟨z, hz, hzb⟩ := HAO.out.1 y hy; exact ⟨z, hz, hzb.trans hyb⟩) HW.out.1).later bD'
        · obtain ⟨y, hy, hyb⟩ := HAO.out.2 x e
          obtain ⟨z, hz, hzb⟩ := HAO.out.1 y hy
          exact ⟨z, hz, hzb.trans hyb⟩
        · rw [← hr1, hr2, List.map_append, List.append_assoc]; rfl
        · exact (hk.tab HW.out.2).later bD' (hk.tab HW.out.2).pos
      case measure => simp; omega
    · gi_wp2_with fail
      refine ⟨trivial, (callsIn_wide.2 CU).mono ?_⟩
      rintro e w1 ⟨v, rfl, hO, bU⟩
      obtain ⟨x1, x3, rfl, -, -⟩ := hO.rd
      have hno := rcs_no off rest he
      have HF : Hid (pre.map Itv.it = rcs 0 bs) := by rw [hno, List.append_nil] at hrec; exact hrec
      have he' : (((takeR rest).2.2 : Int) != 0) = true := by simp; omega
      have hB1 := hB.trans (bU.mono hB.size)
      clear CU hrec hRr hTr hno bU hB hO
      generalize (takeR rest).1.length = il at *
      generalize (takeR rest).2.2 = er at *
      generalize (takeR rest).2.1 = sz at *
      gi_wp2
      refine bodyPost_ret (results_none rfl _ _ _) rfl ?_
      exact ⟨⟨_, rfl⟩, pre, W0, HF.out, hJ, hB1⟩

set_option maxHeartbeats 1000000 in
theorem records_any (base : Int) (v : Value) (hv : ∃ ao n cap, v = .slice ao n cap) (w : World) :
    Calls Tryz.prog 21 #[.int .i64 base, v] w fun e w' => e = .returned (.func (.func 38) #[] #[.pointer (some ⟨w.heap.size, 0, none⟩), .pointer (some ⟨w.heap.size + 1, 0, none⟩)]) ∧
      w' = (w.alloc (.cells #[.int .i64 base] 3)).alloc (.cells #[v] 22) := by
  obtain ⟨ao, n, cap, rfl⟩ := hv
  go_enter Tryz.func21, Tryz.ntmps21
  go_wp2
  go_ret
  exact ⟨rfl, rfl⟩
end Go.Proofs.YtonjjbmjholkjaaGreatDoor
