/-
  Rows of values as they lie in memory; the contract of datum.checked.
  The contract of codec.Text (texts that fit); a value's bytes.
  The contracts of datum.appendValue and datum.Put.
-/
import Derived.Test.YtibbenhplmmmiaaGreatDoorVRight2
import Derived.Test.YtibbenhplmmmiaaGreatDoorMaLJumps
namespace Go.Proofs.YtibbenhplmmmiaaGreatDoor
open Go.RowKit Go.Shelf
attribute [local go_sem] cell?_more frozen?_more setCell_more more_lt more_more more_drew more_drewN setCell_drewN alloc_drewN

/-- A value lies in four cells of a block. -/
def At4 (w : World) (b o : Nat) (v : Va) : Prop :=
  w.cell? ⟨b, o, none⟩ = some (.int .i64 v.k) ∧ w.cell? ⟨b, o + 1, none⟩ = some (.int .i64 v.n) ∧ w.cell? ⟨b, o + 2, none⟩ = some (.int .i64 v.m) ∧ w.cell? ⟨b, o + 3, none⟩ = some (.string ⟨v.b.toArray⟩)
theorem At4.lt {w : World} {b o : Nat} {v : Va} (h : At4 w b o v) : b < w.heap.size := World.block_lt_of_cell? w _ h.1
theorem At4.later {w w' : World} {b o : Nat} {v : Va} (h : At4 w b o v) (hb : Below w.heap.size w w') : At4 w' b o v :=
  ⟨by rw [hb.cell (p := ⟨b, o, none⟩) h.lt]; exact h.1, by rw [hb.cell (p := ⟨b, o + 1, none⟩) h.lt]; exact h.2.1, by rw [hb.cell (p := ⟨b, o + 2, none⟩) h.lt]; exact h.2.2.1, by rw [hb.cell (p := ⟨b, o + 3, none⟩) h.lt]; exact h.2.2.2⟩

/-- A row of values lies behind an address. -/
def Vs (w : World) (ao : Option Addr) (l : List Va) : Prop :=
  0 < l.length → ∃ b off, ao = some ⟨b, off, none⟩ ∧ ∀ i (h : i < l.length), At4 w b (off + i * 4) l[i]
theorem Vs.later {w w' : World} {ao : Option Addr} {l : List Va} (h : Vs w ao l) (hb : Below w.heap.size w w') : Vs w' ao l := by
  intro hp
  obtain ⟨b, off, e, hc⟩ := h hp
  exact ⟨b, off, e, fun i hi => (hc i hi).later hb⟩

/-- A value that may be, as the program asks it. -/
def vr (v : Va) : Bool := vrt v.k v.n v.m ⟨v.b.toArray⟩
theorem vr_iff (v : Va) : vr v = true ↔ vok Lib.validD v := vrt_iff v.k v.n v.m ⟨v.b.toArray⟩
/-- A value as the program has it. -/
abbrev vv (v : Va) : Value := va v.k v.n v.m ⟨v.b.toArray⟩

/-- The error of a list that is no row. -/
def ckE (l : List Va) : Int := if 64 < l.length then 6 else if l.all vr then 0 else 1

set_option maxHeartbeats 1000000 in
theorem checked_any (ao : Option Addr) (cap : Nat) (l : List Va) (w : World) (hT : Tabs w) (hv : Vs w ao l) (hl : l.length ≤ 9223372036854775807) :
    Calls Tryz.prog 48 #[.slice ao l.length cap] w fun e w' => e = .returned (.int .i64 (ckE l)) ∧ Below w.heap.size w w' := by
  by_cases hbig : 64 < l.length
  · have hb' : (64 : Int) < (l.length : Int) := by omega
    have e : ckE l = 6 := by unfold ckE; rw [if_pos hbig]
    rw [e]
    generalize l.length = n at *
    go_enter Tryz.func48, Tryz.ntmps48
    go_wp2
    go_ret
    exact ⟨rfl, Below.refl _ _⟩
  · have hb' : ¬ (64 : Int) < (l.length : Int) := by omega
    have hck : ckE l = if l.all vr then 0 else 1 := by unfold ckE; rw [if_neg hbig]
    obtain ⟨E, hE⟩ : ∃ E, E = ckE l := ⟨_, rfl⟩
    rw [← hE]
    rw [hck] at hE
    have HE : Hid (E = if l.all vr then 0 else 1) := hE
    obtain ⟨n, hn⟩ : ∃ n, l.length = n := ⟨_, rfl⟩
    rw [hn] at hb' hl ⊢
    have HN : Hid (l.length = n) := hn
    clear hck hE hbig hn
    go_enter Tryz.func48, Tryz.ntmps48
    go_wp2
    go_loopw [10] (fun r wr => ∃ k : Nat, r = .int .i64 (k : Int) ∧ k ≤ n ∧ Below w.heap.size w wr ∧ Hid (∀ i (h : i < l.length), i < k → vr l[i] = true)) (fun r _ => n - (intOf r).toNat)
    case atStart => exact ⟨0, rfl, Nat.zero_le _, Below.refl _ _, fun i _ h => by omega⟩
    case round =>
      obtain ⟨k, rfl, hk, hB, hA⟩ := hrel
      have sB := hB.size
      by_cases hlt : k < n
      · have hlt' : (k : Int) < (n : Int) := by omega
        have hkl : k < l.length := by rw [HN.out]; exact hlt
        obtain ⟨b, off, rfl, hc⟩ := hv (by omega)
        obtain ⟨c0, c1, c2, c3⟩ := ((hc k (by omega)).later hB)
        have hg := (hc k (by omega)).lt
        have hg' : b < wr.heap.size := by omega
        have hT' := hT.later hB
        have R : ∀ W, Grew wr W → Calls Tryz.prog 34 #[vv l[k]] W fun e w' => e = .returned (.bool (vr l[k])) ∧ Below W.heap.size W w' := fun W h => vright_any _ _ _ _ W (hT'.later h.below)
        have hvk : l[k] = l[k] := rfl
        obtain ⟨⟨vk, vn, vm, vb⟩, he⟩ : ∃ v : Va, v = l[k] := ⟨_, rfl⟩
        rw [← he] at c0 c1 c2 c3 R
        have HV : Hid (Va.mk vk vn vm vb = l[k]) := he
        clear hc hT' hT he hvk hb'
        cases hvr : vr ⟨vk, vn, vm, vb⟩
        · rw [hvr] at R
          go_wp2_with (go_at_call 34; refine (R _ (by repeat (first | exact Grew.refl _ | apply Grew.drew | apply Grew.drewN | apply Grew.alloc | apply Grew.more))).mono ?_; rintro e w2 ⟨rfl, hb2⟩)
          go_ret
          have hall : (l.all vr) = false := by
            rw [List.all_eq_false]
            exact ⟨l[k]'(by have := HN.out; omega), List.getElem_mem _, by rw [← HV.out, hvr]; simp⟩
          refine ⟨by rw [HE.out, hall]; rfl, ?_⟩
          exact hB.trans ((Below.mono (below_trans (Grew.below (by repeat (first | exact Grew.refl _ | apply Grew.drew | apply Grew.drewN | apply Grew.alloc | apply Grew.more))) hb2)) sB)
        · rw [hvr] at R
          go_wp2_with (go_at_call 34; refine (R _ (by repeat (first | exact Grew.refl _ | apply Grew.drew | apply Grew.drewN | apply Grew.alloc | apply Grew.more))).mono ?_; rintro e w2 ⟨rfl, hb2⟩)
          go_roundw
          case rel =>
            refine ⟨k + 1, by go_num, by omega, hB.trans ((Below.mono (below_trans (Grew.below (by repeat (first | exact Grew.refl _ | apply Grew.drew | apply Grew.drewN | apply Grew.alloc | apply Grew.more))) hb2)) sB), fun i hi hik => ?_⟩
            by_cases h : i < k
            · exact hA.out i hi h
            · have : i = k := by omega
              subst this
              rw [← HV.out, hvr]
          case measure => simp [intOf]; omega
      · have hlt' : ¬ (k : Int) < (n : Int) := by omega
        go_wp2
        go_ret
        have hall : (l.all vr) = true := by
          rw [List.all_eq_true]
          intro v hv'
          obtain ⟨i, hi, rfl⟩ := List.getElem_of_mem hv'
          exact hA.out i hi (by have := HN.out; omega)
        exact ⟨by rw [HE.out, hall]; rfl, hB⟩
end Go.Proofs.YtibbenhplmmmiaaGreatDoor

namespace Go.Proofs.YtibbenhplmmmiaaGreatDoor
open Go.RowKit

def textBytes (s : ByteArray) : List UInt8 := numBytes (s.size : Int) ++ s.data.toList

theorem own_append {w : World} {base n : Nat} {v : Value} {a b : List UInt8} (h : w.ownsRow base 5 1 v n (bv a ++ bv b)) : Own w base v (a ++ b) :=
  own_of (bs := a ++ b) (by rw [bv_append]; exact h)
theorem own_start {w : World} {base : Nat} {v : Value} (h : w.ownsRow base 5 1 v 0 []) : Own w base v [] := h

set_option maxHeartbeats 400000 in
theorem text_fits (s : ByteArray) (w : World) (hb : s.size ≤ 1048576) :
    Calls Tryz.prog 93 #[.string s] w fun e w' => ∃ v', e = .returned (.tuple #[v', .int .i64 0]) ∧ Own w' w.heap.size v' (textBytes s) ∧ Below w.heap.size w w' := by
  have hb' : ¬ (1048576 : Int) < (s.size : Int) := by omega
  obtain ⟨i0, hi, hz0, hz1, hz2⟩ := info_parts Tryz.info5
  go_enter Tryz.func93, Tryz.ntmps93
  go_wp2_with (at_make; refine wpList_make_own _ rfl _ _ 36 rfl w.heap.size 5 i0 (.int .u8 0) 1 Tryz.underlying36 hi hz0 hz1 _ _ _ (10 + s.size) rfl rfl (by omega) (by rw [hz2]; omega) (by unfold maxLen; omega) (Nat.le_refl _) ?_)
  intro w1 hown1 hgrow1
  have B1 : Below w.heap.size w w1 := (Below.refl _ _).grown hgrow1 (Nat.le_refl _) (fun k hk => by cases hk)
  have s1 := B1.size
  clear hgrow1
  go_wp2_with fail
  refine (appendNumber_any _ [] (s.size : Int) w.heap.size _ (own_start hown1) (by omega) (by simp) (by omega) (by omega)).mono ?_
  rintro e w2 ⟨v2, rfl, ho2, b2⟩
  have B2 := B1.trans b2
  have s2 := B2.size
  have nl := numBytes_len (s.size : Int)
  clear hown1 b2 B1 s1
  go_wp2_with (at_builtin; refine wpList_append_from rfl _ _ 36 9 rfl w.heap.size 5 i0 (.int .u8 0) 1 1 Tryz.underlying36 hi hz0 hz1 hz2 rfl _ _ _ rfl ho2 _ s.size (byteCells s) rfl (Src.ofString _ Tryz.underlying9 s) (by simp [maxLen]; omega) (by simp; omega) (by omega) ?_)
  intro v3 w3 ho3 hgrow3
  have B3 : Below w.heap.size w w3 := B2.grown hgrow3 (by omega) (fun k hk => (World.ownsRow.lt ho2 k hk).1)
  rw [byteCells_bv] at ho3
  have hO3 := own_append ho3
  clear ho3 hgrow3 ho2 B2 s2
  go_wp2
  go_ret2
  exact ⟨_, rfl, hO3, B3⟩

/-- A value's bytes. -/
def vbytes (v : Va) : List UInt8 :=
  numBytes v.k ++ (if v.k = 1 ∨ v.k = 4 then numBytes v.n else if v.k = 2 ∨ v.k = 5 then numBytes v.n ++ numBytes v.m else if v.k = 3 then textBytes ⟨v.b.toArray⟩ else [])

end Go.Proofs.YtibbenhplmmmiaaGreatDoor

namespace Go.Proofs.YtibbenhplmmmiaaGreatDoor
open Go.RowKit
attribute [local go_sem] cell?_more frozen?_more setCell_more more_lt more_more more_drew more_drewN setCell_drewN alloc_drewN

/-- A value lies in a block of its own. -/
def Box (w : World) (p : Nat) (v : Va) : Prop := w.heap[p]? = some (.cells #[.int .i64 v.k, .int .i64 v.n, .int .i64 v.m, .string ⟨v.b.toArray⟩] 23 (0, 0))
theorem Box.lt {w : World} {p : Nat} {v : Va} (h : Box w p v) : p < w.heap.size := by
  by_cases hp : p < w.heap.size
  · exact hp
  · unfold Box at h
    rw [Array.getElem?_eq_none (by omega)] at h
    cases h
theorem Box.later {w w' : World} {p : Nat} {v : Va} (h : Box w p v) (hb : Below w.heap.size w w') : Box w' p v := by
  unfold Box
  rw [hb.block p h.lt]
  exact h
theorem Box.at4 {w : World} {p : Nat} {v : Va} (h : Box w p v) : At4 w p 0 v :=
  ⟨by rw [cell_of_row w p 0 _ _ (0, 0) h]; rfl, by rw [cell_of_row w p (0 + 1) _ _ (0, 0) h]; rfl, by rw [cell_of_row w p (0 + 2) _ _ (0, 0) h]; rfl, by rw [cell_of_row w p (0 + 3) _ _ (0, 0) h]; rfl⟩
theorem Box.kept {w w' : World} {p base : Nat} {v : Va} {x : Value} {bs : List UInt8} (h : Box w p v) (ho : Own w base x bs) (hg : w.grownBy w' x.ownBlock) : Box w' p v := by
  unfold Box
  rw [hg.block p h.lt ?_]
  · exact h
  · intro e
    obtain ⟨h1, h2⟩ := ho
    rcases h2 with ⟨rfl, _⟩ | ⟨g, cap, cur, rfl, _, hg', _⟩
    · simp [Value.ownBlock] at e
    · simp [Value.ownBlock] at e
      subst e
      unfold Box at h
      rw [hg'] at h
      simp at h
theorem Box.free {w : World} {p : Nat} {v : Va} (h : Box w p v) (j : Nat) : w.frozen? ⟨p, j, none⟩ = false := by
  unfold Box at h
  simp [World.frozen?, h]
theorem Box.new (w : World) (k n m : Int) (b : List UInt8) : Box (w.alloc (.cells #[.int .i64 k, .int .i64 n, .int .i64 m, .string ⟨b.toArray⟩] 23)) w.heap.size ⟨k, n, m, b⟩ := by
  unfold Box
  show (w.heap.push _)[w.heap.size]? = _
  simp

set_option maxHeartbeats 4000000 in
theorem appendValue_0 (x : Value) (bs : List UInt8) (base : Nat)  (w : World) (hown : Own w base x bs) (hb : base ≤ w.heap.size) (hl : bs.length ≤ 1000000) :
    Calls Tryz.prog 50 #[x, va 0 0 0 ⟨#[]⟩] w fun e w' => ∃ v', e = .returned v' ∧ Own w' base v' (bs ++ vbytes ⟨0, 0, 0, []⟩) ∧ Below base w w' := by
  obtain ⟨i0, hi, hz0, hz1, hz2⟩ := info_parts Tryz.info5
  have boxA := Box.new w 0 0 0 []
  have ownA : Own (w.alloc (.cells #[.int .i64 0, .int .i64 0, .int .i64 0, .string ⟨#[]⟩] 23)) base x bs := World.ownsRow.alloc hown _
  have belA : Below base w (w.alloc (.cells #[.int .i64 0, .int .i64 0, .int .i64 0, .string ⟨#[]⟩] 23)) := (Below.refl _ _).alloc hb _
  have szA := belA.size
  go_enter Tryz.func50, Tryz.ntmps50
  go_upto_region 1 with fail
  generalize w.alloc (.cells #[.int .i64 0, .int .i64 0, .int .i64 0, .string ⟨#[]⟩] 23) = wA at *
  obtain ⟨c0_1, c1_1, c2_1, c3_1⟩ := boxA.at4
  have s0_1 := (belA).size
  go_wp2_with fail
  refine (number_any (0 : Int) _ (by decide) (by decide)).mono ?_
  rintro e q1 ⟨y1, rfl, oy1, by1⟩
  obtain ⟨ao1, cap1, rfl, hr1, _⟩ := oy1.rd
  have own1 := ownA.later by1
  have box1 := boxA.later by1
  have bel1 := (belA).trans (by1.mono (by omega))
  have sz1 := bel1.size
  have nl1 := (numBytes_len (0 : Int)).2
  clear oy1 c0_1 c1_1 c2_1 c3_1 by1
  go_wp2_with (at_builtin; refine wpList_append_from rfl _ _ 36 36 rfl base 5 i0 (.int .u8 0) 1 1 Tryz.underlying36 hi hz0 hz1 hz2 rfl _ _ _ rfl own1 _ (numBytes (0 : Int)).length (bv (numBytes (0 : Int))) rfl (src_of_rd Tryz.underlying36 hr1) (by simp [maxLen]; omega) (by simp; omega) (by omega) ?_)
  intro v1 w1 ho1' hg1
  have box1' := box1.kept own1 hg1
  have bel1' : Below base w w1 := bel1.grown hg1 (by omega) (fun k hk => (World.ownsRow.lt own1 k hk).1)
  have ho1 := own_append ho1'
  clear ho1' hg1 own1 box1 bel1 hr1
  obtain ⟨c0, c1, c2, c3⟩ := box1'.at4
  go_wp2
  go_ret
  exact ⟨_, rfl, by simpa [vbytes] using ho1, bel1'⟩

set_option maxHeartbeats 4000000 in
theorem appendValue_1 (x : Value) (bs : List UInt8) (base : Nat) (n : Int) (w : World) (hown : Own w base x bs) (hb : base ≤ w.heap.size) (hl : bs.length ≤ 1000000) (n0 : -9223372036854775808 ≤ n) (n1 : n ≤ 9223372036854775807) :
    Calls Tryz.prog 50 #[x, va 1 n 0 ⟨#[]⟩] w fun e w' => ∃ v', e = .returned v' ∧ Own w' base v' (bs ++ vbytes ⟨1, n, 0, []⟩) ∧ Below base w w' := by
  obtain ⟨i0, hi, hz0, hz1, hz2⟩ := info_parts Tryz.info5
  have boxA := Box.new w 1 n 0 []
  have ownA : Own (w.alloc (.cells #[.int .i64 1, .int .i64 n, .int .i64 0, .string ⟨#[]⟩] 23)) base x bs := World.ownsRow.alloc hown _
  have belA : Below base w (w.alloc (.cells #[.int .i64 1, .int .i64 n, .int .i64 0, .string ⟨#[]⟩] 23)) := (Below.refl _ _).alloc hb _
  have szA := belA.size
  go_enter Tryz.func50, Tryz.ntmps50
  go_upto_region 1 with fail
  generalize w.alloc (.cells #[.int .i64 1, .int .i64 n, .int .i64 0, .string ⟨#[]⟩] 23) = wA at *
  obtain ⟨c0_1, c1_1, c2_1, c3_1⟩ := boxA.at4
  have s0_1 := (belA).size
  go_wp2_with fail
  refine (number_any (1 : Int) _ (by decide) (by decide)).mono ?_
  rintro e q1 ⟨y1, rfl, oy1, by1⟩
  obtain ⟨ao1, cap1, rfl, hr1, _⟩ := oy1.rd
  have own1 := ownA.later by1
  have box1 := boxA.later by1
  have bel1 := (belA).trans (by1.mono (by omega))
  have sz1 := bel1.size
  have nl1 := (numBytes_len (1 : Int)).2
  clear oy1 c0_1 c1_1 c2_1 c3_1 by1
  go_wp2_with (at_builtin; refine wpList_append_from rfl _ _ 36 36 rfl base 5 i0 (.int .u8 0) 1 1 Tryz.underlying36 hi hz0 hz1 hz2 rfl _ _ _ rfl own1 _ (numBytes (1 : Int)).length (bv (numBytes (1 : Int))) rfl (src_of_rd Tryz.underlying36 hr1) (by simp [maxLen]; omega) (by simp; omega) (by omega) ?_)
  intro v1 w1 ho1' hg1
  have box1' := box1.kept own1 hg1
  have bel1' : Below base w w1 := bel1.grown hg1 (by omega) (fun k hk => (World.ownsRow.lt own1 k hk).1)
  have ho1 := own_append ho1'
  clear ho1' hg1 own1 box1 bel1 hr1
  obtain ⟨c0_2, c1_2, c2_2, c3_2⟩ := box1'.at4
  have s0_2 := (bel1').size
  go_wp2_with fail
  refine (number_any n _ n0 n1).mono ?_
  rintro e q2 ⟨y2, rfl, oy2, by2⟩
  obtain ⟨ao2, cap2, rfl, hr2, _⟩ := oy2.rd
  have own2 := ho1.later by2
  have box2 := box1'.later by2
  have bel2 := (bel1').trans (by2.mono (by omega))
  have sz2 := bel2.size
  have nl2 := (numBytes_len n).2
  clear oy2 c0_2 c1_2 c2_2 c3_2 by2
  go_wp2_with (at_builtin; refine wpList_append_from rfl _ _ 36 36 rfl base 5 i0 (.int .u8 0) 1 1 Tryz.underlying36 hi hz0 hz1 hz2 rfl _ _ _ rfl own2 _ (numBytes n).length (bv (numBytes n)) rfl (src_of_rd Tryz.underlying36 hr2) (by simp [maxLen]; omega) (by simp; omega) (by omega) ?_)
  intro v2 w2 ho2' hg2
  have box2' := box2.kept own2 hg2
  have bel2' : Below base w w2 := bel2.grown hg2 (by omega) (fun k hk => (World.ownsRow.lt own2 k hk).1)
  have ho2 := own_append ho2'
  clear ho2' hg2 own2 box2 bel2 hr2
  obtain ⟨c0, c1, c2, c3⟩ := box2'.at4
  go_wp2
  go_ret
  exact ⟨_, rfl, by simpa [vbytes] using ho2, bel2'⟩

set_option maxHeartbeats 4000000 in
theorem appendValue_4 (x : Value) (bs : List UInt8) (base : Nat) (n : Int) (w : World) (hown : Own w base x bs) (hb : base ≤ w.heap.size) (hl : bs.length ≤ 1000000) (n0 : -9223372036854775808 ≤ n) (n1 : n ≤ 9223372036854775807) :
    Calls Tryz.prog 50 #[x, va 4 n 0 ⟨#[]⟩] w fun e w' => ∃ v', e = .returned v' ∧ Own w' base v' (bs ++ vbytes ⟨4, n, 0, []⟩) ∧ Below base w w' := by
  obtain ⟨i0, hi, hz0, hz1, hz2⟩ := info_parts Tryz.info5
  have boxA := Box.new w 4 n 0 []
  have ownA : Own (w.alloc (.cells #[.int .i64 4, .int .i64 n, .int .i64 0, .string ⟨#[]⟩] 23)) base x bs := World.ownsRow.alloc hown _
  have belA : Below base w (w.alloc (.cells #[.int .i64 4, .int .i64 n, .int .i64 0, .string ⟨#[]⟩] 23)) := (Below.refl _ _).alloc hb _
  have szA := belA.size
  go_enter Tryz.func50, Tryz.ntmps50
  go_upto_region 1 with fail
  generalize w.alloc (.cells #[.int .i64 4, .int .i64 n, .int .i64 0, .string ⟨#[]⟩] 23) = wA at *
  obtain ⟨c0_1, c1_1, c2_1, c3_1⟩ := boxA.at4
  have s0_1 := (belA).size
  go_wp2_with fail
  refine (number_any (4 : Int) _ (by decide) (by decide)).mono ?_
  rintro e q1 ⟨y1, rfl, oy1, by1⟩
  obtain ⟨ao1, cap1, rfl, hr1, _⟩ := oy1.rd
  have own1 := ownA.later by1
  have box1 := boxA.later by1
  have bel1 := (belA).trans (by1.mono (by omega))
  have sz1 := bel1.size
  have nl1 := (numBytes_len (4 : Int)).2
  clear oy1 c0_1 c1_1 c2_1 c3_1 by1
  go_wp2_with (at_builtin; refine wpList_append_from rfl _ _ 36 36 rfl base 5 i0 (.int .u8 0) 1 1 Tryz.underlying36 hi hz0 hz1 hz2 rfl _ _ _ rfl own1 _ (numBytes (4 : Int)).length (bv (numBytes (4 : Int))) rfl (src_of_rd Tryz.underlying36 hr1) (by simp [maxLen]; omega) (by simp; omega) (by omega) ?_)
  intro v1 w1 ho1' hg1
  have box1' := box1.kept own1 hg1
  have bel1' : Below base w w1 := bel1.grown hg1 (by omega) (fun k hk => (World.ownsRow.lt own1 k hk).1)
  have ho1 := own_append ho1'
  clear ho1' hg1 own1 box1 bel1 hr1
  obtain ⟨c0_2, c1_2, c2_2, c3_2⟩ := box1'.at4
  have s0_2 := (bel1').size
  go_wp2_with fail
  refine (number_any n _ n0 n1).mono ?_
  rintro e q2 ⟨y2, rfl, oy2, by2⟩
  obtain ⟨ao2, cap2, rfl, hr2, _⟩ := oy2.rd
  have own2 := ho1.later by2
  have box2 := box1'.later by2
  have bel2 := (bel1').trans (by2.mono (by omega))
  have sz2 := bel2.size
  have nl2 := (numBytes_len n).2
  clear oy2 c0_2 c1_2 c2_2 c3_2 by2
  go_wp2_with (at_builtin; refine wpList_append_from rfl _ _ 36 36 rfl base 5 i0 (.int .u8 0) 1 1 Tryz.underlying36 hi hz0 hz1 hz2 rfl _ _ _ rfl own2 _ (numBytes n).length (bv (numBytes n)) rfl (src_of_rd Tryz.underlying36 hr2) (by simp [maxLen]; omega) (by simp; omega) (by omega) ?_)
  intro v2 w2 ho2' hg2
  have box2' := box2.kept own2 hg2
  have bel2' : Below base w w2 := bel2.grown hg2 (by omega) (fun k hk => (World.ownsRow.lt own2 k hk).1)
  have ho2 := own_append ho2'
  clear ho2' hg2 own2 box2 bel2 hr2
  obtain ⟨c0, c1, c2, c3⟩ := box2'.at4
  go_wp2
  go_ret
  exact ⟨_, rfl, by simpa [vbytes] using ho2, bel2'⟩

set_option maxHeartbeats 4000000 in
theorem appendValue_2 (x : Value) (bs : List UInt8) (base : Nat) (n m : Int) (w : World) (hown : Own w base x bs) (hb : base ≤ w.heap.size) (hl : bs.length ≤ 1000000) (n0 : -9223372036854775808 ≤ n) (n1 : n ≤ 9223372036854775807) (m0 : -9223372036854775808 ≤ m) (m1 : m ≤ 9223372036854775807) :
    Calls Tryz.prog 50 #[x, va 2 n m ⟨#[]⟩] w fun e w' => ∃ v', e = .returned v' ∧ Own w' base v' (bs ++ vbytes ⟨2, n, m, []⟩) ∧ Below base w w' := by
  obtain ⟨i0, hi, hz0, hz1, hz2⟩ := info_parts Tryz.info5
  have boxA := Box.new w 2 n m []
  have ownA : Own (w.alloc (.cells #[.int .i64 2, .int .i64 n, .int .i64 m, .string ⟨#[]⟩] 23)) base x bs := World.ownsRow.alloc hown _
  have belA : Below base w (w.alloc (.cells #[.int .i64 2, .int .i64 n, .int .i64 m, .string ⟨#[]⟩] 23)) := (Below.refl _ _).alloc hb _
  have szA := belA.size
  go_enter Tryz.func50, Tryz.ntmps50
  go_upto_region 1 with fail
  generalize w.alloc (.cells #[.int .i64 2, .int .i64 n, .int .i64 m, .string ⟨#[]⟩] 23) = wA at *
  obtain ⟨c0_1, c1_1, c2_1, c3_1⟩ := boxA.at4
  have s0_1 := (belA).size
  go_wp2_with fail
  refine (number_any (2 : Int) _ (by decide) (by decide)).mono ?_
  rintro e q1 ⟨y1, rfl, oy1, by1⟩
  obtain ⟨ao1, cap1, rfl, hr1, _⟩ := oy1.rd
  have own1 := ownA.later by1
  have box1 := boxA.later by1
  have bel1 := (belA).trans (by1.mono (by omega))
  have sz1 := bel1.size
  have nl1 := (numBytes_len (2 : Int)).2
  clear oy1 c0_1 c1_1 c2_1 c3_1 by1
  go_wp2_with (at_builtin; refine wpList_append_from rfl _ _ 36 36 rfl base 5 i0 (.int .u8 0) 1 1 Tryz.underlying36 hi hz0 hz1 hz2 rfl _ _ _ rfl own1 _ (numBytes (2 : Int)).length (bv (numBytes (2 : Int))) rfl (src_of_rd Tryz.underlying36 hr1) (by simp [maxLen]; omega) (by simp; omega) (by omega) ?_)
  intro v1 w1 ho1' hg1
  have box1' := box1.kept own1 hg1
  have bel1' : Below base w w1 := bel1.grown hg1 (by omega) (fun k hk => (World.ownsRow.lt own1 k hk).1)
  have ho1 := own_append ho1'
  clear ho1' hg1 own1 box1 bel1 hr1
  obtain ⟨c0_2, c1_2, c2_2, c3_2⟩ := box1'.at4
  have s0_2 := (bel1').size
  go_wp2_with fail
  refine (number_any n _ n0 n1).mono ?_
  rintro e q2 ⟨y2, rfl, oy2, by2⟩
  obtain ⟨ao2, cap2, rfl, hr2, _⟩ := oy2.rd
  have own2 := ho1.later by2
  have box2 := box1'.later by2
  have bel2 := (bel1').trans (by2.mono (by omega))
  have sz2 := bel2.size
  have nl2 := (numBytes_len n).2
  clear oy2 c0_2 c1_2 c2_2 c3_2 by2
  go_wp2_with (at_builtin; refine wpList_append_from rfl _ _ 36 36 rfl base 5 i0 (.int .u8 0) 1 1 Tryz.underlying36 hi hz0 hz1 hz2 rfl _ _ _ rfl own2 _ (numBytes n).length (bv (numBytes n)) rfl (src_of_rd Tryz.underlying36 hr2) (by simp [maxLen]; omega) (by simp; omega) (by omega) ?_)
  intro v2 w2 ho2' hg2
  have box2' := box2.kept own2 hg2
  have bel2' : Below base w w2 := bel2.grown hg2 (by omega) (fun k hk => (World.ownsRow.lt own2 k hk).1)
  have ho2 := own_append ho2'
  clear ho2' hg2 own2 box2 bel2 hr2
  obtain ⟨c0_3, c1_3, c2_3, c3_3⟩ := box2'.at4
  have s0_3 := (bel2').size
  go_wp2_with fail
  refine (number_any m _ m0 m1).mono ?_
  rintro e q3 ⟨y3, rfl, oy3, by3⟩
  obtain ⟨ao3, cap3, rfl, hr3, _⟩ := oy3.rd
  have own3 := ho2.later by3
  have box3 := box2'.later by3
  have bel3 := (bel2').trans (by3.mono (by omega))
  have sz3 := bel3.size
  have nl3 := (numBytes_len m).2
  clear oy3 c0_3 c1_3 c2_3 c3_3 by3
  go_wp2_with (at_builtin; refine wpList_append_from rfl _ _ 36 36 rfl base 5 i0 (.int .u8 0) 1 1 Tryz.underlying36 hi hz0 hz1 hz2 rfl _ _ _ rfl own3 _ (numBytes m).length (bv (numBytes m)) rfl (src_of_rd Tryz.underlying36 hr3) (by simp [maxLen]; omega) (by simp; omega) (by omega) ?_)
  intro v3 w3 ho3' hg3
  have box3' := box3.kept own3 hg3
  have bel3' : Below base w w3 := bel3.grown hg3 (by omega) (fun k hk => (World.ownsRow.lt own3 k hk).1)
  have ho3 := own_append ho3'
  clear ho3' hg3 own3 box3 bel3 hr3
  obtain ⟨c0, c1, c2, c3⟩ := box3'.at4
  go_wp2
  go_ret
  exact ⟨_, rfl, by simpa [vbytes] using ho3, bel3'⟩

set_option maxHeartbeats 4000000 in
theorem appendValue_5 (x : Value) (bs : List UInt8) (base : Nat) (n m : Int) (w : World) (hown : Own w base x bs) (hb : base ≤ w.heap.size) (hl : bs.length ≤ 1000000) (n0 : -9223372036854775808 ≤ n) (n1 : n ≤ 9223372036854775807) (m0 : -9223372036854775808 ≤ m) (m1 : m ≤ 9223372036854775807) :
    Calls Tryz.prog 50 #[x, va 5 n m ⟨#[]⟩] w fun e w' => ∃ v', e = .returned v' ∧ Own w' base v' (bs ++ vbytes ⟨5, n, m, []⟩) ∧ Below base w w' := by
  obtain ⟨i0, hi, hz0, hz1, hz2⟩ := info_parts Tryz.info5
  have boxA := Box.new w 5 n m []
  have ownA : Own (w.alloc (.cells #[.int .i64 5, .int .i64 n, .int .i64 m, .string ⟨#[]⟩] 23)) base x bs := World.ownsRow.alloc hown _
  have belA : Below base w (w.alloc (.cells #[.int .i64 5, .int .i64 n, .int .i64 m, .string ⟨#[]⟩] 23)) := (Below.refl _ _).alloc hb _
  have szA := belA.size
  go_enter Tryz.func50, Tryz.ntmps50
  go_upto_region 1 with fail
  generalize w.alloc (.cells #[.int .i64 5, .int .i64 n, .int .i64 m, .string ⟨#[]⟩] 23) = wA at *
  obtain ⟨c0_1, c1_1, c2_1, c3_1⟩ := boxA.at4
  have s0_1 := (belA).size
  go_wp2_with fail
  refine (number_any (5 : Int) _ (by decide) (by decide)).mono ?_
  rintro e q1 ⟨y1, rfl, oy1, by1⟩
  obtain ⟨ao1, cap1, rfl, hr1, _⟩ := oy1.rd
  have own1 := ownA.later by1
  have box1 := boxA.later by1
  have bel1 := (belA).trans (by1.mono (by omega))
  have sz1 := bel1.size
  have nl1 := (numBytes_len (5 : Int)).2
  clear oy1 c0_1 c1_1 c2_1 c3_1 by1
  go_wp2_with (at_builtin; refine wpList_append_from rfl _ _ 36 36 rfl base 5 i0 (.int .u8 0) 1 1 Tryz.underlying36 hi hz0 hz1 hz2 rfl _ _ _ rfl own1 _ (numBytes (5 : Int)).length (bv (numBytes (5 : Int))) rfl (src_of_rd Tryz.underlying36 hr1) (by simp [maxLen]; omega) (by simp; omega) (by omega) ?_)
  intro v1 w1 ho1' hg1
  have box1' := box1.kept own1 hg1
  have bel1' : Below base w w1 := bel1.grown hg1 (by omega) (fun k hk => (World.ownsRow.lt own1 k hk).1)
  have ho1 := own_append ho1'
  clear ho1' hg1 own1 box1 bel1 hr1
  obtain ⟨c0_2, c1_2, c2_2, c3_2⟩ := box1'.at4
  have s0_2 := (bel1').size
  go_wp2_with fail
  refine (number_any n _ n0 n1).mono ?_
  rintro e q2 ⟨y2, rfl, oy2, by2⟩
  obtain ⟨ao2, cap2, rfl, hr2, _⟩ := oy2.rd
  have own2 := ho1.later by2
  have box2 := box1'.later by2
  have bel2 := (bel1').trans (by2.mono (by omega))
  have sz2 := bel2.size
  have nl2 := (numBytes_len n).2
  clear oy2 c0_2 c1_2 c2_2 c3_2 by2
  go_wp2_with (at_builtin; refine wpList_append_from rfl _ _ 36 36 rfl base 5 i0 (.int .u8 0) 1 1 Tryz.underlying36 hi hz0 hz1 hz2 rfl _ _ _ rfl own2 _ (numBytes n).length (bv (numBytes n)) rfl (src_of_rd Tryz.underlying36 hr2) (by simp [maxLen]; omega) (by simp; omega) (by omega) ?_)
  intro v2 w2 ho2' hg2
  have box2' := box2.kept own2 hg2
  have bel2' : Below base w w2 := bel2.grown hg2 (by omega) (fun k hk => (World.ownsRow.lt own2 k hk).1)
  have ho2 := own_append ho2'
  clear ho2' hg2 own2 box2 bel2 hr2
  obtain ⟨c0_3, c1_3, c2_3, c3_3⟩ := box2'.at4
  have s0_3 := (bel2').size
  go_wp2_with fail
  refine (number_any m _ m0 m1).mono ?_
  rintro e q3 ⟨y3, rfl, oy3, by3⟩
  obtain ⟨ao3, cap3, rfl, hr3, _⟩ := oy3.rd
  have own3 := ho2.later by3
  have box3 := box2'.later by3
  have bel3 := (bel2').trans (by3.mono (by omega))
  have sz3 := bel3.size
  have nl3 := (numBytes_len m).2
  clear oy3 c0_3 c1_3 c2_3 c3_3 by3
  go_wp2_with (at_builtin; refine wpList_append_from rfl _ _ 36 36 rfl base 5 i0 (.int .u8 0) 1 1 Tryz.underlying36 hi hz0 hz1 hz2 rfl _ _ _ rfl own3 _ (numBytes m).length (bv (numBytes m)) rfl (src_of_rd Tryz.underlying36 hr3) (by simp [maxLen]; omega) (by simp; omega) (by omega) ?_)
  intro v3 w3 ho3' hg3
  have box3' := box3.kept own3 hg3
  have bel3' : Below base w w3 := bel3.grown hg3 (by omega) (fun k hk => (World.ownsRow.lt own3 k hk).1)
  have ho3 := own_append ho3'
  clear ho3' hg3 own3 box3 bel3 hr3
  obtain ⟨c0, c1, c2, c3⟩ := box3'.at4
  go_wp2
  go_ret
  exact ⟨_, rfl, by simpa [vbytes] using ho3, bel3'⟩

set_option maxHeartbeats 4000000 in
theorem appendValue_3 (x : Value) (bs : List UInt8) (base : Nat) (b : List UInt8) (w : World) (hown : Own w base x bs) (hb : base ≤ w.heap.size) (hl : bs.length ≤ 1000000) (hbl : b.length ≤ 256) :
    Calls Tryz.prog 50 #[x, va 3 0 0 ⟨b.toArray⟩] w fun e w' => ∃ v', e = .returned v' ∧ Own w' base v' (bs ++ vbytes ⟨3, 0, 0, b⟩) ∧ Below base w w' := by
  obtain ⟨i0, hi, hz0, hz1, hz2⟩ := info_parts Tryz.info5
  have boxA := Box.new w 3 0 0 b
  have ownA : Own (w.alloc (.cells #[.int .i64 3, .int .i64 0, .int .i64 0, .string ⟨b.toArray⟩] 23)) base x bs := World.ownsRow.alloc hown _
  have belA : Below base w (w.alloc (.cells #[.int .i64 3, .int .i64 0, .int .i64 0, .string ⟨b.toArray⟩] 23)) := (Below.refl _ _).alloc hb _
  have szA := belA.size
  go_enter Tryz.func50, Tryz.ntmps50
  go_upto_region 1 with fail
  generalize w.alloc (.cells #[.int .i64 3, .int .i64 0, .int .i64 0, .string ⟨b.toArray⟩] 23) = wA at *
  obtain ⟨c0_1, c1_1, c2_1, c3_1⟩ := boxA.at4
  have s0_1 := (belA).size
  go_wp2_with fail
  refine (number_any (3 : Int) _ (by decide) (by decide)).mono ?_
  rintro e q1 ⟨y1, rfl, oy1, by1⟩
  obtain ⟨ao1, cap1, rfl, hr1, _⟩ := oy1.rd
  have own1 := ownA.later by1
  have box1 := boxA.later by1
  have bel1 := (belA).trans (by1.mono (by omega))
  have sz1 := bel1.size
  have nl1 := (numBytes_len (3 : Int)).2
  clear oy1 c0_1 c1_1 c2_1 c3_1 by1
  go_wp2_with (at_builtin; refine wpList_append_from rfl _ _ 36 36 rfl base 5 i0 (.int .u8 0) 1 1 Tryz.underlying36 hi hz0 hz1 hz2 rfl _ _ _ rfl own1 _ (numBytes (3 : Int)).length (bv (numBytes (3 : Int))) rfl (src_of_rd Tryz.underlying36 hr1) (by simp [maxLen]; omega) (by simp; omega) (by omega) ?_)
  intro v1 w1 ho1' hg1
  have box1' := box1.kept own1 hg1
  have bel1' : Below base w w1 := bel1.grown hg1 (by omega) (fun k hk => (World.ownsRow.lt own1 k hk).1)
  have ho1 := own_append ho1'
  clear ho1' hg1 own1 box1 bel1 hr1
  obtain ⟨c0_2, c1_2, c2_2, c3_2⟩ := box1'.at4
  have s0_2 := bel1'.size
  have bsz : (ByteArray.mk b.toArray).size = b.length := by simp [ByteArray.size]
  go_wp2_with fail
  refine (text_fits _ _ (by omega)).mono ?_
  rintro e n2 ⟨y2, rfl, oy2, by2⟩
  obtain ⟨ao2, cap2, rfl, hr2, _⟩ := oy2.rd
  have own2 := ho1.later by2
  have box2 := box1'.later by2
  have bel2 := bel1'.trans (by2.mono (by omega))
  have sz2 := bel2.size
  have nl2 : (textBytes ⟨b.toArray⟩).length ≤ 300 := by
    have := (numBytes_len ((ByteArray.mk b.toArray).size : Int)).2
    simp only [textBytes, List.length_append] at *
    simp
    omega
  obtain ⟨TB, hTB⟩ : ∃ TB, TB = textBytes ⟨b.toArray⟩ := ⟨_, rfl⟩
  rw [← hTB] at hr2 nl2
  rw [← hTB]
  have HTB : Hid (TB = textBytes ⟨b.toArray⟩) := hTB
  clear oy2 c0_2 c1_2 c2_2 c3_2 by2 hTB bsz hbl boxA ownA belA
  go_wp2_with (at_builtin; refine wpList_append_from rfl _ _ 36 36 rfl base 5 i0 (.int .u8 0) 1 1 Tryz.underlying36 hi hz0 hz1 hz2 rfl _ _ _ rfl own2 _ TB.length (bv TB) rfl (src_of_rd Tryz.underlying36 hr2) (by simp [maxLen]; omega) (by simp; omega) (by omega) ?_)
  intro v2 w2 ho2' hg2
  have box2' := box2.kept own2 hg2
  have bel2' : Below base w w2 := bel2.grown hg2 (by omega) (fun k hk => (World.ownsRow.lt own2 k hk).1)
  have ho2 := own_append ho2'
  rw [HTB.out] at ho2
  clear ho2' hg2 own2 box2 bel2 hr2
  obtain ⟨c0, c1, c2, c3⟩ := box2'.at4
  go_wp2
  go_ret
  exact ⟨_, rfl, by simpa [vbytes] using ho2, bel2'⟩

end Go.Proofs.YtibbenhplmmmiaaGreatDoor
