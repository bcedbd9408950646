/-
  Rows of values as they lie in memory; the contract of datum.checked.
  The contract of codec.Text (texts that fit); a value's bytes.
-/
import Derived.Test.YtafmchgncahafaaGreatDoorVRight2
import Derived.Test.YtafmchgncahafaaGreatDoorLaws
import Derived.Test.YtafmchgncahafaaGreatDoorMcJumps
namespace Go.Proofs.YtafmchgncahafaaGreatDoor
open Go.RowKit Go.Shelf
attribute [local go_sem] cell?_more frozen?_more setCell_more more_lt more_more more_drew more_drewN setCell_drewN alloc_drewN

/-- A value lies in four cells of a block. -/
def At4 (w : World) (b o : Nat) (v : Va) : Prop :=
  w.cell? ⟨b, o, none⟩ = some (.int .i64 v.k) ∧ w.cell? ⟨b, o + 1, none⟩ = some (.int .i64 v.n) ∧ w.cell? ⟨b, o + 2, none⟩ = some (.int .i64 v.m) ∧ w.cell? ⟨b, o + 3, none⟩ = some (.string ⟨v.b.toArray⟩)
theorem At4.lt {w : World} {b o : Nat} {v : Va} (h : At4 w b o v) : b < w.heap.size := World.block_lt_of_cell? w _ h.1
theorem At4.later {w w' : World} {b o : Nat} {v : Va} (h : At4 w b o v) (hb : Below w.heap.size w w') : At4 w' b o v :=
  ⟨by rw [hb.cell (p := ⟨b, o, none⟩) h.lt]; exact h.1, by rw [hb.cell (p := ⟨b, o + 1, none⟩) h.lt]; exact h.2.1, by rw [hb.cell (p := ⟨b, o + 2, none⟩) h.lt]; exact h.2.2.1, by rw [hb.cell (p := ⟨b, o + 3, none⟩) h.lt]; exact h.2.2.2⟩

/-- A row of values lies behind an address. -/
def Vs (w : World) (ao : Option Addr) (l : List Va) : Prop :=
  0 < l.length → ∃ b off, ao = some ⟨b, off, none⟩ ∧ ∀ i (h : i < l.length), At4 w b (off + i * 4) l[i]
theorem Vs.later {w w' : World} {ao : Option Addr} {l : List Va} (h : Vs w ao l) (hb : Below w.heap.size w w') : Vs w' ao l := by
  intro hp
  obtain ⟨b, off, e, hc⟩ := h hp
  exact ⟨b, off, e, fun i hi => (hc i hi).later hb⟩

/-- A value that may be, as the program asks it. -/
def vr (v : Va) : Bool := vrt v.k v.n v.m ⟨v.b.toArray⟩
theorem vr_iff (v : Va) : vr v = true ↔ vok Lib.validD v := vrt_iff v.k v.n v.m ⟨v.b.toArray⟩
/-- A value as the program has it. -/
abbrev vv (v : Va) : Value := va v.k v.n v.m ⟨v.b.toArray⟩

/-- The error of a list that is no row. -/
def ckE (l : List Va) : Int := if 64 < l.length then 6 else if l.all vr then 0 else 1

set_option maxHeartbeats 1000000 in
theorem checked_any (ao : Option Addr) (cap : Nat) (l : List Va) (w : World) (hT : Tabs w) (hv : Vs w ao l) (hl : l.length ≤ 9223372036854775807) :
    Calls Tryz.prog 16 #[.slice ao l.length cap] w fun e w' => e = .returned (.int .i64 (ckE l)) ∧ Below w.heap.size w w' := by
  by_cases hbig : 64 < l.length
  · have hb' : (64 : Int) < (l.length : Int) := by omega
    have e : ckE l = 6 := by unfold ckE; rw [if_pos hbig]
    rw [e]
    generalize l.length = n at *
    go_enter Tryz.func16, Tryz.ntmps16
    go_wp2
    go_ret
    exact ⟨rfl, Below.refl _ _⟩
  · have hb' : ¬ (64 : Int) < (l.length : Int) := by omega
    have hck : ckE l = if l.all vr then 0 else 1 := by unfold ckE; rw [if_neg hbig]
    obtain ⟨E, hE⟩ : ∃ E, E = ckE l := ⟨_, rfl⟩
    rw [← hE]
    rw [hck] at hE
    have HE : Hid (E = if l.all vr then 0 else 1) := hE
    obtain ⟨n, hn⟩ : ∃ n, l.length = n := ⟨_, rfl⟩
    rw [hn] at hb' hl ⊢
    have HN : Hid (l.length = n) := hn
    clear hck hE hbig hn
    go_enter Tryz.func16, Tryz.ntmps16
    go_wp2
    go_loopw [10] (fun r wr => ∃ k : Nat, r = .int .i64 (k : Int) ∧ k ≤ n ∧ Below w.heap.size w wr ∧ Hid (∀ i (h : i < l.length), i < k → vr l[i] = true)) (fun r _ => n - (intOf r).toNat)
    case atStart => exact ⟨0, rfl, Nat.zero_le _, Below.refl _ _, fun i _ h => by omega⟩
    case round =>
      obtain ⟨k, rfl, hk, hB, hA⟩ := hrel
      have sB := hB.size
      by_cases hlt : k < n
      · have hlt' : (k : Int) < (n : Int) := by omega
        have hkl : k < l.length := by rw [HN.out]; exact hlt
        obtain ⟨b, off, rfl, hc⟩ := hv (by omega)
        obtain ⟨c0, c1, c2, c3⟩ := ((hc k (by omega)).later hB)
        have hg := (hc k (by omega)).lt
        have hg' : b < wr.heap.size := by omega
        have hT' := hT.later hB
        have R : ∀ W, Grew wr W → Calls Tryz.prog 40 #[vv l[k]] W fun e w' => e = .returned (.bool (vr l[k])) ∧ Below W.heap.size W w' := fun W h => vright_any _ _ _ _ W (hT'.later h.below)
        have hvk : l[k] = l[k] := rfl
        obtain ⟨⟨vk, vn, vm, vb⟩, he⟩ : ∃ v : Va, v = l[k] := ⟨_, rfl⟩
        rw [← he] at c0 c1 c2 c3 R
        have HV : Hid (Va.mk vk vn vm vb = l[k]) := he
        clear hc hT' hT he hvk hb'
        cases hvr : vr ⟨vk, vn, vm, vb⟩
        · rw [hvr] at R
          go_wp2_with (go_at_call 40; refine (R _ (by repeat (first | exact Grew.refl _ | apply Grew.drew | apply Grew.drewN | apply Grew.alloc | apply Grew.more))).mono ?_; rintro e w2 ⟨rfl, hb2⟩)
          go_ret
          have hall : (l.all vr) = false := by
            rw [List.all_eq_false]
            exact ⟨l[k]'(by have := HN.out; omega), List.getElem_mem _, by rw [← HV.out, hvr]; simp⟩
          refine ⟨by rw [HE.out, hall]; rfl, ?_⟩
          exact hB.trans ((Below.mono (below_trans (Grew.below (by repeat (first | exact Grew.refl _ | apply Grew.drew | apply Grew.drewN | apply Grew.alloc | apply Grew.more))) hb2)) sB)
        · rw [hvr] at R
          go_wp2_with (go_at_call 40; refine (R _ (by repeat (first | exact Grew.refl _ | apply Grew.drew | apply Grew.drewN | apply Grew.alloc | apply Grew.more))).mono ?_; rintro e w2 ⟨rfl, hb2⟩)
          go_roundw
          case rel =>
            refine ⟨k + 1, by go_num, by omega, hB.trans ((Below.mono (below_trans (Grew.below (by repeat (first | exact Grew.refl _ | apply Grew.drew | apply Grew.drewN | apply Grew.alloc | apply Grew.more))) hb2)) sB), fun i hi hik => ?_⟩
            by_cases h : i < k
            · exact hA.out i hi h
            · have : i = k := by omega
              subst this
              rw [← HV.out, hvr]
          case measure => simp [intOf]; omega
      · have hlt' : ¬ (k : Int) < (n : Int) := by omega
        go_wp2
        go_ret
        have hall : (l.all vr) = true := by
          rw [List.all_eq_true]
          intro v hv'
          obtain ⟨i, hi, rfl⟩ := List.getElem_of_mem hv'
          exact hA.out i hi (by have := HN.out; omega)
        exact ⟨by rw [HE.out, hall]; rfl, hB⟩
end Go.Proofs.YtafmchgncahafaaGreatDoor

namespace Go.Proofs.YtafmchgncahafaaGreatDoor
open Go.RowKit

def textBytes (s : ByteArray) : List UInt8 := numBytes (s.size : Int) ++ s.data.toList

theorem own_append {w : World} {base n : Nat} {v : Value} {a b : List UInt8} (h : w.ownsRow base 5 1 v n (bv a ++ bv b)) : Own w base v (a ++ b) :=
  own_of (bs := a ++ b) (by rw [bv_append]; exact h)
theorem own_start {w : World} {base : Nat} {v : Value} (h : w.ownsRow base 5 1 v 0 []) : Own w base v [] := h

set_option maxHeartbeats 400000 in
theorem text_fits (s : ByteArray) (w : World) (hb : s.size ≤ 1048576) :
    Calls Tryz.prog 42 #[.string s] w fun e w' => ∃ v', e = .returned (.tuple #[v', .int .i64 0]) ∧ Own w' w.heap.size v' (textBytes s) ∧ Below w.heap.size w w' := by
  have hb' : ¬ (1048576 : Int) < (s.size : Int) := by omega
  obtain ⟨i0, hi, hz0, hz1, hz2⟩ := info_parts Tryz.info5
  go_enter Tryz.func42, Tryz.ntmps42
  go_wp2_with (at_make; refine wpList_make_own _ rfl _ _ 23 rfl w.heap.size 5 i0 (.int .u8 0) 1 Tryz.underlying23 hi hz0 hz1 _ _ _ (10 + s.size) rfl rfl (by omega) (by rw [hz2]; omega) (by unfold maxLen; omega) (Nat.le_refl _) ?_)
  intro w1 hown1 hgrow1
  have B1 : Below w.heap.size w w1 := (Below.refl _ _).grown hgrow1 (Nat.le_refl _) (fun k hk => by cases hk)
  have s1 := B1.size
  clear hgrow1
  go_wp2_with fail
  refine (appendNumber_any _ [] (s.size : Int) w.heap.size _ (own_start hown1) (by omega) (by simp) (by omega) (by omega)).mono ?_
  rintro e w2 ⟨v2, rfl, ho2, b2⟩
  have B2 := B1.trans b2
  have s2 := B2.size
  have nl := numBytes_len (s.size : Int)
  clear hown1 b2 B1 s1
  go_wp2_with (at_builtin; refine wpList_append_from rfl _ _ 23 9 rfl w.heap.size 5 i0 (.int .u8 0) 1 1 Tryz.underlying23 hi hz0 hz1 hz2 rfl _ _ _ rfl ho2 _ s.size (byteCells s) rfl (Src.ofString _ Tryz.underlying9 s) (by simp [maxLen]; omega) (by simp; omega) (by omega) ?_)
  intro v3 w3 ho3 hgrow3
  have B3 : Below w.heap.size w w3 := B2.grown hgrow3 (by omega) (fun k hk => (World.ownsRow.lt ho2 k hk).1)
  rw [byteCells_bv] at ho3
  have hO3 := own_append ho3
  clear ho3 hgrow3 ho2 B2 s2
  go_wp2
  go_ret2
  exact ⟨_, rfl, hO3, B3⟩

/-- A value's bytes. -/
def vbytes (v : Va) : List UInt8 :=
  numBytes v.k ++ (if v.k = 1 ∨ v.k = 4 then numBytes v.n else if v.k = 2 ∨ v.k = 5 then numBytes v.n ++ numBytes v.m else if v.k = 3 then textBytes ⟨v.b.toArray⟩ else [])

end Go.Proofs.YtafmchgncahafaaGreatDoor
