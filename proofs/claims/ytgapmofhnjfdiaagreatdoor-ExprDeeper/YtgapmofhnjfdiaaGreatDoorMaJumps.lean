/-
  Plain facts on numbers and bytes that the walks of package codec lean on: how a number is folded, cut into groups of seven bits, and read back. Nothing of the program is in it.
  Laws on slices of bytes that the walks lean on: what a slice reads as, what becomes of it behind new memory, and append from a slice or a string onto a row that the call itself made. Nothing of the program's code is in it.
  The contracts of codec.fold, codec.unfold, codec.appendNumber, codec.Number: what each call gives, for every number.
  A scope that is entered ahead of its one label and jumps back to it: what holds at the label each time, and a measure. Nothing of the program is in it.
-/
import Derived.WalkKit
import Derived.Laws.BitsAllLaws
import Derived.WalkSmall
import Derived.WalkSpells
import Derived.Deep.AppendSrc
import Derived.Laws.IdiomStrings
import Derived.Test.YtgapmofhnjfdiaaGreatDoorProg
import Derived.WalkLawsBesides
import Derived.ScopeJumps
import Derived.Tactics
namespace Go.Proofs.YtgapmofhnjfdiaaGreatDoor
open Go.RowKit

/-- Bytes as cells. -/
def bv (bs : List UInt8) : List Value := bs.map fun b => Value.int .u8 (b.toNat : Int)
theorem bv_length (bs : List UInt8) : (bv bs).length = bs.length := by simp [bv]
theorem bv_append (a b : List UInt8) : bv (a ++ b) = bv a ++ bv b := by simp [bv]
theorem bv_at (bs : List UInt8) (j : Nat) (h : j < bs.length) : (bv bs)[j]? = some (Value.int .u8 (bs[j].toNat : Int)) := by simp [bv, h]

/-- The slice v owns a row of its own that begins with the bytes bs. -/
def Own (w : World) (base : Nat) (v : Value) (bs : List UInt8) : Prop := w.ownsRow base 5 1 v bs.length (bv bs)

/-! ### folds -/
/-! ### a number's bytes -/
/-! ### a number read out of bytes: its fold, how many bytes, which error -/
end Go.Proofs.YtgapmofhnjfdiaaGreatDoor

namespace Go.Proofs.YtgapmofhnjfdiaaGreatDoor
open Go.RowKit

section
variable {P : Program} {w : World}

end

/-- The slice '.slice ao n cap' reads as the bytes bs in the world w. -/
def Rd (w : World) (ao : Option Addr) (n cap : Nat) (bs : List UInt8) : Prop :=
  bs.length = n ∧ n ≤ cap ∧ cap ≤ maxLen ∧ (ao = none → n = 0 ∧ cap = 0) ∧
  (0 < n → ∃ b off, ao = some ⟨b, off, none⟩ ∧ ∀ i (h : i < bs.length), w.cell? ⟨b, off + i, none⟩ = some (.int .u8 (bs[i].toNat : Int)))

theorem Rd.nil (w : World) : Rd w none 0 0 [] := ⟨rfl, Nat.le_refl _, Nat.zero_le _, fun _ => ⟨rfl, rfl⟩, fun h => by omega⟩

theorem Rd.later {w w' : World} {ao : Option Addr} {n cap : Nat} {bs : List UInt8} (h : Rd w ao n cap bs) (hb : Below w.heap.size w w') : Rd w' ao n cap bs := by
  obtain ⟨h1, h2, h3, h4, h5⟩ := h
  refine ⟨h1, h2, h3, h4, fun hn => ?_⟩
  obtain ⟨b, off, hao, hc⟩ := h5 hn
  refine ⟨b, off, hao, fun i hi => ?_⟩
  have := hc i hi
  rw [hb.cell (p := ⟨b, off + i, none⟩) (World.block_lt_of_cell? w _ this)]
  exact this

/-- In a world in which the slice's own block is as it was. -/
theorem Rd.kept {w w' : World} {ao : Option Addr} {n cap : Nat} {bs : List UInt8} (h : Rd w ao n cap bs) (hb : ∀ b off, ao = some ⟨b, off, none⟩ → b < w.heap.size → w'.heap[b]? = w.heap[b]?) : Rd w' ao n cap bs := by
  obtain ⟨h1, h2, h3, h4, h5⟩ := h
  refine ⟨h1, h2, h3, h4, fun hn => ?_⟩
  obtain ⟨b, off, hao, hc⟩ := h5 hn
  refine ⟨b, off, hao, fun i hi => ?_⟩
  have := hc i hi
  rw [World.cell?_of_block (w := w) (a := ⟨b, off + i, none⟩) (hb b off hao (World.block_lt_of_cell? w _ this))]
  exact this

/-- What a row of the call's own reads as. -/
theorem Own.rd {w : World} {base : Nat} {v : Value} {bs : List UInt8} (h : Own w base v bs) :
    ∃ ao cap, v = .slice ao bs.length cap ∧ Rd w ao bs.length cap bs ∧ (ao = none ∨ ∃ g, ao = some ⟨g, 0, none⟩ ∧ base ≤ g ∧ g < w.heap.size ∧ v.ownBlock = some g) := by
  have hlt := World.ownsRow.lt h
  obtain ⟨h1, h2⟩ := h
  rcases h2 with ⟨rfl, hn⟩ | ⟨g, cap, cur, rfl, hb, hg, hnc, hcm, hcs, htake⟩
  · have : bs = [] := List.eq_nil_of_length_eq_zero hn
    subst this
    exact ⟨none, 0, rfl, Rd.nil w, .inl rfl⟩
  · refine ⟨some ⟨g, 0, none⟩, cap, rfl, ⟨rfl, hnc, hcm, (fun h => by cases h), fun _ => ⟨g, 0, rfl, fun i hi => ?_⟩⟩, .inr ⟨g, rfl, hb, (hlt g rfl).2, rfl⟩⟩
    rw [cell_of_row w g (0 + i) cur 5 (0, 0) hg]
    have e := bv_at bs i hi
    rw [← htake, List.getElem?_take] at e
    split at e
    · simpa using e
    · cases e

theorem Own.later {w w' : World} {base : Nat} {v : Value} {bs : List UInt8} (h : Own w base v bs) (hb : Below w.heap.size w w') : Own w' base v bs := by
  obtain ⟨h1, h2⟩ := h
  refine ⟨h1, ?_⟩
  rcases h2 with hn | ⟨g, cap, cur, hv, hbg, hg, rest⟩
  · exact .inl hn
  · refine .inr ⟨g, cap, cur, hv, hbg, ?_, rest⟩
    rw [hb.block g (Array.getElem?_eq_some_iff.1 hg).1]
    exact hg

theorem Own.more {w : World} {base base' : Nat} {v : Value} {bs : List UInt8} (h : Own w base v bs) (hb : base' ≤ base) : Own w base' v bs := by
  obtain ⟨h1, h2⟩ := h
  refine ⟨h1, ?_⟩
  rcases h2 with hn | ⟨g, cap, cur, hv, hbg, rest⟩
  · exact .inl hn
  · exact .inr ⟨g, cap, cur, hv, by omega, rest⟩

/-- 'string(b)'. -/
theorem run_string_of {P : Program} {w : World} {ao : Option Addr} {n cap : Nat} {bs : List UInt8} (src dst e : TypeId) (hs : P.underlying src = some (.slice e)) (he : P.underlying e = some (.int .u8)) (hd : P.underlying dst = some .string)
    (h : Rd w ao n cap bs) : (convert src dst (.slice ao n cap)).run P w = .ok (.string ⟨bs.toArray⟩) w := by
  obtain ⟨rfl, h2, h3, h4, h5⟩ := h
  cases ao with
  | none =>
    obtain ⟨hn, _⟩ := h4 rfl
    have : bs = [] := List.eq_nil_of_length_eq_zero hn
    subst this
    rw [run_convert_bytes_nil (P := P) w src e hs he _ _ dst hd]
    rfl
  | some a =>
    refine run_convert_bytes_back w src dst e a cap bs hs he hd fun j hj => ?_
    obtain ⟨b, off, hao, hc⟩ := h5 (by omega)
    obtain rfl := Option.some.inj hao
    rw [Addr.add_lit]
    exact hc j hj

end Go.Proofs.YtgapmofhnjfdiaaGreatDoor

namespace Go.Proofs.YtgapmofhnjfdiaaGreatDoor
open Go.RowKit

theorem Tryz.info5 : (Tryz.prog.info? 5).map (fun i => (i.zero, i.size, i.bytes)) = some (some (.int .u8 0), 1, 1) := by kernel_rfl

theorem own_of {w : World} {base n : Nat} {v : Value} {bs : List UInt8} (h : w.ownsRow base 5 1 v n (bv bs)) : Own w base v bs := by
  have e : n = bs.length := by have := h.1; rw [bv_length] at this; omega
  unfold Own
  rw [← e]
  exact h
theorem own_push {w : World} {base n : Nat} {v : Value} {bs : List UInt8} {b : UInt8} (h : w.ownsRow base 5 1 v n (bv bs ++ [Value.int .u8 (b.toNat : Int)])) : Own w base v (bs ++ [b]) :=
  own_of (bs := bs ++ [b]) (by rw [bv_append]; exact h)
theorem one_cell (k : IntKind) (n : Int) : ∀ u ∈ [Value.int k n], u.oneCell' = true := by
  intro u hu
  simp at hu
  subst hu
  rfl

end Go.Proofs.YtgapmofhnjfdiaaGreatDoor

namespace Go.Proofs.YtgapmofhnjfdiaaGreatDoor

end Go.Proofs.YtgapmofhnjfdiaaGreatDoor
