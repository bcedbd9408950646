/-
  Rows of values as they lie in memory; the contract of datum.checked.
  The contract of codec.Text (texts that fit); a value's bytes.
  The contracts of datum.appendValue and datum.Put.
  The contract of datum.Put.
  The contract of longstoplaw04.knows: whatever lies in memory, it answers true, and nothing that was there has changed.
  What every claim of this seat shares: the listed tables as the walks ask for them, and values that come in.
  The contracts of the library's Compare and Or, and of datum's byParts.
-/
import Derived.Test.YtclhmmgdhagloaaGreatDoorVRight2
import Derived.Test.YtclhmmgdhagloaaGreatDoorMaLJumps
import Derived.Test.YtclhmmgdhagloaaGreatDoorVQuote
import Derived.Test.YtclhmmgdhagloaaGreatDoorRows
import Derived.Test.YtclhmmgdhagloaaGreatDoorCards
import Derived.Test.YtclhmmgdhagloaaGreatDoorTie
import Derived.ProofKit
import Derived.LaidMore
import Derived.OpenShut
import Derived.ShutString
import Derived.Stop.Joined
import Derived.Lib.LaidTab
import Derived.Lib.LaidU8T
import Derived.Lib.LaidIn
import Derived.Lib.SmallJoins
import Derived.PinnedBridge
import Derived.Lay
import Derived.LaidOnce
import Derived.SevenTiedAt
import Derived.ChangeSame
import Derived.SizedLaws
import Derived.Deep.Slices
namespace Go.Proofs.YtclhmmgdhagloaaGreatDoor
open Go.RowKit Go.Shelf
attribute [local go_sem] cell?_more frozen?_more setCell_more more_lt more_more more_drew more_drewN setCell_drewN alloc_drewN

/-- A value lies in four cells of a block. -/
def At4 (w : World) (b o : Nat) (v : Va) : Prop :=
  w.cell? ⟨b, o, none⟩ = some (.int .i64 v.k) ∧ w.cell? ⟨b, o + 1, none⟩ = some (.int .i64 v.n) ∧ w.cell? ⟨b, o + 2, none⟩ = some (.int .i64 v.m) ∧ w.cell? ⟨b, o + 3, none⟩ = some (.string ⟨v.b.toArray⟩)
theorem At4.lt {w : World} {b o : Nat} {v : Va} (h : At4 w b o v) : b < w.heap.size := World.block_lt_of_cell? w _ h.1
theorem At4.later {w w' : World} {b o : Nat} {v : Va} (h : At4 w b o v) (hb : Below w.heap.size w w') : At4 w' b o v :=
  ⟨by rw [hb.cell (p := ⟨b, o, none⟩) h.lt]; exact h.1, by rw [hb.cell (p := ⟨b, o + 1, none⟩) h.lt]; exact h.2.1, by rw [hb.cell (p := ⟨b, o + 2, none⟩) h.lt]; exact h.2.2.1, by rw [hb.cell (p := ⟨b, o + 3, none⟩) h.lt]; exact h.2.2.2⟩

/-- A row of values lies behind an address. -/
def Vs (w : World) (ao : Option Addr) (l : List Va) : Prop :=
  0 < l.length → ∃ b off, ao = some ⟨b, off, none⟩ ∧ ∀ i (h : i < l.length), At4 w b (off + i * 4) l[i]
theorem Vs.later {w w' : World} {ao : Option Addr} {l : List Va} (h : Vs w ao l) (hb : Below w.heap.size w w') : Vs w' ao l := by
  intro hp
  obtain ⟨b, off, e, hc⟩ := h hp
  exact ⟨b, off, e, fun i hi => (hc i hi).later hb⟩

/-- A value that may be, as the program asks it. -/
def vr (v : Va) : Bool := vrt v.k v.n v.m ⟨v.b.toArray⟩
theorem vr_iff (v : Va) : vr v = true ↔ vok Lib.validD v := vrt_iff v.k v.n v.m ⟨v.b.toArray⟩
/-- A value as the program has it. -/
abbrev vv (v : Va) : Value := va v.k v.n v.m ⟨v.b.toArray⟩

end Go.Proofs.YtclhmmgdhagloaaGreatDoor

namespace Go.Proofs.YtclhmmgdhagloaaGreatDoor
open Go.RowKit

end Go.Proofs.YtclhmmgdhagloaaGreatDoor

namespace Go.Proofs.YtclhmmgdhagloaaGreatDoor
open Go.RowKit
attribute [local go_sem] cell?_more frozen?_more setCell_more more_lt more_more more_drew more_drewN setCell_drewN alloc_drewN

/-- A value lies in a block of its own. -/
def Box (w : World) (p : Nat) (v : Va) : Prop := w.heap[p]? = some (.cells #[.int .i64 v.k, .int .i64 v.n, .int .i64 v.m, .string ⟨v.b.toArray⟩] 42 (0, 0))
theorem Box.lt {w : World} {p : Nat} {v : Va} (h : Box w p v) : p < w.heap.size := by
  by_cases hp : p < w.heap.size
  · exact hp
  · unfold Box at h
    rw [Array.getElem?_eq_none (by omega)] at h
    cases h
theorem Box.later {w w' : World} {p : Nat} {v : Va} (h : Box w p v) (hb : Below w.heap.size w w') : Box w' p v := by
  unfold Box
  rw [hb.block p h.lt]
  exact h
theorem Box.at4 {w : World} {p : Nat} {v : Va} (h : Box w p v) : At4 w p 0 v :=
  ⟨by rw [cell_of_row w p 0 _ _ (0, 0) h]; rfl, by rw [cell_of_row w p (0 + 1) _ _ (0, 0) h]; rfl, by rw [cell_of_row w p (0 + 2) _ _ (0, 0) h]; rfl, by rw [cell_of_row w p (0 + 3) _ _ (0, 0) h]; rfl⟩
theorem Box.kept {w w' : World} {p base : Nat} {v : Va} {x : Value} {bs : List UInt8} (h : Box w p v) (ho : Own w base x bs) (hg : w.grownBy w' x.ownBlock) : Box w' p v := by
  unfold Box
  rw [hg.block p h.lt ?_]
  · exact h
  · intro e
    obtain ⟨h1, h2⟩ := ho
    rcases h2 with ⟨rfl, _⟩ | ⟨g, cap, cur, rfl, _, hg', _⟩
    · simp [Value.ownBlock] at e
    · simp [Value.ownBlock] at e
      subst e
      unfold Box at h
      rw [hg'] at h
      simp at h
theorem Box.free {w : World} {p : Nat} {v : Va} (h : Box w p v) (j : Nat) : w.frozen? ⟨p, j, none⟩ = false := by
  unfold Box at h
  simp [World.frozen?, h]
theorem Box.new (w : World) (k n m : Int) (b : List UInt8) : Box (w.alloc (.cells #[.int .i64 k, .int .i64 n, .int .i64 m, .string ⟨b.toArray⟩] 42)) w.heap.size ⟨k, n, m, b⟩ := by
  unfold Box
  show (w.heap.push _)[w.heap.size]? = _
  simp

end Go.Proofs.YtclhmmgdhagloaaGreatDoor

namespace Go.Proofs.YtclhmmgdhagloaaGreatDoor
open Go.RowKit Go.Shelf
attribute [local go_sem] cell?_more frozen?_more setCell_more more_lt more_more more_drew more_drewN setCell_drewN alloc_drewN

/-- A value's numbers are numbers of the program. -/
def vin (v : Va) : Prop := (-9223372036854775808 ≤ v.n ∧ v.n ≤ 9223372036854775807) ∧ (-9223372036854775808 ≤ v.m ∧ v.m ≤ 9223372036854775807)

/-- Bytes of values, one behind the other. -/
def many (f : Va → List UInt8) (l : List Va) : List UInt8 := l.flatMap f
end Go.Proofs.YtclhmmgdhagloaaGreatDoor

namespace Go.Proofs.YtclhmmgdhagloaaGreatDoor
open Go.RowKit Go.Shelf
attribute [local go_sem] cell?_more frozen?_more setCell_more more_lt more_more more_drew more_drewN setCell_drewN alloc_drewN

theorem ba_extract1 (c : UInt8) (l : List UInt8) : ((ByteArray.mk (c :: l).toArray).extract 0 1).toList = [c] := by
  have e : (ByteArray.mk (c :: l).toArray).extract 0 1 = ⟨#[c]⟩ := by
    apply ByteArray.ext
    simp [ByteArray.data_extract]
  rw [e, ByteArray.toList_eq]

theorem prefix0_any (s : ByteArray) (p : UInt8) (w : World) (hs : s.size ≤ 9223372036854775806) :
    Calls Tryz.prog 267 #[.string s, .string ⟨#[p]⟩] w fun e w' => e = .returned (.bool (s.data.toList.head? == some p)) ∧ w = w' := by
  obtain ⟨⟨l⟩⟩ := s
  match l, hs with
  | [], _ =>
    go_enter Tryz.func267, Tryz.ntmps267
    go_wp2
    all_goals go_ret
    all_goals exact ⟨rfl, rfl⟩
  | c :: l, hs =>
    have hsz : (ByteArray.mk (c :: l).toArray).size = l.length + 1 := rfl
    have hx : (((ByteArray.mk (c :: l).toArray).extract 0 1).toList == [p]) = (c == p) := by
      rw [ba_extract1]
      simp
    have e : ((ByteArray.mk (c :: l).toArray).data.toList.head? == some p) = (c == p) := by simp
    rw [e]
    have h1 : (1 : Int) ≤ (l.length : Int) + 1 := by omega
    have h2 : 1 ≤ l.length + 1 := by omega
    rw [hsz] at hs
    change (((ByteArray.mk (c :: l).toArray).extract 0 1).toList == [p]) = (c == p) at hx
    generalize ByteArray.mk (c :: l).toArray = B at *
    generalize l.length = n at *
    generalize (c == p) = g at *
    go_enter Tryz.func267, Tryz.ntmps267
    go_wp2
    all_goals go_ret
    all_goals exact ⟨rfl, rfl⟩

theorem prefix_any (s : ByteArray) (p : UInt8) (w : World) (hs : s.size ≤ 9223372036854775806) :
    Calls Tryz.prog 245 #[.string s, .string ⟨#[p]⟩] w fun e w' => e = .returned (.bool (s.data.toList.head? == some p)) ∧ w = w' := by
  have P := fun W => prefix0_any s p W hs
  generalize (s.data.toList.head? == some p) = g at *
  go_enter Tryz.func245, Tryz.ntmps245
  go_wp2_with (go_at_call 267; refine (P _).mono ?_; rintro e w' ⟨rfl, rfl⟩)
  go_ret
  exact ⟨rfl, rfl⟩

/-- The text as a value. -/
abbrev X0 : Va := ⟨3, 0, 0, [105, 116, 39, 115]⟩

end Go.Proofs.YtclhmmgdhagloaaGreatDoor

namespace Go.Proofs.YtclhmmgdhagloaaGreatDoor
open Go.ChangeShapes Go.WideShapes Go.ChangeAt Go.WideMaps Go.WideElems Go.RowKit Go.Shelf Go.Lib

theorem own : ownKnob Tryz.prog.godebug = none := by kernel_rfl
theorem tabs_of {W : World} (h1 : VarReads Tryz.prog W "unicode/utf8.first" Rows.laid_unicode_utf8_first) (h2 : VarReads Tryz.prog W "unicode/utf8.acceptRanges" Rows.laid_unicode_utf8_acceptRanges) : Tabs W :=
  utf8Tabs_of_readsT (U8Types.of196 Tryz.laysValid) ⟨by kernel_rfl, by kernel_rfl, by kernel_rfl, by kernel_rfl, by kernel_rfl, by kernel_rfl, by kernel_rfl⟩
    (Pinned.utf8First_eq ▸ h1) ((show Rows.laid_unicode_utf8_acceptRanges = Lib.acceptData by kernel_rfl) ▸ h2)

end Go.Proofs.YtclhmmgdhagloaaGreatDoor

namespace Go.Proofs.YtclhmmgdhagloaaGreatDoor
open Go.RowKit Go.Shelf
attribute [local go_sem] cell?_more frozen?_more setCell_more more_lt more_more more_drew more_drewN setCell_drewN alloc_drewN

end Go.Proofs.YtclhmmgdhagloaaGreatDoor
