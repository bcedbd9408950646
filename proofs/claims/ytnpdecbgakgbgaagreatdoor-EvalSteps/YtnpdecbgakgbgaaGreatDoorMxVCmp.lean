/-
  Rows of values as they lie in memory; the contract of datum.checked.
  The contract of codec.Text (texts that fit); a value's bytes.
  The contracts of datum.appendValue and datum.Put.
  The contract of datum.Put.
  The contract of longstoplaw04.knows: whatever lies in memory, it answers true, and nothing that was there has changed.
  What every claim of this seat shares: the listed tables as the walks ask for them, and values that come in.
  The contracts of the library's Compare and Or, and of datum's byParts.
-/
import Derived.Test.YtnpdecbgakgbgaaGreatDoorVRight2
import Derived.Test.YtnpdecbgakgbgaaGreatDoorMaLJumps
import Derived.Test.YtnpdecbgakgbgaaGreatDoorVQuote
import Derived.Test.YtnpdecbgakgbgaaGreatDoorRows
import Derived.Test.YtnpdecbgakgbgaaGreatDoorCards
import Derived.Test.YtnpdecbgakgbgaaGreatDoorTie
import Derived.ProofKit
import Derived.LaidMore
import Derived.OpenShut
import Derived.ShutString
import Derived.Stop.Joined
import Derived.Lib.LaidTab
import Derived.Lib.LaidU8T
import Derived.Lib.LaidIn
import Derived.Lib.SmallJoins
import Derived.PinnedBridge
import Derived.Lay
import Derived.LaidOnce
import Derived.SevenTiedAt
import Derived.ChangeSame
import Derived.SizedLaws
import Derived.Deep.Slices
namespace Go.Proofs.YtnpdecbgakgbgaaGreatDoor
open Go.RowKit Go.Shelf
attribute [local go_sem] cell?_more frozen?_more setCell_more more_lt more_more more_drew more_drewN setCell_drewN alloc_drewN

/-- A value lies in four cells of a block. -/
def At4 (w : World) (b o : Nat) (v : Va) : Prop :=
  w.cell? ⟨b, o, none⟩ = some (.int .i64 v.k) ∧ w.cell? ⟨b, o + 1, none⟩ = some (.int .i64 v.n) ∧ w.cell? ⟨b, o + 2, none⟩ = some (.int .i64 v.m) ∧ w.cell? ⟨b, o + 3, none⟩ = some (.string ⟨v.b.toArray⟩)
theorem At4.lt {w : World} {b o : Nat} {v : Va} (h : At4 w b o v) : b < w.heap.size := World.block_lt_of_cell? w _ h.1
theorem At4.later {w w' : World} {b o : Nat} {v : Va} (h : At4 w b o v) (hb : Below w.heap.size w w') : At4 w' b o v :=
  ⟨by rw [hb.cell (p := ⟨b, o, none⟩) h.lt]; exact h.1, by rw [hb.cell (p := ⟨b, o + 1, none⟩) h.lt]; exact h.2.1, by rw [hb.cell (p := ⟨b, o + 2, none⟩) h.lt]; exact h.2.2.1, by rw [hb.cell (p := ⟨b, o + 3, none⟩) h.lt]; exact h.2.2.2⟩

/-- A row of values lies behind an address. -/
def Vs (w : World) (ao : Option Addr) (l : List Va) : Prop :=
  0 < l.length → ∃ b off, ao = some ⟨b, off, none⟩ ∧ ∀ i (h : i < l.length), At4 w b (off + i * 4) l[i]
theorem Vs.later {w w' : World} {ao : Option Addr} {l : List Va} (h : Vs w ao l) (hb : Below w.heap.size w w') : Vs w' ao l := by
  intro hp
  obtain ⟨b, off, e, hc⟩ := h hp
  exact ⟨b, off, e, fun i hi => (hc i hi).later hb⟩

/-- A value that may be, as the program asks it. -/
def vr (v : Va) : Bool := vrt v.k v.n v.m ⟨v.b.toArray⟩
theorem vr_iff (v : Va) : vr v = true ↔ vok Lib.validD v := vrt_iff v.k v.n v.m ⟨v.b.toArray⟩
/-- A value as the program has it. -/
abbrev vv (v : Va) : Value := va v.k v.n v.m ⟨v.b.toArray⟩

/-- The error of a list that is no row. -/
def ckE (l : List Va) : Int := if 64 < l.length then 6 else if l.all vr then 0 else 1

end Go.Proofs.YtnpdecbgakgbgaaGreatDoor

namespace Go.Proofs.YtnpdecbgakgbgaaGreatDoor
open Go.RowKit

def textBytes (s : ByteArray) : List UInt8 := numBytes (s.size : Int) ++ s.data.toList

theorem own_append {w : World} {base n : Nat} {v : Value} {a b : List UInt8} (h : w.ownsRow base 5 1 v n (bv a ++ bv b)) : Own w base v (a ++ b) :=
  own_of (bs := a ++ b) (by rw [bv_append]; exact h)
theorem own_start {w : World} {base : Nat} {v : Value} (h : w.ownsRow base 5 1 v 0 []) : Own w base v [] := h

/-- A value's bytes. -/
def vbytes (v : Va) : List UInt8 :=
  numBytes v.k ++ (if v.k = 1 ∨ v.k = 4 then numBytes v.n else if v.k = 2 ∨ v.k = 5 then numBytes v.n ++ numBytes v.m else if v.k = 3 then textBytes ⟨v.b.toArray⟩ else [])

end Go.Proofs.YtnpdecbgakgbgaaGreatDoor

namespace Go.Proofs.YtnpdecbgakgbgaaGreatDoor
open Go.RowKit
attribute [local go_sem] cell?_more frozen?_more setCell_more more_lt more_more more_drew more_drewN setCell_drewN alloc_drewN

/-- A value lies in a block of its own. -/
def Box (w : World) (p : Nat) (v : Va) : Prop := w.heap[p]? = some (.cells #[.int .i64 v.k, .int .i64 v.n, .int .i64 v.m, .string ⟨v.b.toArray⟩] 30 (0, 0))
theorem Box.lt {w : World} {p : Nat} {v : Va} (h : Box w p v) : p < w.heap.size := by
  by_cases hp : p < w.heap.size
  · exact hp
  · unfold Box at h
    rw [Array.getElem?_eq_none (by omega)] at h
    cases h
theorem Box.later {w w' : World} {p : Nat} {v : Va} (h : Box w p v) (hb : Below w.heap.size w w') : Box w' p v := by
  unfold Box
  rw [hb.block p h.lt]
  exact h
theorem Box.at4 {w : World} {p : Nat} {v : Va} (h : Box w p v) : At4 w p 0 v :=
  ⟨by rw [cell_of_row w p 0 _ _ (0, 0) h]; rfl, by rw [cell_of_row w p (0 + 1) _ _ (0, 0) h]; rfl, by rw [cell_of_row w p (0 + 2) _ _ (0, 0) h]; rfl, by rw [cell_of_row w p (0 + 3) _ _ (0, 0) h]; rfl⟩
theorem Box.kept {w w' : World} {p base : Nat} {v : Va} {x : Value} {bs : List UInt8} (h : Box w p v) (ho : Own w base x bs) (hg : w.grownBy w' x.ownBlock) : Box w' p v := by
  unfold Box
  rw [hg.block p h.lt ?_]
  · exact h
  · intro e
    obtain ⟨h1, h2⟩ := ho
    rcases h2 with ⟨rfl, _⟩ | ⟨g, cap, cur, rfl, _, hg', _⟩
    · simp [Value.ownBlock] at e
    · simp [Value.ownBlock] at e
      subst e
      unfold Box at h
      rw [hg'] at h
      simp at h
theorem Box.free {w : World} {p : Nat} {v : Va} (h : Box w p v) (j : Nat) : w.frozen? ⟨p, j, none⟩ = false := by
  unfold Box at h
  simp [World.frozen?, h]
theorem Box.new (w : World) (k n m : Int) (b : List UInt8) : Box (w.alloc (.cells #[.int .i64 k, .int .i64 n, .int .i64 m, .string ⟨b.toArray⟩] 30)) w.heap.size ⟨k, n, m, b⟩ := by
  unfold Box
  show (w.heap.push _)[w.heap.size]? = _
  simp

end Go.Proofs.YtnpdecbgakgbgaaGreatDoor

namespace Go.Proofs.YtnpdecbgakgbgaaGreatDoor
open Go.RowKit Go.Shelf
attribute [local go_sem] cell?_more frozen?_more setCell_more more_lt more_more more_drew more_drewN setCell_drewN alloc_drewN

/-- A value's numbers are numbers of the program. -/
def vin (v : Va) : Prop := (-9223372036854775808 ≤ v.n ∧ v.n ≤ 9223372036854775807) ∧ (-9223372036854775808 ≤ v.m ∧ v.m ≤ 9223372036854775807)

theorem vbytes_len (v : Va) (hv : vr v = true) : (vbytes v).length ≤ 300 := by
  have hk := (vr_iff v).1 hv
  obtain ⟨k, n, m, b⟩ := v
  have a := (numBytes_len k).2
  have b1 := (numBytes_len n).2
  have b2 := (numBytes_len m).2
  have b3 := (numBytes_len ((ByteArray.mk b.toArray).size : Int)).2
  simp only [vok] at hk
  simp only [vbytes, List.length_append]
  repeat' split
  · omega
  · simp only [List.length_append]; omega
  · have hb : b.length ≤ 256 := by rcases hk with h | h | h | h | h | h <;> (try omega) <;> exact h.2.2.2.1
    have hs : (ByteArray.mk b.toArray).data.toList.length = b.length := by simp
    simp only [textBytes, List.length_append]
    omega
  · simp; omega

/-- Bytes of values, one behind the other. -/
def many (f : Va → List UInt8) (l : List Va) : List UInt8 := l.flatMap f
theorem many_take (f : Va → List UInt8) (l : List Va) (k : Nat) (h : k < l.length) : many f (l.take (k + 1)) = many f (l.take k) ++ f l[k] := by
  unfold many
  rw [← List.take_append_getElem h]
  simp only [List.flatMap_append, List.flatMap_cons, List.flatMap_nil, List.append_nil]
theorem many_len (f : Va → List UInt8) (c : Nat) (l : List Va) (h : ∀ v ∈ l, (f v).length ≤ c) : (many f l).length ≤ c * l.length := by
  induction l with
  | nil => simp [many]
  | cons v l ih =>
    have h1 := h v (by simp)
    have h2 := ih fun v hv => h v (by simp [hv])
    simp only [many, List.flatMap_cons, List.length_append, List.length_cons, Nat.mul_succ] at *
    omega

end Go.Proofs.YtnpdecbgakgbgaaGreatDoor

namespace Go.Proofs.YtnpdecbgakgbgaaGreatDoor
open Go.RowKit Go.Shelf
attribute [local go_sem] cell?_more frozen?_more setCell_more more_lt more_more more_drew more_drewN setCell_drewN alloc_drewN

theorem ba_extract1 (c : UInt8) (l : List UInt8) : ((ByteArray.mk (c :: l).toArray).extract 0 1).toList = [c] := by
  have e : (ByteArray.mk (c :: l).toArray).extract 0 1 = ⟨#[c]⟩ := by
    apply ByteArray.ext
    simp [ByteArray.data_extract]
  rw [e, ByteArray.toList_eq]

theorem prefix0_any (s : ByteArray) (p : UInt8) (w : World) (hs : s.size ≤ 9223372036854775806) :
    Calls Tryz.prog 246 #[.string s, .string ⟨#[p]⟩] w fun e w' => e = .returned (.bool (s.data.toList.head? == some p)) ∧ w = w' := by
  obtain ⟨⟨l⟩⟩ := s
  match l, hs with
  | [], _ =>
    go_enter Tryz.func246, Tryz.ntmps246
    go_wp2
    all_goals go_ret
    all_goals exact ⟨rfl, rfl⟩
  | c :: l, hs =>
    have hsz : (ByteArray.mk (c :: l).toArray).size = l.length + 1 := rfl
    have hx : (((ByteArray.mk (c :: l).toArray).extract 0 1).toList == [p]) = (c == p) := by
      rw [ba_extract1]
      simp
    have e : ((ByteArray.mk (c :: l).toArray).data.toList.head? == some p) = (c == p) := by simp
    rw [e]
    have h1 : (1 : Int) ≤ (l.length : Int) + 1 := by omega
    have h2 : 1 ≤ l.length + 1 := by omega
    rw [hsz] at hs
    change (((ByteArray.mk (c :: l).toArray).extract 0 1).toList == [p]) = (c == p) at hx
    generalize ByteArray.mk (c :: l).toArray = B at *
    generalize l.length = n at *
    generalize (c == p) = g at *
    go_enter Tryz.func246, Tryz.ntmps246
    go_wp2
    all_goals go_ret
    all_goals exact ⟨rfl, rfl⟩

theorem prefix_any (s : ByteArray) (p : UInt8) (w : World) (hs : s.size ≤ 9223372036854775806) :
    Calls Tryz.prog 232 #[.string s, .string ⟨#[p]⟩] w fun e w' => e = .returned (.bool (s.data.toList.head? == some p)) ∧ w = w' := by
  have P := fun W => prefix0_any s p W hs
  generalize (s.data.toList.head? == some p) = g at *
  go_enter Tryz.func232, Tryz.ntmps232
  go_wp2_with (go_at_call 246; refine (P _).mono ?_; rintro e w' ⟨rfl, rfl⟩)
  go_ret
  exact ⟨rfl, rfl⟩

/-- A text with a quote, and as it is told. -/
abbrev T0 : ByteArray := ⟨#[105, 116, 39, 115]⟩
abbrev S0 : ByteArray := ⟨#[39, 105, 116, 39, 39, 115, 39]⟩

set_option maxHeartbeats 1000000 in
theorem told0 (w : World) : Calls Tryz.prog 221 #[.string S0] w fun e w' => e = .returned (.tuple #[va 3 0 0 T0, .bool true]) ∧ Below w.heap.size w w' := by
  have H : ∀ W, Calls Tryz.prog 232 #[.string S0, .string ⟨#[39]⟩] W fun e w' => e = .returned (.bool true) ∧ W = w' := fun W => prefix_any S0 39 W (by decide)
  have U : ∀ W, Calls Tryz.prog 233 #[.string S0] W fun e w' => e = .returned (.tuple #[.string T0, .bool true]) ∧ Below W.heap.size W w' := fun W => unquoted_any S0 W (by decide)
  go_enter Tryz.func221, Tryz.ntmps221
  go_wp2_with (first
    | (go_at_call 232; refine (H _).mono ?_; rintro e w' ⟨rfl, rfl⟩)
    | (go_at_call 233; refine (U _).mono ?_; rintro e w1 ⟨rfl, b1⟩; have bx : Box w1 w.heap.size ⟨0, 0, 0, []⟩ := (Box.new w 0 0 0 []).later b1; obtain ⟨c0, c1, c2, c3⟩ := bx.at4; have f0 := bx.free 0; have f1 := bx.free 1; have f2 := bx.free 2; have f3 := bx.free 3; have lt1 := bx.lt; clear bx))
  refine bodyPost_ret_by (v := .tuple #[va 3 0 0 T0, .bool true]) ?_ rfl ⟨rfl, ?_⟩
  · simp [results, Tryz.results221, go_sem, c0, c1, c2, c3]
  · have b0 : Below w.heap.size w w1 := ((Below.refl _ w).alloc (Nat.le_refl _) _).trans (b1.mono (by simp))
    exact (((b0.setCell (p := ⟨w.heap.size, 0, none⟩) (Nat.le_refl _) _).setCell (p := ⟨w.heap.size, 1, none⟩) (Nat.le_refl _) _).setCell (p := ⟨w.heap.size, 2, none⟩) (Nat.le_refl _) _).setCell (p := ⟨w.heap.size, 3, none⟩) (Nat.le_refl _) _

theorem print0 (w : World) (hT : Tabs w) : Calls Tryz.prog 84 #[va 3 0 0 T0] w fun e w' => e = .returned (.string S0) ∧ Below w.heap.size w w' := by
  have hr : vrt 3 0 0 T0 = true := by decide +kernel
  have R : ∀ W, Grew w W → Calls Tryz.prog 35 #[va 3 0 0 T0] W fun e w' => e = .returned (.bool true) ∧ Below W.heap.size W w' := fun W h => by have := vright_any 3 0 0 T0 W (hT.later h.below); rwa [hr] at this
  have Q : ∀ W, Calls Tryz.prog 148 #[.string T0] W fun e w' => e = .returned (.string S0) ∧ Below W.heap.size W w' := fun W => quoted_any T0 W (by decide)
  clear hT hr
  go_enter Tryz.func84, Tryz.ntmps84
  go_wp2_with (first
    | (go_at_call 35; refine (R _ (by repeat (first | exact Grew.refl _ | apply Grew.drew | apply Grew.drewN | apply Grew.alloc | apply Grew.more))).mono ?_; rintro e w1 ⟨rfl, b1⟩; have bx : Box w1 w.heap.size ⟨3, 0, 0, [105, 116, 39, 115]⟩ := (Box.new w 3 0 0 [105, 116, 39, 115]).later b1; obtain ⟨c0, c1, c2, c3⟩ := bx.at4; clear bx)
    | (go_at_call 148; refine (Q _).mono ?_; rintro e w2 ⟨rfl, b2⟩))
  have b0 : Below w.heap.size w w1 := ((Below.refl _ w).alloc (Nat.le_refl _) _).trans (b1.mono (by simp))
  all_goals go_ret
  exact ⟨rfl, below_trans b0 b2⟩

theorem parse0 (w : World) (hT : Tabs w) : Calls Tryz.prog 197 #[.string S0] w fun e w' => e = .returned (.tuple #[va 3 0 0 T0, .int .i64 0]) ∧ Below w.heap.size w w' := by
  have T := fun W => told0 W
  have P : ∀ W, Below w.heap.size w W → Calls Tryz.prog 84 #[va 3 0 0 T0] W fun e w' => e = .returned (.string S0) ∧ Below W.heap.size W w' := fun W h => print0 W (hT.later h)
  clear hT
  go_enter Tryz.func197, Tryz.ntmps197
  go_wp2_with fail
  refine (T _).mono ?_
  rintro e w1 ⟨rfl, b1⟩
  have bx0 : Box w1 w.heap.size ⟨0, 0, 0, []⟩ := (Box.new w 0 0 0 []).later b1
  have B1 : Below w.heap.size w w1 := ((Below.refl _ w).alloc (Nat.le_refl _) _).trans (b1.mono (by simp))
  have s1 := B1.size
  clear b1
  go_wp2_with fail
  refine (P _ (B1.alloc s1 _)).mono ?_
  rintro e w2 ⟨rfl, b2⟩
  have bx1 : Box w2 w1.heap.size ⟨3, 0, 0, [105, 116, 39, 115]⟩ := (Box.new w1 3 0 0 [105, 116, 39, 115]).later b2
  have b12 : Below w1.heap.size w1 w2 := ((Below.refl _ w1).alloc (Nat.le_refl _) _).trans (b2.mono (by simp))
  have bx2 := bx0.later b12
  have B2 : Below w.heap.size w w2 := B1.trans (b12.mono s1)
  obtain ⟨c0, c1, c2, c3⟩ := bx1.at4
  obtain ⟨d0, d1, d2, d3⟩ := bx2.at4
  have f0 := bx2.free 0
  have f1 := bx2.free 1
  have f2 := bx2.free 2
  have f3 := bx2.free 3
  have lt1 := bx2.lt
  clear bx0 bx1 bx2 B1 s1 b12 b2 P T
  go_wp2
  refine bodyPost_ret_by (v := .tuple #[va 3 0 0 T0, .int .i64 0]) ?_ rfl ⟨rfl, ?_⟩
  · simp [results, Tryz.results197, go_sem, d0, d1, d2, d3]
  · exact (((B2.setCell (p := ⟨w.heap.size, 0, none⟩) (Nat.le_refl _) _).setCell (p := ⟨w.heap.size, 1, none⟩) (Nat.le_refl _) _).setCell (p := ⟨w.heap.size, 2, none⟩) (Nat.le_refl _) _).setCell (p := ⟨w.heap.size, 3, none⟩) (Nat.le_refl _) _

/-- The text as a value. -/
abbrev X0 : Va := ⟨3, 0, 0, [105, 116, 39, 115]⟩

end Go.Proofs.YtnpdecbgakgbgaaGreatDoor

namespace Go.Proofs.YtnpdecbgakgbgaaGreatDoor
open Go.ChangeShapes Go.WideShapes Go.ChangeAt Go.WideMaps Go.WideElems Go.RowKit Go.Shelf Go.Lib

theorem own : ownKnob Tryz.prog.godebug = none := by kernel_rfl
theorem laidOut : laidOutB Tryz.prog = true := by kernel_rfl

theorem tabs_of {W : World} (h1 : VarReads Tryz.prog W "unicode/utf8.first" Rows.laid_unicode_utf8_first) (h2 : VarReads Tryz.prog W "unicode/utf8.acceptRanges" Rows.laid_unicode_utf8_acceptRanges) : Tabs W :=
  utf8Tabs_of_readsT (U8Types.of196 Tryz.laysValid) ⟨by kernel_rfl, by kernel_rfl, by kernel_rfl, by kernel_rfl, by kernel_rfl, by kernel_rfl, by kernel_rfl⟩
    (Pinned.utf8First_eq ▸ h1) ((show Rows.laid_unicode_utf8_acceptRanges = Lib.acceptData by kernel_rfl) ▸ h2)

theorem in_i64 {a : Int} (h : (Lit.int .i64 a).wf = true) : -9223372036854775808 ≤ a ∧ a ≤ 9223372036854775807 := bounds_i64 h

set_option maxRecDepth 100000 in
theorem val_cells {H : Type} {enc : TypeId × Value → H} {W : World} {fuel : Nat} {cs : List Value} {x : DataW H × List MemPlace}
    (hf : DataW.trod enc Tryz.prog W 0 (fun _ => true) true fuel 30 cs = some x) :
    ∃ v : Va, cs = [.int .i64 v.k, .int .i64 v.n, .int .i64 v.m, .string ⟨v.b.toArray⟩] ∧ vin v ∧ (-9223372036854775808 ≤ v.k ∧ v.k ≤ 9223372036854775807) ∧ v.b.length ≤ maxLen := by
  obtain ⟨y0, y1, y2, y3, m, _, hl, h0, h1, h2, h3⟩ := Go.Joins.trod_struct4 Tryz.underlying30 hf
  have hc : Tryz.prog.cellsOf 30 = 4 := by kernel_rfl
  rw [hc] at hl
  match cs, hl with
  | [c0, c1, c2, c3], _ =>
    obtain ⟨a, ea, rfl, wa⟩ := DataW.trod_int Tryz.underlying3 h0
    obtain ⟨b, eb, rfl, wb⟩ := DataW.trod_int Tryz.underlying3 h1
    obtain ⟨c, ec, rfl, wc⟩ := DataW.trod_int Tryz.underlying3 h2
    obtain ⟨s, es, rfl, ws⟩ := DataW.trod_string Tryz.underlying9 h3
    have c1' : Tryz.prog.cellsOf 3 = 1 := by kernel_rfl
    have c2' : Tryz.prog.cellsOf 9 = 1 := by kernel_rfl
    rw [c1'] at ea eb ec
    rw [c2'] at es
    simp at ea eb ec es
    subst ea; subst eb; subst ec; subst es
    exact ⟨⟨a, b, c, s.data.toList⟩, rfl, ⟨in_i64 wb, in_i64 wc⟩, in_i64 wa, ws⟩
end Go.Proofs.YtnpdecbgakgbgaaGreatDoor

namespace Go.Proofs.YtnpdecbgakgbgaaGreatDoor
open Go.RowKit Go.Shelf
attribute [local go_sem] cell?_more frozen?_more setCell_more more_lt more_more more_drew more_drewN setCell_drewN alloc_drewN

theorem nanI_any (x : Int) (w : World) : Calls Tryz.prog 165 #[.int .i64 x] w fun e w' => e = .returned (.bool false) ∧ w = w' := by
  go_enter Tryz.func165, Tryz.ntmps165
  go_wp2
  all_goals go_ret
  all_goals exact ⟨rfl, rfl⟩
theorem nanS_any (x : ByteArray) (w : World) : Calls Tryz.prog 215 #[.string x] w fun e w' => e = .returned (.bool false) ∧ w = w' := by
  go_enter Tryz.func215, Tryz.ntmps215
  go_wp2
  all_goals go_ret
  all_goals exact ⟨rfl, rfl⟩

theorem cmpI_any (x y : Int) (w : World) : Calls Tryz.prog 107 #[.int .i64 x, .int .i64 y] w fun e w' => e = .returned (.int .i64 (numc x y)) ∧ w = w' := by
  by_cases h : x < y
  · rw [show numc x y = -1 by unfold numc; rw [if_pos h]]
    go_enter Tryz.func107, Tryz.ntmps107
    go_wp2_with (go_at_call 165; refine (nanI_any _ _).mono ?_; rintro e w' ⟨rfl, rfl⟩)
    all_goals go_ret
    all_goals exact ⟨rfl, rfl⟩
  · by_cases h' : y < x
    · rw [show numc x y = 1 by unfold numc; rw [if_neg h, if_pos h']]
      go_enter Tryz.func107, Tryz.ntmps107
      go_wp2_with (go_at_call 165; refine (nanI_any _ _).mono ?_; rintro e w' ⟨rfl, rfl⟩)
      all_goals go_ret
      all_goals exact ⟨rfl, rfl⟩
    · rw [show numc x y = 0 by unfold numc; rw [if_neg h, if_neg (by omega)]]
      go_enter Tryz.func107, Tryz.ntmps107
      go_wp2_with (go_at_call 165; refine (nanI_any _ _).mono ?_; rintro e w' ⟨rfl, rfl⟩)
      all_goals go_ret
      all_goals exact ⟨rfl, rfl⟩

theorem lexc_eq (x y : List UInt8) : (x == y) = decide (lexc x y = 0) := by
  by_cases h : x = y
  · subst h; simp [lexc_refl]
  · have : lexc x y ≠ 0 := fun h0 => h (lexc_zero h0)
    simp [h, this]

theorem cmpS_any (x y : ByteArray) (w : World) : Calls Tryz.prog 175 #[.string x, .string y] w fun e w' => e = .returned (.int .i64 (lexc x.data.toList y.data.toList)) ∧ w = w' := by
  have h1 := lexc_less x.data.toList y.data.toList
  have h2 := lexc_eq x.data.toList y.data.toList
  have h3 := lexc_range x.data.toList y.data.toList
  have l1 : Op.bytesLess x.toList y.toList = decide (lexc x.data.toList y.data.toList < 0) := by rw [Lib.toList_data, Lib.toList_data]; exact h1
  have l2 : (x.toList == y.toList) = decide (lexc x.data.toList y.data.toList = 0) := by rw [Lib.toList_data, Lib.toList_data]; exact h2
  generalize lexc x.data.toList y.data.toList = c at *
  rcases h3 with rfl | rfl | rfl
  · have l1' : Op.bytesLess x.toList y.toList = true := l1
    clear h1 h2 l1 l2
    go_enter Tryz.func175, Tryz.ntmps175
    go_wp2_with (go_at_call 215; refine (nanS_any _ _).mono ?_; rintro e w' ⟨rfl, rfl⟩)
    all_goals go_ret
    all_goals exact ⟨rfl, rfl⟩
  · have l1' : Op.bytesLess x.toList y.toList = false := l1
    have l2' : (x.toList == y.toList) = true := l2
    clear h1 h2 l1 l2
    go_enter Tryz.func175, Tryz.ntmps175
    go_wp2_with (go_at_call 215; refine (nanS_any _ _).mono ?_; rintro e w' ⟨rfl, rfl⟩)
    all_goals go_ret
    all_goals exact ⟨rfl, rfl⟩
  · have l1' : Op.bytesLess x.toList y.toList = false := l1
    have l2' : (x.toList == y.toList) = false := l2
    clear h1 h2 l1 l2
    go_enter Tryz.func175, Tryz.ntmps175
    go_wp2_with (go_at_call 215; refine (nanS_any _ _).mono ?_; rintro e w' ⟨rfl, rfl⟩)
    all_goals go_ret
    all_goals exact ⟨rfl, rfl⟩

/-- The first that is not 0. -/
def orL : List Int → Int
  | [] => 0
  | z :: l => orr z (orL l)
theorem orL_drop (zs : List Int) (k : Nat) (h : ∀ i (h : i < zs.length), i < k → zs[i] = 0) : orL zs = orL (zs.drop k) := by
  induction k generalizing zs with
  | zero => rfl
  | succ k ih =>
    cases zs with
    | nil => rfl
    | cons z l =>
      have h0 : z = 0 := h 0 (by simp) (by omega)
      subst h0
      simp only [orL, orr_zero, List.drop_succ_cons]
      exact ih l fun i hi hk => h (i + 1) (by simp; omega) (by omega)

set_option maxHeartbeats 1000000 in
theorem or_of (b n : Nat) (zs : List Int) (w : World) (hn : zs.length = n) (hl : n ≤ 1000) (hc : ∀ i (h : i < zs.length), w.cell? ⟨b, i, none⟩ = some (.int .i64 zs[i])) :
    Calls Tryz.prog 174 #[.slice (some ⟨b, 0, none⟩) n n] w fun e w' => e = .returned (.int .i64 (orL zs)) ∧ w = w' := by
  obtain ⟨R, hR⟩ : ∃ R, R = orL zs := ⟨_, rfl⟩
  rw [← hR]
  have HN : Hid (zs.length = n) := hn
  have HC : Hid (∀ i (h : i < zs.length), w.cell? ⟨b, i, none⟩ = some (.int .i64 zs[i])) := hc
  have HR : Hid (R = orL zs) := hR
  clear hn hc hR
  go_enter Tryz.func174, Tryz.ntmps174
  go_wp2
  go_loopw [8] (fun r wr => ∃ k : Nat, r = .int .i64 (k : Int) ∧ k ≤ n ∧ wr = w ∧ Hid (∀ i (h : i < zs.length), i < k → zs[i] = 0)) (fun r _ => n - (intOf r).toNat)
  case atStart => exact ⟨0, rfl, Nat.zero_le _, rfl, fun i _ h => by omega⟩
  case round =>
    obtain ⟨k, rfl, hk, rfl, hA⟩ := hrel
    by_cases hlt : k < n
    · have hlt' : (k : Int) < (n : Int) := by omega
      have hkl : k < zs.length := by rw [HN.out]; exact hlt
      have c0 := HC.out k hkl
      have hd := orL_drop zs k hA.out
      rw [List.drop_eq_getElem_cons hkl] at hd
      obtain ⟨z, he⟩ : ∃ z, z = zs[k] := ⟨_, rfl⟩
      rw [← he] at c0 hd
      have HZ : Hid (z = zs[k]) := he
      clear he
      by_cases hz : z = 0
      · have hz' : (z == 0) = true := by simpa using hz
        clear hd
        go_wp2
        go_roundw
        case rel =>
          refine ⟨k + 1, by go_num, by omega, by first | rfl | trivial, fun i hi hik => ?_⟩
          by_cases h : i < k
          · exact hA.out i hi h
          · have : i = k := by omega
            subst this
            rw [← HZ.out, hz]
        case measure => simp [intOf]; omega
      · have hz' : (z == 0) = false := by simpa using hz
        have HR' : Hid (R = z) := by
          show R = z
          rw [HR.out, hd]
          simp only [orL]
          rw [orr_ne hz]
        clear hd
        go_wp2
        go_ret
        exact ⟨by rw [HR'.out]; rfl, rfl⟩
    · have hlt' : ¬ (k : Int) < (n : Int) := by omega
      have HR' : Hid (R = 0) := by
        show R = 0
        rw [HR.out, orL_drop zs k hA.out, List.drop_eq_nil_of_le (by have := HN.out; omega)]
        rfl
      go_wp2
      go_ret
      exact ⟨by rw [HR'.out]; rfl, rfl⟩

theorem isNumber_any (k n m : Int) (b : ByteArray) (w : World) : Calls Tryz.prog 117 #[va k n m b] w fun e w' => e = .returned (.bool (k == 1 || k == 2)) ∧ Grew w w' := by
  by_cases h : k = 1
  · subst h
    go_enter Tryz.func117, Tryz.ntmps117
    go_wp2
    all_goals go_ret
    all_goals exact ⟨rfl, by repeat (first | exact Grew.refl _ | apply Grew.drew | apply Grew.drewN | apply Grew.alloc | apply Grew.more)⟩
  · have h' : (k == 1) = false := by simpa using h
    rw [h', Bool.false_or]
    go_enter Tryz.func117, Tryz.ntmps117
    go_wp2
    all_goals go_ret
    all_goals exact ⟨rfl, by repeat (first | exact Grew.refl _ | apply Grew.drew | apply Grew.drewN | apply Grew.alloc | apply Grew.more)⟩

set_option maxHeartbeats 2000000 in
theorem byParts_any (k n m : Int) (b : ByteArray) (k' n' m' : Int) (b' : ByteArray) (w : World) :
    Calls Tryz.prog 119 #[va k n m b, va k' n' m' b'] w fun e w' => e = .returned (.int .i64 (orL [numc k k', numc n n', numc m m', lexc b.data.toList b'.data.toList])) ∧ Grew w w' := by
  have I := fun x y W => cmpI_any x y W
  have S := fun W => cmpS_any b b' W
  have O := fun (zs : List Int) (p : Nat) (W : World) => or_of p 4 zs W
  go_enter Tryz.func119, Tryz.ntmps119
  go_upto_region 1 with fail
  go_region_held2 (fun W => W.cell? ⟨w.heap.size, 0, none⟩ = some (.int .i64 k) ∧ W.cell? ⟨w.heap.size, 1, none⟩ = some (.int .i64 n) ∧ W.cell? ⟨w.heap.size, 2, none⟩ = some (.int .i64 m) ∧ W.cell? ⟨w.heap.size, 3, none⟩ = some (.string b) ∧
      W.cell? ⟨w.heap.size + 1, 0, none⟩ = some (.int .i64 k') ∧ W.cell? ⟨w.heap.size + 1, 1, none⟩ = some (.int .i64 n') ∧ W.cell? ⟨w.heap.size + 1, 2, none⟩ = some (.int .i64 m') ∧ W.cell? ⟨w.heap.size + 1, 3, none⟩ = some (.string b')) (simp [go_sem]) (first
    | (go_at_call 107; refine (I _ _ _).mono ?_; rintro e w' ⟨rfl, rfl⟩)
    | (go_at_call 175; refine (S _).mono ?_; rintro e w' ⟨rfl, rfl⟩)
    | (go_at_call 174; refine (O [numc k k', numc n n', numc m m', lexc b.data.toList b'.data.toList] _ _ rfl (by decide) (by intro i hi; match i, hi with
        | 0, _ => simp [go_sem]
        | 1, _ => simp [go_sem]
        | 2, _ => simp [go_sem]
        | 3, _ => simp [go_sem])).mono ?_; rintro e w' ⟨rfl, rfl⟩))
  go_wp2
  go_ret
  exact ⟨rfl, by repeat (first | exact Grew.refl _ | apply Grew.drew | apply Grew.drewN | apply Grew.alloc | apply Grew.more)⟩
end Go.Proofs.YtnpdecbgakgbgaaGreatDoor
