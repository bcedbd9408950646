/-
  The contract of longstoplaw04.knows: whatever lies in memory, it answers true, and nothing that was there has changed.
  What every claim of this seat shares: the listed tables as the walks ask for them, and values that come in.
  The contracts of the library's Compare and Or, and of datum's byParts.
-/
import Derived.Test.YtafmchgncahafaaGreatDoorVPut2
import Derived.Test.YtafmchgncahafaaGreatDoorVQuote
import Derived.Test.YtafmchgncahafaaGreatDoorRows
import Derived.Test.YtafmchgncahafaaGreatDoorCards
import Derived.Test.YtafmchgncahafaaGreatDoorTie
import Derived.ProofKit
import Derived.LaidMore
import Derived.OpenShut
import Derived.ShutString
import Derived.Stop.Joined
import Derived.Lib.LaidTab
import Derived.Lib.LaidU8T
import Derived.Lib.LaidIn
import Derived.Lib.SmallJoins
import Derived.PinnedBridge
import Derived.Lay
import Derived.LaidOnce
import Derived.SevenTiedAt
import Derived.ChangeSame
import Derived.SizedLaws
import Derived.Deep.Slices
import Derived.Test.YtafmchgncahafaaGreatDoorMAVText
namespace Go.Proofs.YtafmchgncahafaaGreatDoor
open Go.RowKit Go.Shelf
attribute [local go_sem] cell?_more frozen?_more setCell_more more_lt more_more more_drew more_drewN setCell_drewN alloc_drewN

theorem ba_extract1 (c : UInt8) (l : List UInt8) : ((ByteArray.mk (c :: l).toArray).extract 0 1).toList = [c] := by
  have e : (ByteArray.mk (c :: l).toArray).extract 0 1 = ⟨#[c]⟩ := by
    apply ByteArray.ext
    simp [ByteArray.data_extract]
  rw [e, ByteArray.toList_eq]

theorem prefix0_any (s : ByteArray) (p : UInt8) (w : World) (hs : s.size ≤ 9223372036854775806) :
    Calls Tryz.prog 90 #[.string s, .string ⟨#[p]⟩] w fun e w' => e = .returned (.bool (s.data.toList.head? == some p)) ∧ w = w' := by
  obtain ⟨⟨l⟩⟩ := s
  match l, hs with
  | [], _ =>
    go_enter Tryz.func90, Tryz.ntmps90
    go_wp2
    all_goals go_ret
    all_goals exact ⟨rfl, rfl⟩
  | c :: l, hs =>
    have hsz : (ByteArray.mk (c :: l).toArray).size = l.length + 1 := rfl
    have hx : (((ByteArray.mk (c :: l).toArray).extract 0 1).toList == [p]) = (c == p) := by
      rw [ba_extract1]
      simp
    have e : ((ByteArray.mk (c :: l).toArray).data.toList.head? == some p) = (c == p) := by simp
    rw [e]
    have h1 : (1 : Int) ≤ (l.length : Int) + 1 := by omega
    have h2 : 1 ≤ l.length + 1 := by omega
    rw [hsz] at hs
    change (((ByteArray.mk (c :: l).toArray).extract 0 1).toList == [p]) = (c == p) at hx
    generalize ByteArray.mk (c :: l).toArray = B at *
    generalize l.length = n at *
    generalize (c == p) = g at *
    go_enter Tryz.func90, Tryz.ntmps90
    go_wp2
    all_goals go_ret
    all_goals exact ⟨rfl, rfl⟩

theorem prefix_any (s : ByteArray) (p : UInt8) (w : World) (hs : s.size ≤ 9223372036854775806) :
    Calls Tryz.prog 78 #[.string s, .string ⟨#[p]⟩] w fun e w' => e = .returned (.bool (s.data.toList.head? == some p)) ∧ w = w' := by
  have P := fun W => prefix0_any s p W hs
  generalize (s.data.toList.head? == some p) = g at *
  go_enter Tryz.func78, Tryz.ntmps78
  go_wp2_with (go_at_call 90; refine (P _).mono ?_; rintro e w' ⟨rfl, rfl⟩)
  go_ret
  exact ⟨rfl, rfl⟩

/-- A text with a quote, and as it is told. -/
abbrev T0 : ByteArray := ⟨#[105, 116, 39, 115]⟩
abbrev S0 : ByteArray := ⟨#[39, 105, 116, 39, 39, 115, 39]⟩

set_option maxHeartbeats 1000000 in
theorem told0 (w : World) : Calls Tryz.prog 58 #[.string S0] w fun e w' => e = .returned (.tuple #[va 3 0 0 T0, .bool true]) ∧ Below w.heap.size w w' := by
  have H : ∀ W, Calls Tryz.prog 78 #[.string S0, .string ⟨#[39]⟩] W fun e w' => e = .returned (.bool true) ∧ W = w' := fun W => prefix_any S0 39 W (by decide)
  have U : ∀ W, Calls Tryz.prog 79 #[.string S0] W fun e w' => e = .returned (.tuple #[.string T0, .bool true]) ∧ Below W.heap.size W w' := fun W => unquoted_any S0 W (by decide)
  go_enter Tryz.func58, Tryz.ntmps58
  go_wp2_with (first
    | (go_at_call 78; refine (H _).mono ?_; rintro e w' ⟨rfl, rfl⟩)
    | (go_at_call 79; refine (U _).mono ?_; rintro e w1 ⟨rfl, b1⟩; have bx : Box w1 w.heap.size ⟨0, 0, 0, []⟩ := (Box.new w 0 0 0 []).later b1; obtain ⟨c0, c1, c2, c3⟩ := bx.at4; have f0 := bx.free 0; have f1 := bx.free 1; have f2 := bx.free 2; have f3 := bx.free 3; have lt1 := bx.lt; clear bx))
  refine bodyPost_ret_by (v := .tuple #[va 3 0 0 T0, .bool true]) ?_ rfl ⟨rfl, ?_⟩
  · simp [results, Tryz.results58, go_sem, c0, c1, c2, c3]
  · have b0 : Below w.heap.size w w1 := ((Below.refl _ w).alloc (Nat.le_refl _) _).trans (b1.mono (by simp))
    exact (((b0.setCell (p := ⟨w.heap.size, 0, none⟩) (Nat.le_refl _) _).setCell (p := ⟨w.heap.size, 1, none⟩) (Nat.le_refl _) _).setCell (p := ⟨w.heap.size, 2, none⟩) (Nat.le_refl _) _).setCell (p := ⟨w.heap.size, 3, none⟩) (Nat.le_refl _) _

theorem print0 (w : World) (hT : Tabs w) : Calls Tryz.prog 36 #[va 3 0 0 T0] w fun e w' => e = .returned (.string S0) ∧ Below w.heap.size w w' := by
  have hr : vrt 3 0 0 T0 = true := by decide +kernel
  have R : ∀ W, Grew w W → Calls Tryz.prog 40 #[va 3 0 0 T0] W fun e w' => e = .returned (.bool true) ∧ Below W.heap.size W w' := fun W h => by have := vright_any 3 0 0 T0 W (hT.later h.below); rwa [hr] at this
  have Q : ∀ W, Calls Tryz.prog 61 #[.string T0] W fun e w' => e = .returned (.string S0) ∧ Below W.heap.size W w' := fun W => quoted_any T0 W (by decide)
  clear hT hr
  go_enter Tryz.func36, Tryz.ntmps36
  go_wp2_with (first
    | (go_at_call 40; refine (R _ (by repeat (first | exact Grew.refl _ | apply Grew.drew | apply Grew.drewN | apply Grew.alloc | apply Grew.more))).mono ?_; rintro e w1 ⟨rfl, b1⟩; have bx : Box w1 w.heap.size ⟨3, 0, 0, [105, 116, 39, 115]⟩ := (Box.new w 3 0 0 [105, 116, 39, 115]).later b1; obtain ⟨c0, c1, c2, c3⟩ := bx.at4; clear bx)
    | (go_at_call 61; refine (Q _).mono ?_; rintro e w2 ⟨rfl, b2⟩))
  have b0 : Below w.heap.size w w1 := ((Below.refl _ w).alloc (Nat.le_refl _) _).trans (b1.mono (by simp))
  all_goals go_ret
  exact ⟨rfl, below_trans b0 b2⟩

theorem parse0 (w : World) (hT : Tabs w) : Calls Tryz.prog 35 #[.string S0] w fun e w' => e = .returned (.tuple #[va 3 0 0 T0, .int .i64 0]) ∧ Below w.heap.size w w' := by
  have T := fun W => told0 W
  have P : ∀ W, Below w.heap.size w W → Calls Tryz.prog 36 #[va 3 0 0 T0] W fun e w' => e = .returned (.string S0) ∧ Below W.heap.size W w' := fun W h => print0 W (hT.later h)
  clear hT
  go_enter Tryz.func35, Tryz.ntmps35
  go_wp2_with fail
  refine (T _).mono ?_
  rintro e w1 ⟨rfl, b1⟩
  have bx0 : Box w1 w.heap.size ⟨0, 0, 0, []⟩ := (Box.new w 0 0 0 []).later b1
  have B1 : Below w.heap.size w w1 := ((Below.refl _ w).alloc (Nat.le_refl _) _).trans (b1.mono (by simp))
  have s1 := B1.size
  clear b1
  go_wp2_with fail
  refine (P _ (B1.alloc s1 _)).mono ?_
  rintro e w2 ⟨rfl, b2⟩
  have bx1 : Box w2 w1.heap.size ⟨3, 0, 0, [105, 116, 39, 115]⟩ := (Box.new w1 3 0 0 [105, 116, 39, 115]).later b2
  have b12 : Below w1.heap.size w1 w2 := ((Below.refl _ w1).alloc (Nat.le_refl _) _).trans (b2.mono (by simp))
  have bx2 := bx0.later b12
  have B2 : Below w.heap.size w w2 := B1.trans (b12.mono s1)
  obtain ⟨c0, c1, c2, c3⟩ := bx1.at4
  obtain ⟨d0, d1, d2, d3⟩ := bx2.at4
  have f0 := bx2.free 0
  have f1 := bx2.free 1
  have f2 := bx2.free 2
  have f3 := bx2.free 3
  have lt1 := bx2.lt
  clear bx0 bx1 bx2 B1 s1 b12 b2 P T
  go_wp2
  refine bodyPost_ret_by (v := .tuple #[va 3 0 0 T0, .int .i64 0]) ?_ rfl ⟨rfl, ?_⟩
  · simp [results, Tryz.results35, go_sem, d0, d1, d2, d3]
  · exact (((B2.setCell (p := ⟨w.heap.size, 0, none⟩) (Nat.le_refl _) _).setCell (p := ⟨w.heap.size, 1, none⟩) (Nat.le_refl _) _).setCell (p := ⟨w.heap.size, 2, none⟩) (Nat.le_refl _) _).setCell (p := ⟨w.heap.size, 3, none⟩) (Nat.le_refl _) _

theorem vnum_any (n : Int) (w : World) : Calls Tryz.prog 12 #[.int .i64 n] w fun e w' => e = .returned (.int .i64 n) ∧ w = w' := by
  go_enter Tryz.func12, Tryz.ntmps12
  go_wp2
  go_ret
  exact ⟨rfl, rfl⟩

/-- The text as a value. -/
abbrev X0 : Va := ⟨3, 0, 0, [105, 116, 39, 115]⟩

set_option maxHeartbeats 2000000 in
theorem knows_any (w : World) (hT : Tabs w) : Calls Tryz.prog 15 #[] w fun e w' => e = .returned (.bool true) ∧ Below w.heap.size w w' := by
  go_enter Tryz.func15, Tryz.ntmps15
  go_wp2_with fail
  refine (parse0 _ hT).mono ?_
  rintro e w1 ⟨rfl, b1⟩
  have hT1 := hT.later b1
  go_wp2_with fail
  have bA := Box.new w1 3 0 0 [105, 116, 39, 115]
  have bB := Box.new (w1.alloc (Obj.cells #[.int .i64 3, .int .i64 0, .int .i64 0, .string T0] 47)) 3 0 0 [105, 116, 39, 115]
  have bA' : Box ((w1.alloc (Obj.cells #[.int .i64 3, .int .i64 0, .int .i64 0, .string T0] 47)).alloc (Obj.cells #[.int .i64 3, .int .i64 0, .int .i64 0, .string T0] 47)) w1.heap.size X0 := bA.later ((Below.refl _ _).alloc (Nat.le_refl _) _)
  have B1 : Below w.heap.size w ((w1.alloc (Obj.cells #[.int .i64 3, .int .i64 0, .int .i64 0, .string T0] 47)).alloc (Obj.cells #[.int .i64 3, .int .i64 0, .int .i64 0, .string T0] 47)) := (b1.alloc b1.size _).alloc (by have := b1.size; simp; omega) _
  have hV : Vs ((w1.alloc (Obj.cells #[.int .i64 3, .int .i64 0, .int .i64 0, .string T0] 47)).alloc (Obj.cells #[.int .i64 3, .int .i64 0, .int .i64 0, .string T0] 47)) (some ⟨w1.heap.size + 1, 0, none⟩) [X0] := by
    intro _
    refine ⟨_, _, rfl, fun i hi => ?_⟩
    have : i = 0 := by simp at hi; omega
    subst this
    have h := bB.at4
    simp only [World.size_alloc] at h
    exact h
  refine (put_good (some ⟨w1.heap.size + 1, 0, none⟩) 1 [X0] _ (hT.later B1) hV (by decide +kernel) (fun v hv => by simp at hv; subst hv; exact ⟨⟨by decide, by decide⟩, ⟨by decide, by decide⟩⟩)).mono ?_
  rintro e w2 ⟨v2, rfl, ho2, b2⟩
  have bx := bA'.later b2
  have B2 : Below w.heap.size w w2 := below_trans B1 b2
  obtain ⟨ao, cap, rfl, _, _⟩ := ho2.rd
  have h7 : (numBytes (([X0].length : Nat) : Int) ++ many vbytes [X0]).length = 7 := by decide +kernel
  rw [h7]
  have P : ∀ W, Grew w2 W → Calls Tryz.prog 36 #[va 3 0 0 T0] W fun e w' => e = .returned (.string S0) ∧ Below W.heap.size W w' := fun W h => print0 W ((hT.later B2).later h.below)
  have A := fun W => and_any 0 2 W
  have O := fun W => or_any 1 2 W
  have N := fun W => not_any 0 W
  have M := fun W => vnum_any 0 W
  rw [show tand 0 2 = 0 by decide] at A
  rw [show tor 1 2 = 1 by decide] at O
  rw [show tnot 0 = 1 by decide] at N
  obtain ⟨c0, c1, c2, c3⟩ := bx.at4
  have lt2 := bx.lt
  clear ho2 hV bA bB bA' hT1 h7 b2 B1 b1 hT
  go_wp2_with (first
    | (go_at_call 12; refine (M _).mono ?_; rintro e w' ⟨rfl, rfl⟩)
    | (go_at_call 36; refine (P _ (by repeat (first | assumption | exact Grew.refl _ | apply Grew.drew | apply Grew.drewN | apply Grew.alloc | apply Grew.more))).mono ?_; rintro e w3 ⟨rfl, b3⟩)
    | (go_at_call 37; refine (A _).mono ?_; rintro e w' ⟨rfl, rfl⟩)
    | (go_at_call 38; refine (O _).mono ?_; rintro e w' ⟨rfl, rfl⟩)
    | (go_at_call 39; refine (N _).mono ?_; rintro e w' ⟨rfl, rfl⟩))
  go_ret
  exact ⟨rfl, below_trans B2 b3⟩
end Go.Proofs.YtafmchgncahafaaGreatDoor

namespace Go.Proofs.YtafmchgncahafaaGreatDoor
open Go.ChangeShapes Go.WideShapes Go.ChangeAt Go.WideMaps Go.WideElems Go.RowKit Go.Shelf Go.Lib

theorem own : ownKnob Tryz.prog.godebug = none := by kernel_rfl
theorem laidOut : laidOutB Tryz.prog = true := by kernel_rfl

theorem tabs_of {W : World} (h1 : VarReads Tryz.prog W "unicode/utf8.first" Rows.laid_unicode_utf8_first) (h2 : VarReads Tryz.prog W "unicode/utf8.acceptRanges" Rows.laid_unicode_utf8_acceptRanges) : Tabs W :=
  utf8Tabs_of_readsT (U8Types.of196 Tryz.laysValid) ⟨by kernel_rfl, by kernel_rfl, by kernel_rfl, by kernel_rfl, by kernel_rfl, by kernel_rfl, by kernel_rfl⟩
    (Pinned.utf8First_eq ▸ h1) ((show Rows.laid_unicode_utf8_acceptRanges = Lib.acceptData by kernel_rfl) ▸ h2)

theorem in_i64 {a : Int} (h : (Lit.int .i64 a).wf = true) : -9223372036854775808 ≤ a ∧ a ≤ 9223372036854775807 := bounds_i64 h

set_option maxRecDepth 100000 in
theorem val_cells {H : Type} {enc : TypeId × Value → H} {W : World} {fuel : Nat} {cs : List Value} {x : DataW H × List MemPlace}
    (hf : DataW.trod enc Tryz.prog W 0 (fun _ => true) true fuel 47 cs = some x) :
    ∃ v : Va, cs = [.int .i64 v.k, .int .i64 v.n, .int .i64 v.m, .string ⟨v.b.toArray⟩] ∧ vin v ∧ (-9223372036854775808 ≤ v.k ∧ v.k ≤ 9223372036854775807) ∧ v.b.length ≤ maxLen := by
  obtain ⟨y0, y1, y2, y3, m, _, hl, h0, h1, h2, h3⟩ := Go.Joins.trod_struct4 Tryz.underlying47 hf
  have hc : Tryz.prog.cellsOf 47 = 4 := by kernel_rfl
  rw [hc] at hl
  match cs, hl with
  | [c0, c1, c2, c3], _ =>
    obtain ⟨a, ea, rfl, wa⟩ := DataW.trod_int Tryz.underlying3 h0
    obtain ⟨b, eb, rfl, wb⟩ := DataW.trod_int Tryz.underlying3 h1
    obtain ⟨c, ec, rfl, wc⟩ := DataW.trod_int Tryz.underlying3 h2
    obtain ⟨s, es, rfl, ws⟩ := DataW.trod_string Tryz.underlying9 h3
    have c1' : Tryz.prog.cellsOf 3 = 1 := by kernel_rfl
    have c2' : Tryz.prog.cellsOf 9 = 1 := by kernel_rfl
    rw [c1'] at ea eb ec
    rw [c2'] at es
    simp at ea eb ec es
    subst ea; subst eb; subst ec; subst es
    exact ⟨⟨a, b, c, s.data.toList⟩, rfl, ⟨in_i64 wb, in_i64 wc⟩, in_i64 wa, ws⟩
end Go.Proofs.YtafmchgncahafaaGreatDoor

namespace Go.Proofs.YtafmchgncahafaaGreatDoor
open Go.RowKit Go.Shelf
attribute [local go_sem] cell?_more frozen?_more setCell_more more_lt more_more more_drew more_drewN setCell_drewN alloc_drewN

end Go.Proofs.YtafmchgncahafaaGreatDoor
