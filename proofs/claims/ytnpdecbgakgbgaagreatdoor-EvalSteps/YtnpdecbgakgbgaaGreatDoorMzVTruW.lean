/-
  The contract of longstoplaw04.knows: whatever lies in memory, it answers true, and nothing that was there has changed.
  What every claim of this seat shares: the listed tables as the walks ask for them, and values that come in.
  The listed table of powers as the walks ask for it.
  Truth on both sides, and the walk of DatumTruths.
-/
import Derived.Test.YtnpdecbgakgbgaaGreatDoorMuVCmp
import Derived.Test.YtnpdecbgakgbgaaGreatDoorVQuote
import Derived.Test.YtnpdecbgakgbgaaGreatDoorRows
import Derived.Test.YtnpdecbgakgbgaaGreatDoorCards
import Derived.Test.YtnpdecbgakgbgaaGreatDoorTie
import Derived.ProofKit
import Derived.LaidMore
import Derived.OpenShut
import Derived.ShutString
import Derived.Stop.Joined
import Derived.Lib.LaidTab
import Derived.Lib.LaidU8T
import Derived.Lib.LaidIn
import Derived.Lib.SmallJoins
import Derived.PinnedBridge
import Derived.Lay
import Derived.LaidOnce
import Derived.SevenTiedAt
import Derived.ChangeSame
import Derived.SizedLaws
import Derived.Deep.Slices
import Derived.Test.YtnpdecbgakgbgaaGreatDoorVCmp2
import Derived.Test.YtnpdecbgakgbgaaGreatDoorMwVOrd1
namespace Go.Proofs.YtnpdecbgakgbgaaGreatDoor
open Go.RowKit Go.Shelf
attribute [local go_sem] cell?_more frozen?_more setCell_more more_lt more_more more_drew more_drewN setCell_drewN alloc_drewN

theorem ba_extract1 (c : UInt8) (l : List UInt8) : ((ByteArray.mk (c :: l).toArray).extract 0 1).toList = [c] := by
  have e : (ByteArray.mk (c :: l).toArray).extract 0 1 = ⟨#[c]⟩ := by
    apply ByteArray.ext
    simp [ByteArray.data_extract]
  rw [e, ByteArray.toList_eq]

theorem prefix0_any (s : ByteArray) (p : UInt8) (w : World) (hs : s.size ≤ 9223372036854775806) :
    Calls Tryz.prog 246 #[.string s, .string ⟨#[p]⟩] w fun e w' => e = .returned (.bool (s.data.toList.head? == some p)) ∧ w = w' := by
  obtain ⟨⟨l⟩⟩ := s
  match l, hs with
  | [], _ =>
    go_enter Tryz.func246, Tryz.ntmps246
    go_wp2
    all_goals go_ret
    all_goals exact ⟨rfl, rfl⟩
  | c :: l, hs =>
    have hsz : (ByteArray.mk (c :: l).toArray).size = l.length + 1 := rfl
    have hx : (((ByteArray.mk (c :: l).toArray).extract 0 1).toList == [p]) = (c == p) := by
      rw [ba_extract1]
      simp
    have e : ((ByteArray.mk (c :: l).toArray).data.toList.head? == some p) = (c == p) := by simp
    rw [e]
    have h1 : (1 : Int) ≤ (l.length : Int) + 1 := by omega
    have h2 : 1 ≤ l.length + 1 := by omega
    rw [hsz] at hs
    change (((ByteArray.mk (c :: l).toArray).extract 0 1).toList == [p]) = (c == p) at hx
    generalize ByteArray.mk (c :: l).toArray = B at *
    generalize l.length = n at *
    generalize (c == p) = g at *
    go_enter Tryz.func246, Tryz.ntmps246
    go_wp2
    all_goals go_ret
    all_goals exact ⟨rfl, rfl⟩

theorem prefix_any (s : ByteArray) (p : UInt8) (w : World) (hs : s.size ≤ 9223372036854775806) :
    Calls Tryz.prog 232 #[.string s, .string ⟨#[p]⟩] w fun e w' => e = .returned (.bool (s.data.toList.head? == some p)) ∧ w = w' := by
  have P := fun W => prefix0_any s p W hs
  generalize (s.data.toList.head? == some p) = g at *
  go_enter Tryz.func232, Tryz.ntmps232
  go_wp2_with (go_at_call 246; refine (P _).mono ?_; rintro e w' ⟨rfl, rfl⟩)
  go_ret
  exact ⟨rfl, rfl⟩

/-- A text with a quote, and as it is told. -/
abbrev T0 : ByteArray := ⟨#[105, 116, 39, 115]⟩
abbrev S0 : ByteArray := ⟨#[39, 105, 116, 39, 39, 115, 39]⟩

set_option maxHeartbeats 1000000 in
theorem told0 (w : World) : Calls Tryz.prog 221 #[.string S0] w fun e w' => e = .returned (.tuple #[va 3 0 0 T0, .bool true]) ∧ Below w.heap.size w w' := by
  have H : ∀ W, Calls Tryz.prog 232 #[.string S0, .string ⟨#[39]⟩] W fun e w' => e = .returned (.bool true) ∧ W = w' := fun W => prefix_any S0 39 W (by decide)
  have U : ∀ W, Calls Tryz.prog 233 #[.string S0] W fun e w' => e = .returned (.tuple #[.string T0, .bool true]) ∧ Below W.heap.size W w' := fun W => unquoted_any S0 W (by decide)
  go_enter Tryz.func221, Tryz.ntmps221
  go_wp2_with (first
    | (go_at_call 232; refine (H _).mono ?_; rintro e w' ⟨rfl, rfl⟩)
    | (go_at_call 233; refine (U _).mono ?_; rintro e w1 ⟨rfl, b1⟩; have bx : Box w1 w.heap.size ⟨0, 0, 0, []⟩ := (Box.new w 0 0 0 []).later b1; obtain ⟨c0, c1, c2, c3⟩ := bx.at4; have f0 := bx.free 0; have f1 := bx.free 1; have f2 := bx.free 2; have f3 := bx.free 3; have lt1 := bx.lt; clear bx))
  refine bodyPost_ret_by (v := .tuple #[va 3 0 0 T0, .bool true]) ?_ rfl ⟨rfl, ?_⟩
  · simp [results, Tryz.results221, go_sem, c0, c1, c2, c3]
  · have b0 : Below w.heap.size w w1 := ((Below.refl _ w).alloc (Nat.le_refl _) _).trans (b1.mono (by simp))
    exact (((b0.setCell (p := ⟨w.heap.size, 0, none⟩) (Nat.le_refl _) _).setCell (p := ⟨w.heap.size, 1, none⟩) (Nat.le_refl _) _).setCell (p := ⟨w.heap.size, 2, none⟩) (Nat.le_refl _) _).setCell (p := ⟨w.heap.size, 3, none⟩) (Nat.le_refl _) _

theorem print0 (w : World) (hT : Tabs w) : Calls Tryz.prog 84 #[va 3 0 0 T0] w fun e w' => e = .returned (.string S0) ∧ Below w.heap.size w w' := by
  have hr : vrt 3 0 0 T0 = true := by decide +kernel
  have R : ∀ W, Grew w W → Calls Tryz.prog 35 #[va 3 0 0 T0] W fun e w' => e = .returned (.bool true) ∧ Below W.heap.size W w' := fun W h => by have := vright_any 3 0 0 T0 W (hT.later h.below); rwa [hr] at this
  have Q : ∀ W, Calls Tryz.prog 148 #[.string T0] W fun e w' => e = .returned (.string S0) ∧ Below W.heap.size W w' := fun W => quoted_any T0 W (by decide)
  clear hT hr
  go_enter Tryz.func84, Tryz.ntmps84
  go_wp2_with (first
    | (go_at_call 35; refine (R _ (by repeat (first | exact Grew.refl _ | apply Grew.drew | apply Grew.drewN | apply Grew.alloc | apply Grew.more))).mono ?_; rintro e w1 ⟨rfl, b1⟩; have bx : Box w1 w.heap.size ⟨3, 0, 0, [105, 116, 39, 115]⟩ := (Box.new w 3 0 0 [105, 116, 39, 115]).later b1; obtain ⟨c0, c1, c2, c3⟩ := bx.at4; clear bx)
    | (go_at_call 148; refine (Q _).mono ?_; rintro e w2 ⟨rfl, b2⟩))
  have b0 : Below w.heap.size w w1 := ((Below.refl _ w).alloc (Nat.le_refl _) _).trans (b1.mono (by simp))
  all_goals go_ret
  exact ⟨rfl, below_trans b0 b2⟩

theorem parse0 (w : World) (hT : Tabs w) : Calls Tryz.prog 197 #[.string S0] w fun e w' => e = .returned (.tuple #[va 3 0 0 T0, .int .i64 0]) ∧ Below w.heap.size w w' := by
  have T := fun W => told0 W
  have P : ∀ W, Below w.heap.size w W → Calls Tryz.prog 84 #[va 3 0 0 T0] W fun e w' => e = .returned (.string S0) ∧ Below W.heap.size W w' := fun W h => print0 W (hT.later h)
  clear hT
  go_enter Tryz.func197, Tryz.ntmps197
  go_wp2_with fail
  refine (T _).mono ?_
  rintro e w1 ⟨rfl, b1⟩
  have bx0 : Box w1 w.heap.size ⟨0, 0, 0, []⟩ := (Box.new w 0 0 0 []).later b1
  have B1 : Below w.heap.size w w1 := ((Below.refl _ w).alloc (Nat.le_refl _) _).trans (b1.mono (by simp))
  have s1 := B1.size
  clear b1
  go_wp2_with fail
  refine (P _ (B1.alloc s1 _)).mono ?_
  rintro e w2 ⟨rfl, b2⟩
  have bx1 : Box w2 w1.heap.size ⟨3, 0, 0, [105, 116, 39, 115]⟩ := (Box.new w1 3 0 0 [105, 116, 39, 115]).later b2
  have b12 : Below w1.heap.size w1 w2 := ((Below.refl _ w1).alloc (Nat.le_refl _) _).trans (b2.mono (by simp))
  have bx2 := bx0.later b12
  have B2 : Below w.heap.size w w2 := B1.trans (b12.mono s1)
  obtain ⟨c0, c1, c2, c3⟩ := bx1.at4
  obtain ⟨d0, d1, d2, d3⟩ := bx2.at4
  have f0 := bx2.free 0
  have f1 := bx2.free 1
  have f2 := bx2.free 2
  have f3 := bx2.free 3
  have lt1 := bx2.lt
  clear bx0 bx1 bx2 B1 s1 b12 b2 P T
  go_wp2
  refine bodyPost_ret_by (v := .tuple #[va 3 0 0 T0, .int .i64 0]) ?_ rfl ⟨rfl, ?_⟩
  · simp [results, Tryz.results197, go_sem, d0, d1, d2, d3]
  · exact (((B2.setCell (p := ⟨w.heap.size, 0, none⟩) (Nat.le_refl _) _).setCell (p := ⟨w.heap.size, 1, none⟩) (Nat.le_refl _) _).setCell (p := ⟨w.heap.size, 2, none⟩) (Nat.le_refl _) _).setCell (p := ⟨w.heap.size, 3, none⟩) (Nat.le_refl _) _

/-- The text as a value. -/
abbrev X0 : Va := ⟨3, 0, 0, [105, 116, 39, 115]⟩

end Go.Proofs.YtnpdecbgakgbgaaGreatDoor

namespace Go.Proofs.YtnpdecbgakgbgaaGreatDoor
open Go.ChangeShapes Go.WideShapes Go.ChangeAt Go.WideMaps Go.WideElems Go.RowKit Go.Shelf Go.Lib

theorem own : ownKnob Tryz.prog.godebug = none := by kernel_rfl
theorem laidOut : laidOutB Tryz.prog = true := by kernel_rfl

theorem tabs_of {W : World} (h1 : VarReads Tryz.prog W "unicode/utf8.first" Rows.laid_unicode_utf8_first) (h2 : VarReads Tryz.prog W "unicode/utf8.acceptRanges" Rows.laid_unicode_utf8_acceptRanges) : Tabs W :=
  utf8Tabs_of_readsT (U8Types.of196 Tryz.laysValid) ⟨by kernel_rfl, by kernel_rfl, by kernel_rfl, by kernel_rfl, by kernel_rfl, by kernel_rfl, by kernel_rfl⟩
    (Pinned.utf8First_eq ▸ h1) ((show Rows.laid_unicode_utf8_acceptRanges = Lib.acceptData by kernel_rfl) ▸ h2)

theorem in_i64 {a : Int} (h : (Lit.int .i64 a).wf = true) : -9223372036854775808 ≤ a ∧ a ≤ 9223372036854775807 := bounds_i64 h

set_option maxRecDepth 100000 in
theorem val_cells {H : Type} {enc : TypeId × Value → H} {W : World} {fuel : Nat} {cs : List Value} {x : DataW H × List MemPlace}
    (hf : DataW.trod enc Tryz.prog W 0 (fun _ => true) true fuel 30 cs = some x) :
    ∃ v : Va, cs = [.int .i64 v.k, .int .i64 v.n, .int .i64 v.m, .string ⟨v.b.toArray⟩] ∧ vin v ∧ (-9223372036854775808 ≤ v.k ∧ v.k ≤ 9223372036854775807) ∧ v.b.length ≤ maxLen := by
  obtain ⟨y0, y1, y2, y3, m, _, hl, h0, h1, h2, h3⟩ := Go.Joins.trod_struct4 Tryz.underlying30 hf
  have hc : Tryz.prog.cellsOf 30 = 4 := by kernel_rfl
  rw [hc] at hl
  match cs, hl with
  | [c0, c1, c2, c3], _ =>
    obtain ⟨a, ea, rfl, wa⟩ := DataW.trod_int Tryz.underlying3 h0
    obtain ⟨b, eb, rfl, wb⟩ := DataW.trod_int Tryz.underlying3 h1
    obtain ⟨c, ec, rfl, wc⟩ := DataW.trod_int Tryz.underlying3 h2
    obtain ⟨s, es, rfl, ws⟩ := DataW.trod_string Tryz.underlying9 h3
    have c1' : Tryz.prog.cellsOf 3 = 1 := by kernel_rfl
    have c2' : Tryz.prog.cellsOf 9 = 1 := by kernel_rfl
    rw [c1'] at ea eb ec
    rw [c2'] at es
    simp at ea eb ec es
    subst ea; subst eb; subst ec; subst es
    exact ⟨⟨a, b, c, s.data.toList⟩, rfl, ⟨in_i64 wb, in_i64 wc⟩, in_i64 wa, ws⟩
end Go.Proofs.YtnpdecbgakgbgaaGreatDoor

namespace Go.Proofs.YtnpdecbgakgbgaaGreatDoor
open Go.ChangeShapes Go.WideShapes Go.ChangeAt Go.WideMaps Go.WideElems Go.RowKit Go.Shelf Go.Lib

def powN : List Int := [1, 10, 100, 1000, 10000, 100000, 1000000, 10000000, 100000000, 1000000000, 10000000000, 100000000000, 1000000000000]
theorem pow_cells : ∀ k : Nat, k < 13 → (powN.map (Value.int .i64)).toArray[k]? = some (.int .i64 ((10 ^ k : Nat) : Int)) := by
  intro k hk
  match k, hk with
  | 0, _ => rfl
  | 1, _ => rfl
  | 2, _ => rfl
  | 3, _ => rfl
  | 4, _ => rfl
  | 5, _ => rfl
  | 6, _ => rfl
  | 7, _ => rfl
  | 8, _ => rfl
  | 9, _ => rfl
  | 10, _ => rfl
  | 11, _ => rfl
  | 12, _ => rfl

theorem pw_of {W : World} (h : VarReads Tryz.prog W "longstop/decimal.powers" Rows.laid_longstop_decimal_powers) : Pw W := by
  have gP : Tryz.prog.globalNamed "longstop/decimal.powers" = some 1 := by kernel_rfl
  have tP : (Tryz.prog.globals[1]?).map (·.type) = some 187 := by kernel_rfl
  have e : (Rows.laid_longstop_decimal_powers : DataW Unit) = Lib.tabData .i64 powN := by kernel_rfl
  rw [e] at h
  obtain ⟨g, t, cs, fuel, p, hg, hty, hvar, hd⟩ := h
  obtain rfl := Option.some.inj (gP.symm.trans hg)
  obtain rfl := Option.some.inj (tP.symm.trans hty)
  have hcs := Lib.cells_of_tab Tryz.underlying187 Tryz.underlying3 (by kernel_rfl) (by kernel_rfl) hd
  intro k hk
  have hc := World.var?_cell hg hvar k
  rw [hc, ← pow_cells k hk]
  have : cs = (powN.map (Value.int .i64)).toArray := by
    rw [← Array.toArray_toList (xs := cs), hcs]
  rw [this]
end Go.Proofs.YtnpdecbgakgbgaaGreatDoor

namespace Go.Proofs.YtnpdecbgakgbgaaGreatDoor
open Go.RowKit Go.Shelf
attribute [local go_sem] cell?_more frozen?_more setCell_more more_lt more_more more_drew more_drewN setCell_drewN alloc_drewN

/-- Are two values the same? -/
def eqv (k n m : Int) (b : ByteArray) (k' n' m' : Int) (b' : ByteArray) : Bool := k == k' && (n == n' && (m == m' && b.toList == b'.toList))
theorem eqVb (k n m k' n' m' : Int) (b b' : ByteArray) (w : World) : (Op.equalIn 10000 30 (va k n m b) (va k' n' m' b')).run Tryz.prog w = .ok (eqv k n m b k' n' m' b') w := eqVa k n m k' n' m' b b' w
attribute [local go_sem high] eqVb

/-- The truth that a value stands for, and whether it stands for one. -/
def truN (k n m : Int) (b : ByteArray) : Int := if vrt k n m b = true ∧ k = 4 then n else 2
def truB (k n m : Int) (b : ByteArray) : Bool := vrt k n m b && (k == 0 || k == 4)

set_option maxHeartbeats 2000000 in
theorem rtruth_any (k n m : Int) (b : ByteArray) (w : World) :
    Calls Tryz.prog 41 #[va k n m b] w fun e w' => e = .returned (.tuple #[.int .i64 (truN k n m b), .bool (truB k n m b)]) ∧ Below w.heap.size w w' := by
  have bx := Box.new w k n m b.data.toList
  have R := rright_any k n m b (w.alloc (.cells #[.int .i64 k, .int .i64 n, .int .i64 m, .string b] 30))
  have Bw : Below w.heap.size w (w.alloc (.cells #[.int .i64 k, .int .i64 n, .int .i64 m, .string b] 30)) := (Below.refl _ _).alloc (Nat.le_refl _) _
  unfold truN truB
  generalize vrt k n m b = g at *
  cases g
  · rw [if_neg (by simp), Bool.false_and]
    go_enter Tryz.func41, Tryz.ntmps41
    go_upto_region 1 with fail
    go_wp2_with fail
    refine R.mono ?_
    rintro e w1 ⟨rfl, b1⟩
    have B1 := below_trans Bw b1
    have bx1 := bx.later b1
    obtain ⟨c0, c1, c2, c3⟩ := bx1.at4
    simp only at c0 c1 c2 c3
    clear R bx bx1 b1 Bw
    go_wp2
    all_goals go_ret2
    all_goals exact ⟨rfl, B1⟩
  · rw [Bool.true_and]
    by_cases h0 : k = 0
    · subst h0
      rw [if_neg (by omega), show ((0 : Int) == 0 || (0 : Int) == 4) = true by decide]
      go_enter Tryz.func41, Tryz.ntmps41
      go_upto_region 1 with fail
      go_wp2_with fail
      refine R.mono ?_
      rintro e w1 ⟨rfl, b1⟩
      have B1 := below_trans Bw b1
      have bx1 := bx.later b1
      obtain ⟨c0, c1, c2, c3⟩ := bx1.at4
      simp only at c0 c1 c2 c3
      clear R bx bx1 b1 Bw
      go_wp2
      all_goals go_ret2
      all_goals exact ⟨rfl, B1⟩
    · have d0 : (k == 0) = false := by simpa using h0
      by_cases h4 : k = 4
      · subst h4
        rw [if_pos ⟨rfl, rfl⟩, show ((4 : Int) == 0 || (4 : Int) == 4) = true by decide]
        clear h0 d0
        go_enter Tryz.func41, Tryz.ntmps41
        go_upto_region 1 with fail
        go_wp2_with fail
        refine R.mono ?_
        rintro e w1 ⟨rfl, b1⟩
        have B1 := below_trans Bw b1
        have bx1 := bx.later b1
        obtain ⟨c0, c1, c2, c3⟩ := bx1.at4
        simp only at c0 c1 c2 c3
        clear R bx bx1 b1 Bw
        go_wp2
        all_goals go_ret2
        all_goals exact ⟨rfl, B1⟩
      · have d4 : (k == 4) = false := by simpa using h4
        rw [if_neg (fun h => h4 h.2), d0, d4, Bool.false_or]
        have n0 : (k != 0) = true := by simpa using h0
        have n4 : (k != 4) = true := by simpa using h4
        clear h0 h4
        go_enter Tryz.func41, Tryz.ntmps41
        go_upto_region 1 with fail
        go_wp2_with fail
        refine R.mono ?_
        rintro e w1 ⟨rfl, b1⟩
        have B1 := below_trans Bw b1
        have bx1 := bx.later b1
        obtain ⟨c0, c1, c2, c3⟩ := bx1.at4
        simp only at c0 c1 c2 c3
        clear R bx bx1 b1 Bw
        go_wp2
        all_goals go_ret2
        all_goals exact ⟨rfl, B1⟩

theorem tru_cases (k n m : Int) (b : ByteArray) :
    (eqv k n m b 0 0 0 ⟨#[]⟩ = true → truN k n m b = 2 ∧ truB k n m b = true) ∧
    (eqv k n m b 4 1 0 ⟨#[]⟩ = true → truN k n m b = 1 ∧ truB k n m b = true) ∧
    (eqv k n m b 4 0 0 ⟨#[]⟩ = true → truN k n m b = 0 ∧ truB k n m b = true) ∧
    (eqv k n m b 0 0 0 ⟨#[]⟩ = false → eqv k n m b 4 1 0 ⟨#[]⟩ = false → eqv k n m b 4 0 0 ⟨#[]⟩ = false → truN k n m b = 2 ∧ truB k n m b = false) := by
  unfold eqv
  rw [toList_nil]
  unfold truN truB vrt vft
  generalize b.data.toList = l
  refine ⟨?_, ?_, ?_, ?_⟩
  · intro h
    simp only [Bool.and_eq_true, beq_iff_eq] at h
    obtain ⟨rfl, rfl, rfl, rfl⟩ := h
    simp
  · intro h
    simp only [Bool.and_eq_true, beq_iff_eq] at h
    obtain ⟨rfl, rfl, rfl, rfl⟩ := h
    simp
  · intro h
    simp only [Bool.and_eq_true, beq_iff_eq] at h
    obtain ⟨rfl, rfl, rfl, rfl⟩ := h
    simp
  · intro h1 h2 h3
    by_cases h0 : k = 0
    · subst h0
      simp at h1 ⊢
      intro a b c
      exact h1 a b c
    · by_cases h4 : k = 4
      · subst h4
        simp at h2 h3
        simp
        by_cases hm : m = 0 ∧ l = []
        · obtain ⟨rfl, rfl⟩ := hm
          simp at h2 h3 ⊢
          exact ⟨fun h => by omega, h3, h2⟩
        · simp only [not_and] at hm
          constructor
          · intro h g; exact absurd g (hm h)
          · intro h g; exact absurd g (hm h)
      · simp [h0, h4]

set_option maxHeartbeats 2000000 in
theorem truth_any (k n m : Int) (b : ByteArray) (w : World) :
    Calls Tryz.prog 91 #[va k n m b] w fun e w' => e = .returned (.tuple #[.int .i64 (truN k n m b), .bool (truB k n m b)]) ∧ Grew w w' := by
  obtain ⟨t1, t2, t3, t4⟩ := tru_cases k n m b
  have O2 : ∀ W, Calls Tryz.prog 90 #[.int .i64 2] W fun e w' => e = .returned (va 0 0 0 ⟨#[]⟩) ∧ Grew W w' := fun W => of_any 2 W
  have O1 : ∀ W, Calls Tryz.prog 90 #[.int .i64 1] W fun e w' => e = .returned (va 4 1 0 ⟨#[]⟩) ∧ Grew W w' := fun W => of_any 1 W
  have O0 : ∀ W, Calls Tryz.prog 90 #[.int .i64 0] W fun e w' => e = .returned (va 4 0 0 ⟨#[]⟩) ∧ Grew W w' := fun W => of_any 0 W
  cases h2 : eqv k n m b 0 0 0 ⟨#[]⟩
  · cases h1 : eqv k n m b 4 1 0 ⟨#[]⟩
    · cases h0 : eqv k n m b 4 0 0 ⟨#[]⟩
      · obtain ⟨e1, e2⟩ := t4 h2 h1 h0
        rw [e1, e2]
        clear t1 t2 t3 t4 e1 e2
        go_enter Tryz.func91, Tryz.ntmps91
        go_wp2_with (first
          | (go_at_call_of 90 (Value.int IntKind.i64 2); refine (O2 _).mono ?_; rintro e w1 ⟨rfl, os1, n1, rfl⟩)
          | (go_at_call_of 90 (Value.int IntKind.i64 1); refine (O1 _).mono ?_; rintro e w1 ⟨rfl, os1, n1, rfl⟩)
          | (go_at_call_of 90 (Value.int IntKind.i64 0); refine (O0 _).mono ?_; rintro e w1 ⟨rfl, os1, n1, rfl⟩))
        all_goals go_ret2
        all_goals exact ⟨rfl, (by repeat (first | assumption | exact Grew.refl _ | apply Grew.drew | apply Grew.drewN | apply Grew.alloc | apply Grew.more))⟩
      · obtain ⟨e1, e2⟩ := t3 h0
        rw [e1, e2]
        clear t1 t2 t3 t4 e1 e2
        go_enter Tryz.func91, Tryz.ntmps91
        go_wp2_with (first
          | (go_at_call_of 90 (Value.int IntKind.i64 2); refine (O2 _).mono ?_; rintro e w1 ⟨rfl, os1, n1, rfl⟩)
          | (go_at_call_of 90 (Value.int IntKind.i64 1); refine (O1 _).mono ?_; rintro e w1 ⟨rfl, os1, n1, rfl⟩)
          | (go_at_call_of 90 (Value.int IntKind.i64 0); refine (O0 _).mono ?_; rintro e w1 ⟨rfl, os1, n1, rfl⟩))
        all_goals go_ret2
        all_goals exact ⟨rfl, (by repeat (first | assumption | exact Grew.refl _ | apply Grew.drew | apply Grew.drewN | apply Grew.alloc | apply Grew.more))⟩
    · obtain ⟨e1, e2⟩ := t2 h1
      rw [e1, e2]
      clear t1 t2 t3 t4 e1 e2
      go_enter Tryz.func91, Tryz.ntmps91
      go_wp2_with (first
        | (go_at_call_of 90 (Value.int IntKind.i64 2); refine (O2 _).mono ?_; rintro e w1 ⟨rfl, os1, n1, rfl⟩)
        | (go_at_call_of 90 (Value.int IntKind.i64 1); refine (O1 _).mono ?_; rintro e w1 ⟨rfl, os1, n1, rfl⟩)
        | (go_at_call_of 90 (Value.int IntKind.i64 0); refine (O0 _).mono ?_; rintro e w1 ⟨rfl, os1, n1, rfl⟩))
      all_goals go_ret2
      all_goals exact ⟨rfl, (by repeat (first | assumption | exact Grew.refl _ | apply Grew.drew | apply Grew.drewN | apply Grew.alloc | apply Grew.more))⟩
  · obtain ⟨e1, e2⟩ := t1 h2
    rw [e1, e2]
    clear t1 t2 t3 t4 e1 e2
    go_enter Tryz.func91, Tryz.ntmps91
    go_wp2_with (first
      | (go_at_call_of 90 (Value.int IntKind.i64 2); refine (O2 _).mono ?_; rintro e w1 ⟨rfl, os1, n1, rfl⟩)
      | (go_at_call_of 90 (Value.int IntKind.i64 1); refine (O1 _).mono ?_; rintro e w1 ⟨rfl, os1, n1, rfl⟩)
      | (go_at_call_of 90 (Value.int IntKind.i64 0); refine (O0 _).mono ?_; rintro e w1 ⟨rfl, os1, n1, rfl⟩))
    all_goals go_ret2
    all_goals exact ⟨rfl, (by repeat (first | assumption | exact Grew.refl _ | apply Grew.drew | apply Grew.drewN | apply Grew.alloc | apply Grew.more))⟩

theorem tnot_tand (a b : Int) : tor (tnot a) (tnot b) = tnot (tand a b) := by
  unfold tor tnot tand
  by_cases h0 : a = 0 <;> by_cases h1 : a = 1 <;> by_cases g0 : b = 0 <;> by_cases g1 : b = 1 <;> simp_all
theorem vof_va (a : Int) : ∃ k n m b, vof a = va k n m b := by
  unfold vof
  split
  · exact ⟨_, _, _, _, rfl⟩
  · exact ⟨_, _, _, _, rfl⟩

end Go.Proofs.YtnpdecbgakgbgaaGreatDoor
