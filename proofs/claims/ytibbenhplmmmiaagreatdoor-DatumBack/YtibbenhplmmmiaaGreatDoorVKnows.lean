/-
  The contract of longstoplaw04.knows: whatever lies in memory, it answers true, and nothing that was there has changed.
-/
import Derived.Test.YtibbenhplmmmiaaGreatDoorVPut2
import Derived.Test.YtibbenhplmmmiaaGreatDoorVQuote
namespace Go.Proofs.YtibbenhplmmmiaaGreatDoor
open Go.RowKit Go.Shelf
attribute [local go_sem] cell?_more frozen?_more setCell_more more_lt more_more more_drew more_drewN setCell_drewN alloc_drewN

theorem ba_extract1 (c : UInt8) (l : List UInt8) : ((ByteArray.mk (c :: l).toArray).extract 0 1).toList = [c] := by
  have e : (ByteArray.mk (c :: l).toArray).extract 0 1 = ⟨#[c]⟩ := by
    apply ByteArray.ext
    simp [ByteArray.data_extract]
  rw [e, ByteArray.toList_eq]

theorem prefix0_any (s : ByteArray) (p : UInt8) (w : World) (hs : s.size ≤ 9223372036854775806) :
    Calls Tryz.prog 139 #[.string s, .string ⟨#[p]⟩] w fun e w' => e = .returned (.bool (s.data.toList.head? == some p)) ∧ w = w' := by
  obtain ⟨⟨l⟩⟩ := s
  match l, hs with
  | [], _ =>
    go_enter Tryz.func139, Tryz.ntmps139
    go_wp2
    all_goals go_ret
    all_goals exact ⟨rfl, rfl⟩
  | c :: l, hs =>
    have hsz : (ByteArray.mk (c :: l).toArray).size = l.length + 1 := rfl
    have hx : (((ByteArray.mk (c :: l).toArray).extract 0 1).toList == [p]) = (c == p) := by
      rw [ba_extract1]
      simp
    have e : ((ByteArray.mk (c :: l).toArray).data.toList.head? == some p) = (c == p) := by simp
    rw [e]
    have h1 : (1 : Int) ≤ (l.length : Int) + 1 := by omega
    have h2 : 1 ≤ l.length + 1 := by omega
    rw [hsz] at hs
    change (((ByteArray.mk (c :: l).toArray).extract 0 1).toList == [p]) = (c == p) at hx
    generalize ByteArray.mk (c :: l).toArray = B at *
    generalize l.length = n at *
    generalize (c == p) = g at *
    go_enter Tryz.func139, Tryz.ntmps139
    go_wp2
    all_goals go_ret
    all_goals exact ⟨rfl, rfl⟩

theorem prefix_any (s : ByteArray) (p : UInt8) (w : World) (hs : s.size ≤ 9223372036854775806) :
    Calls Tryz.prog 73 #[.string s, .string ⟨#[p]⟩] w fun e w' => e = .returned (.bool (s.data.toList.head? == some p)) ∧ w = w' := by
  have P := fun W => prefix0_any s p W hs
  generalize (s.data.toList.head? == some p) = g at *
  go_enter Tryz.func73, Tryz.ntmps73
  go_wp2_with (go_at_call 139; refine (P _).mono ?_; rintro e w' ⟨rfl, rfl⟩)
  go_ret
  exact ⟨rfl, rfl⟩

/-- A text with a quote, and as it is told. -/
abbrev T0 : ByteArray := ⟨#[105, 116, 39, 115]⟩
abbrev S0 : ByteArray := ⟨#[39, 105, 116, 39, 39, 115, 39]⟩

set_option maxHeartbeats 1000000 in
theorem told0 (w : World) : Calls Tryz.prog 30 #[.string S0] w fun e w' => e = .returned (.tuple #[va 3 0 0 T0, .bool true]) ∧ Below w.heap.size w w' := by
  have H : ∀ W, Calls Tryz.prog 73 #[.string S0, .string ⟨#[39]⟩] W fun e w' => e = .returned (.bool true) ∧ W = w' := fun W => prefix_any S0 39 W (by decide)
  have U : ∀ W, Calls Tryz.prog 74 #[.string S0] W fun e w' => e = .returned (.tuple #[.string T0, .bool true]) ∧ Below W.heap.size W w' := fun W => unquoted_any S0 W (by decide)
  go_enter Tryz.func30, Tryz.ntmps30
  go_wp2_with (first
    | (go_at_call 73; refine (H _).mono ?_; rintro e w' ⟨rfl, rfl⟩)
    | (go_at_call 74; refine (U _).mono ?_; rintro e w1 ⟨rfl, b1⟩; have bx : Box w1 w.heap.size ⟨0, 0, 0, []⟩ := (Box.new w 0 0 0 []).later b1; obtain ⟨c0, c1, c2, c3⟩ := bx.at4; have f0 := bx.free 0; have f1 := bx.free 1; have f2 := bx.free 2; have f3 := bx.free 3; have lt1 := bx.lt; clear bx))
  refine bodyPost_ret_by (v := .tuple #[va 3 0 0 T0, .bool true]) ?_ rfl ⟨rfl, ?_⟩
  · simp [results, Tryz.results30, go_sem, c0, c1, c2, c3]
  · have b0 : Below w.heap.size w w1 := ((Below.refl _ w).alloc (Nat.le_refl _) _).trans (b1.mono (by simp))
    exact (((b0.setCell (p := ⟨w.heap.size, 0, none⟩) (Nat.le_refl _) _).setCell (p := ⟨w.heap.size, 1, none⟩) (Nat.le_refl _) _).setCell (p := ⟨w.heap.size, 2, none⟩) (Nat.le_refl _) _).setCell (p := ⟨w.heap.size, 3, none⟩) (Nat.le_refl _) _

theorem print0 (w : World) (hT : Tabs w) : Calls Tryz.prog 8 #[va 3 0 0 T0] w fun e w' => e = .returned (.string S0) ∧ Below w.heap.size w w' := by
  have hr : vrt 3 0 0 T0 = true := by decide +kernel
  have R : ∀ W, Grew w W → Calls Tryz.prog 34 #[va 3 0 0 T0] W fun e w' => e = .returned (.bool true) ∧ Below W.heap.size W w' := fun W h => by have := vright_any 3 0 0 T0 W (hT.later h.below); rwa [hr] at this
  have Q : ∀ W, Calls Tryz.prog 37 #[.string T0] W fun e w' => e = .returned (.string S0) ∧ Below W.heap.size W w' := fun W => quoted_any T0 W (by decide)
  clear hT hr
  go_enter Tryz.func8, Tryz.ntmps8
  go_wp2_with (first
    | (go_at_call 34; refine (R _ (by repeat (first | exact Grew.refl _ | apply Grew.drew | apply Grew.drewN | apply Grew.alloc | apply Grew.more))).mono ?_; rintro e w1 ⟨rfl, b1⟩; have bx : Box w1 w.heap.size ⟨3, 0, 0, [105, 116, 39, 115]⟩ := (Box.new w 3 0 0 [105, 116, 39, 115]).later b1; obtain ⟨c0, c1, c2, c3⟩ := bx.at4; clear bx)
    | (go_at_call 37; refine (Q _).mono ?_; rintro e w2 ⟨rfl, b2⟩))
  have b0 : Below w.heap.size w w1 := ((Below.refl _ w).alloc (Nat.le_refl _) _).trans (b1.mono (by simp))
  all_goals go_ret
  exact ⟨rfl, below_trans b0 b2⟩

theorem parse0 (w : World) (hT : Tabs w) : Calls Tryz.prog 6 #[.string S0] w fun e w' => e = .returned (.tuple #[va 3 0 0 T0, .int .i64 0]) ∧ Below w.heap.size w w' := by
  have T := fun W => told0 W
  have P : ∀ W, Below w.heap.size w W → Calls Tryz.prog 8 #[va 3 0 0 T0] W fun e w' => e = .returned (.string S0) ∧ Below W.heap.size W w' := fun W h => print0 W (hT.later h)
  clear hT
  go_enter Tryz.func6, Tryz.ntmps6
  go_wp2_with fail
  refine (T _).mono ?_
  rintro e w1 ⟨rfl, b1⟩
  have bx0 : Box w1 w.heap.size ⟨0, 0, 0, []⟩ := (Box.new w 0 0 0 []).later b1
  have B1 : Below w.heap.size w w1 := ((Below.refl _ w).alloc (Nat.le_refl _) _).trans (b1.mono (by simp))
  have s1 := B1.size
  clear b1
  go_wp2_with fail
  refine (P _ (B1.alloc s1 _)).mono ?_
  rintro e w2 ⟨rfl, b2⟩
  have bx1 : Box w2 w1.heap.size ⟨3, 0, 0, [105, 116, 39, 115]⟩ := (Box.new w1 3 0 0 [105, 116, 39, 115]).later b2
  have b12 : Below w1.heap.size w1 w2 := ((Below.refl _ w1).alloc (Nat.le_refl _) _).trans (b2.mono (by simp))
  have bx2 := bx0.later b12
  have B2 : Below w.heap.size w w2 := B1.trans (b12.mono s1)
  obtain ⟨c0, c1, c2, c3⟩ := bx1.at4
  obtain ⟨d0, d1, d2, d3⟩ := bx2.at4
  have f0 := bx2.free 0
  have f1 := bx2.free 1
  have f2 := bx2.free 2
  have f3 := bx2.free 3
  have lt1 := bx2.lt
  clear bx0 bx1 bx2 B1 s1 b12 b2 P T
  go_wp2
  refine bodyPost_ret_by (v := .tuple #[va 3 0 0 T0, .int .i64 0]) ?_ rfl ⟨rfl, ?_⟩
  · simp [results, Tryz.results6, go_sem, d0, d1, d2, d3]
  · exact (((B2.setCell (p := ⟨w.heap.size, 0, none⟩) (Nat.le_refl _) _).setCell (p := ⟨w.heap.size, 1, none⟩) (Nat.le_refl _) _).setCell (p := ⟨w.heap.size, 2, none⟩) (Nat.le_refl _) _).setCell (p := ⟨w.heap.size, 3, none⟩) (Nat.le_refl _) _

theorem vnum_any (n : Int) (w : World) : Calls Tryz.prog 11 #[.int .i64 n] w fun e w' => e = .returned (.int .i64 n) ∧ w = w' := by
  go_enter Tryz.func11, Tryz.ntmps11
  go_wp2
  go_ret
  exact ⟨rfl, rfl⟩

/-- The text as a value. -/
abbrev X0 : Va := ⟨3, 0, 0, [105, 116, 39, 115]⟩

set_option maxHeartbeats 2000000 in
theorem knows_any (w : World) (hT : Tabs w) : Calls Tryz.prog 12 #[] w fun e w' => e = .returned (.bool true) ∧ Below w.heap.size w w' := by
  go_enter Tryz.func12, Tryz.ntmps12
  go_wp2_with fail
  refine (parse0 _ hT).mono ?_
  rintro e w1 ⟨rfl, b1⟩
  have hT1 := hT.later b1
  go_wp2_with fail
  have bA := Box.new w1 3 0 0 [105, 116, 39, 115]
  have bB := Box.new (w1.alloc (Obj.cells #[.int .i64 3, .int .i64 0, .int .i64 0, .string T0] 23)) 3 0 0 [105, 116, 39, 115]
  have bA' : Box ((w1.alloc (Obj.cells #[.int .i64 3, .int .i64 0, .int .i64 0, .string T0] 23)).alloc (Obj.cells #[.int .i64 3, .int .i64 0, .int .i64 0, .string T0] 23)) w1.heap.size X0 := bA.later ((Below.refl _ _).alloc (Nat.le_refl _) _)
  have B1 : Below w.heap.size w ((w1.alloc (Obj.cells #[.int .i64 3, .int .i64 0, .int .i64 0, .string T0] 23)).alloc (Obj.cells #[.int .i64 3, .int .i64 0, .int .i64 0, .string T0] 23)) := (b1.alloc b1.size _).alloc (by have := b1.size; simp; omega) _
  have hV : Vs ((w1.alloc (Obj.cells #[.int .i64 3, .int .i64 0, .int .i64 0, .string T0] 23)).alloc (Obj.cells #[.int .i64 3, .int .i64 0, .int .i64 0, .string T0] 23)) (some ⟨w1.heap.size + 1, 0, none⟩) [X0] := by
    intro _
    refine ⟨_, _, rfl, fun i hi => ?_⟩
    have : i = 0 := by simp at hi; omega
    subst this
    have h := bB.at4
    simp only [World.size_alloc] at h
    exact h
  refine (put_good (some ⟨w1.heap.size + 1, 0, none⟩) 1 [X0] _ (hT.later B1) hV (by decide +kernel) (fun v hv => by simp at hv; subst hv; exact ⟨⟨by decide, by decide⟩, ⟨by decide, by decide⟩⟩)).mono ?_
  rintro e w2 ⟨v2, rfl, ho2, b2⟩
  have bx := bA'.later b2
  have B2 : Below w.heap.size w w2 := below_trans B1 b2
  obtain ⟨ao, cap, rfl, _, _⟩ := ho2.rd
  have h7 : (numBytes (([X0].length : Nat) : Int) ++ many vbytes [X0]).length = 7 := by decide +kernel
  rw [h7]
  have P : ∀ W, Grew w2 W → Calls Tryz.prog 8 #[va 3 0 0 T0] W fun e w' => e = .returned (.string S0) ∧ Below W.heap.size W w' := fun W h => print0 W ((hT.later B2).later h.below)
  have A := fun W => and_any 0 2 W
  have O := fun W => or_any 1 2 W
  have N := fun W => not_any 0 W
  have M := fun W => vnum_any 0 W
  rw [show tand 0 2 = 0 by decide] at A
  rw [show tor 1 2 = 1 by decide] at O
  rw [show tnot 0 = 1 by decide] at N
  obtain ⟨c0, c1, c2, c3⟩ := bx.at4
  have lt2 := bx.lt
  clear ho2 hV bA bB bA' hT1 h7 b2 B1 b1 hT
  go_wp2_with (first
    | (go_at_call 11; refine (M _).mono ?_; rintro e w' ⟨rfl, rfl⟩)
    | (go_at_call 8; refine (P _ (by repeat (first | assumption | exact Grew.refl _ | apply Grew.drew | apply Grew.drewN | apply Grew.alloc | apply Grew.more))).mono ?_; rintro e w3 ⟨rfl, b3⟩)
    | (go_at_call 43; refine (A _).mono ?_; rintro e w' ⟨rfl, rfl⟩)
    | (go_at_call 44; refine (O _).mono ?_; rintro e w' ⟨rfl, rfl⟩)
    | (go_at_call 45; refine (N _).mono ?_; rintro e w' ⟨rfl, rfl⟩))
  go_ret
  exact ⟨rfl, below_trans B2 b3⟩
end Go.Proofs.YtibbenhplmmmiaaGreatDoor
