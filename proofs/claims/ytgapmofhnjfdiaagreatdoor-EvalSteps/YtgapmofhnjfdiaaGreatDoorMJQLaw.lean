/-
  Ops of two Texts: eval.ofTexts.
  eval.Binary, whole: what an op of two comes to.
  What must come: longstoplaw07.knows; on its road eval.Function at 'length' and one Text.
  The walk of EvalRight.
  The walk of EvalLaws.
-/
import Derived.Test.YtgapmofhnjfdiaaGreatDoorMCQBinB
import Derived.Test.YtgapmofhnjfdiaaGreatDoorLShelf
import Derived.Test.YtgapmofhnjfdiaaGreatDoorMDQNums
import Derived.Test.YtgapmofhnjfdiaaGreatDoorQPts
import Derived.Test.YtgapmofhnjfdiaaGreatDoorMFQCall
import Derived.Deep.Cut
import Derived.Test.YtgapmofhnjfdiaaGreatDoorMGQR6A
import Derived.Test.YtgapmofhnjfdiaaGreatDoorMzVOrd1
import Derived.Deep.CutRange
namespace Go.Proofs.YtgapmofhnjfdiaaGreatDoor
open Go.RowKit Go.Shelf
attribute [local go_sem] cell?_more frozen?_more setCell_more more_lt more_more more_drew more_drewN setCell_drewN alloc_drewN

set_option maxHeartbeats 2000000 in
theorem qtxt_cmp (op c : Int) (an am bn bm : Int) (ab bb : List UInt8) (w : World) (e9 : (op != 9) = true) (D : Tells 66 #[va 3 an am ⟨ab.toArray⟩, va 3 bn bm ⟨bb.toArray⟩] w (.int .i64 c)) :
    Calls Tryz.prog 64 #[.int .i64 op, va 3 an am ⟨ab.toArray⟩, va 3 bn bm ⟨bb.toArray⟩] w fun e w' => e = .returned (rs (cmpR op c)) ∧ Below w.heap.size w w' := by
  have HC := fun W => qcompared_any op c W
  obtain ⟨w0, hw0, bxa, bxb, bxr, Bw⟩ := three_boxes w ⟨3, an, am, ab⟩ ⟨3, bn, bm, bb⟩
  dsimp only at hw0
  have B0 : Below w0.heap.size w0 w0 := Below.refl _ _
  go_enter Tryz.func64, Tryz.ntmps64
  go_wp2_with fail
  rw [← hw0]
  clear hw0
  obtain ⟨a0, a1, a2, a3⟩ := bxa.at4
  obtain ⟨b0, b1, b2, b3⟩ := bxb.at4
  dsimp only at a0 a1 a2 a3 b0 b1 b2 b3
  go_wp2_with fail
  refine (D _ Bw).mono ?_
  rintro e w1 ⟨rfl, B1⟩
  have br := bxr.later B1
  obtain ⟨r0, r1, r2, r3⟩ := br.at4
  dsimp only [nul] at r0 r1 r2 r3
  simp only [Nat.zero_add] at r1 r2 r3
  have f0 := br.free 0
  have f1 := br.free 1
  have f2 := br.free 2
  have f3 := br.free 3
  have lt1 := br.lt
  have Be := below_trans Bw B1
  clear D a0 a1 a2 a3 b0 b1 b2 b3 br bxr
  go_wp2_with (go_at_call 65; refine (HC _).mono ?_; rintro e w3 ⟨rfl, os2, n2, rfl⟩)
  refine bodyPost_ret_by (v := rs (cmpR op c)) ?_ rfl ⟨rfl, ?_⟩
  · simp [results, Tryz.results64, go_sem, r0, r1, r2, r3, lt1]
  · refine below_trans (Be.setCell (p := ⟨w.heap.size + 1 + 1, 0, none⟩) (by dsimp only; omega) (.int .i64 (cmpR op c).1.k) |>.setCell (p := ⟨w.heap.size + 1 + 1, 1, none⟩) (by dsimp only; omega) (.int .i64 (cmpR op c).1.n) |>.setCell (p := ⟨w.heap.size + 1 + 1, 2, none⟩) (by dsimp only; omega) (.int .i64 (cmpR op c).1.m) |>.setCell (p := ⟨w.heap.size + 1 + 1, 3, none⟩) (by dsimp only; omega) (.string ⟨(cmpR op c).1.b.toArray⟩)) (Grew.below ?_)
    repeat (first | assumption | exact Grew.refl _ | apply Grew.drew | apply Grew.drewN | apply Grew.alloc | apply Grew.more)

set_option maxHeartbeats 2000000 in
theorem qtxt_over (an am bn bm : Int) (ab bb : List UInt8) (w : World) (ha : ab.length ≤ 256) (hb : bb.length ≤ 256) (ho : 256 < ab.length + bb.length) :
    Calls Tryz.prog 64 #[.int .i64 9, va 3 an am ⟨ab.toArray⟩, va 3 bn bm ⟨bb.toArray⟩] w fun e w' => e = .returned (.tuple #[va 0 0 0 ⟨#[]⟩, .int .i64 32]) ∧ Below w.heap.size w w' := by
  have hs : (256 : Int) < (ab.length : Int) + (bb.length : Int) := by omega
  have hw : IntKind.i64.wrap ((ab.length : Int) + (bb.length : Int)) = (ab.length : Int) + (bb.length : Int) := by rw [IntKind.wrap_i64]; omega
  obtain ⟨w0, hw0, bxa, bxb, bxr, Bw⟩ := three_boxes w ⟨3, an, am, ab⟩ ⟨3, bn, bm, bb⟩
  dsimp only at hw0
  have B0 : Below w0.heap.size w0 w0 := Below.refl _ _
  go_enter Tryz.func64, Tryz.ntmps64
  go_wp2_with fail
  rw [← hw0]
  clear hw0
  obtain ⟨a0, a1, a2, a3⟩ := bxa.at4
  obtain ⟨b0, b1, b2, b3⟩ := bxb.at4
  dsimp only at a0 a1 a2 a3 b0 b1 b2 b3
  have br := bxr.later B0
  obtain ⟨r0, r1, r2, r3⟩ := br.at4
  dsimp only [nul] at r0 r1 r2 r3
  simp only [Nat.zero_add] at r1 r2 r3
  have f0 := br.free 0
  have f1 := br.free 1
  have f2 := br.free 2
  have f3 := br.free 3
  have lt1 := br.lt
  have Be := below_trans Bw B0
  go_wp2
  refine bodyPost_ret_by (v := .tuple #[va 0 0 0 ⟨#[]⟩, .int .i64 32]) ?_ rfl ⟨rfl, ?_⟩
  · simp [results, Tryz.results64, go_sem, r0, r1, r2, r3]
  · exact Be

theorem ba_append (x y : List UInt8) : (⟨x.toArray⟩ : ByteArray) ++ ⟨y.toArray⟩ = ⟨(x ++ y).toArray⟩ := by
  apply ByteArray.ext
  simp

set_option maxHeartbeats 2000000 in
theorem qtxt_join (an am bn bm : Int) (ab bb : List UInt8) (w : World) (ho : ¬ 256 < ab.length + bb.length) :
    Calls Tryz.prog 64 #[.int .i64 9, va 3 an am ⟨ab.toArray⟩, va 3 bn bm ⟨bb.toArray⟩] w fun e w' => e = .returned (.tuple #[va 3 0 0 ⟨(ab ++ bb).toArray⟩, .int .i64 0]) ∧ Below w.heap.size w w' := by
  have hs : ¬ (256 : Int) < (ab.length : Int) + (bb.length : Int) := by omega
  have hw : IntKind.i64.wrap ((ab.length : Int) + (bb.length : Int)) = (ab.length : Int) + (bb.length : Int) := by rw [IntKind.wrap_i64]; omega
  have C : ∀ W, Calls Tryz.prog 37 #[.string (⟨ab.toArray⟩ ++ ⟨bb.toArray⟩)] W fun e w' => e = .returned (.string ⟨(ab ++ bb).toArray⟩) ∧ Below W.heap.size W w' := by
    intro W
    rw [ba_append]
    exact clone_any _ W (by show (ab ++ bb).toArray.size ≤ _; simp; omega)
  obtain ⟨w0, hw0, bxa, bxb, bxr, Bw⟩ := three_boxes w ⟨3, an, am, ab⟩ ⟨3, bn, bm, bb⟩
  dsimp only at hw0
  have B0 : Below w0.heap.size w0 w0 := Below.refl _ _
  go_enter Tryz.func64, Tryz.ntmps64
  go_wp2_with fail
  rw [← hw0]
  clear hw0
  obtain ⟨a0, a1, a2, a3⟩ := bxa.at4
  obtain ⟨b0, b1, b2, b3⟩ := bxb.at4
  dsimp only at a0 a1 a2 a3 b0 b1 b2 b3
  go_wp2_with fail
  refine (C _).mono ?_
  rintro e w1 ⟨rfl, B1⟩
  have br := bxr.later B1
  obtain ⟨r0, r1, r2, r3⟩ := br.at4
  dsimp only [nul] at r0 r1 r2 r3
  simp only [Nat.zero_add] at r1 r2 r3
  have f0 := br.free 0
  have f1 := br.free 1
  have f2 := br.free 2
  have f3 := br.free 3
  have lt1 := br.lt
  have Be := below_trans Bw B1
  clear C a0 a1 a2 a3 b0 b1 b2 b3 br bxr
  go_wp2
  refine bodyPost_ret_by (v := .tuple #[va 3 0 0 ⟨(ab ++ bb).toArray⟩, .int .i64 0]) ?_ rfl ⟨rfl, ?_⟩
  · simp [results, Tryz.results64, go_sem, r0, r1, r2, r3]
  · refine below_trans (Be.setCell (p := ⟨w.heap.size + 1 + 1, 0, none⟩) (by dsimp only; omega) (.int .i64 3) |>.setCell (p := ⟨w.heap.size + 1 + 1, 1, none⟩) (by dsimp only; omega) (.int .i64 0) |>.setCell (p := ⟨w.heap.size + 1 + 1, 2, none⟩) (by dsimp only; omega) (.int .i64 0) |>.setCell (p := ⟨w.heap.size + 1 + 1, 3, none⟩) (by dsimp only; omega) (.string ⟨(ab ++ bb).toArray⟩)) (Grew.below ?_)
    repeat (first | assumption | exact Grew.refl _ | apply Grew.drew | apply Grew.drewN | apply Grew.alloc | apply Grew.more)

end Go.Proofs.YtgapmofhnjfdiaaGreatDoor

namespace Go.Proofs.YtgapmofhnjfdiaaGreatDoor
open Go.RowKit Go.Shelf

/-- The order of two values that may be. -/
theorem qcmp_tells (a b : Va) (w : World) (hT : Tabs w) (hP : Pw w) (va : vin a) (vb : vin b) : Tells 66 #[vv a, vv b] w (.int .i64 (pcmp a b)) :=
  fun W h => compare_any a b W (hT.later h) (hP.below h) va vb
theorem qcompared_tells (op c : Int) (w : World) : Tells 65 #[.int .i64 op, .int .i64 c] w (rs (cmpR op c)) :=
  fun W _ => (qcompared_any op c W).mono fun _ _ h => ⟨h.1, h.2.below⟩

theorem qpts_any (op n m n' m' : Int) (b b' : List UInt8) (w : World) (hT : Tabs w) (hP : Pw w) (ha : Ga.ok2 n m = true) (hb : Ga.ok2 n' m' = true) :
    Calls Tryz.prog 63 #[.int .i64 op, vv ⟨5, n, m, b⟩, vv ⟨5, n', m', b'⟩] w fun e w' => e = .returned (rs (ptsR op ⟨5, n, m, b⟩ ⟨5, n', m', b'⟩)) ∧ Below w.heap.size w w' := by
  have ia := (Ga.ok2_iff n m).1 ha
  have ib := (Ga.ok2_iff n' m').1 hb
  have D := qcmp_tells ⟨5, n, m, b⟩ ⟨5, n', m', b'⟩ w hT hP ⟨⟨by simp only; omega, by simp only; omega⟩, ⟨by simp only; omega, by simp only; omega⟩⟩ ⟨⟨by simp only; omega, by simp only; omega⟩, ⟨by simp only; omega, by simp only; omega⟩⟩
  by_cases hz : n' = 0 ∧ m' = 0
  · obtain ⟨rfl, rfl⟩ := hz
    refine qpts_walk op n m 0 0 _ _ _ _ _ _ _ _ _ _ _ _ _ _ _ b b' w (fun W => Ga.add_good n m 0 0 W ha hb) (fun W => Ga.sub_good n m 0 0 W ha hb) (fun W => Ga.mul_good n m 0 0 W ha hb) (fun W => Ga.div_zero n m W ha) D _ ?_
    show ptsR op _ _ = _
    unfold ptsR ptR
    simp only [and_self, if_true]
    rfl
  · have hn := Ga.norm_pos hz
    refine qpts_walk op n m n' m' _ _ _ _ _ _ _ _ _ _ _ _ _ _ _ b b' w (fun W => Ga.add_good n m n' m' W ha hb) (fun W => Ga.sub_good n m n' m' W ha hb) (fun W => Ga.mul_good n m n' m' W ha hb) (fun W => Ga.div_good n m n' m' W ha hb hn) D _ ?_
    show ptsR op _ _ = _
    unfold ptsR ptR
    rw [if_neg hz, if_neg hz]
    rfl

theorem qtxt_any (op : Int) (b b' : List UInt8) (w : World) (hT : Tabs w) (hP : Pw w) (h1 : b.length ≤ 256) (h2 : b'.length ≤ 256) :
    Calls Tryz.prog 64 #[.int .i64 op, vv ⟨3, 0, 0, b⟩, vv ⟨3, 0, 0, b'⟩] w fun e w' => e = .returned (rs (txtR op ⟨3, 0, 0, b⟩ ⟨3, 0, 0, b'⟩)) ∧ Below w.heap.size w w' := by
  unfold txtR
  by_cases h : op = 9
  · subst h
    rw [if_pos rfl]
    by_cases ho : 256 < b.length + b'.length
    · rw [if_pos ho]
      exact qtxt_over 0 0 0 0 b b' w h1 h2 ho
    · rw [if_neg ho]
      exact qtxt_join 0 0 0 0 b b' w ho
  · rw [if_neg h]
    exact qtxt_cmp op _ 0 0 0 0 b b' w (by simpa using h) (qcmp_tells ⟨3, 0, 0, b⟩ ⟨3, 0, 0, b'⟩ w hT hP ⟨⟨(by show (-9223372036854775808 : Int) ≤ 0; decide), (by show (0 : Int) ≤ 9223372036854775807; decide)⟩, ⟨(by show (-9223372036854775808 : Int) ≤ 0; decide), (by show (0 : Int) ≤ 9223372036854775807; decide)⟩⟩ ⟨⟨(by show (-9223372036854775808 : Int) ≤ 0; decide), (by show (0 : Int) ≤ 9223372036854775807; decide)⟩, ⟨(by show (-9223372036854775808 : Int) ≤ 0; decide), (by show (0 : Int) ≤ 9223372036854775807; decide)⟩⟩)

theorem qnum_tells (a : Va) (b : Bool) (h : (a.k == 1 || a.k == 2) = b) (w : World) : Tells 60 #[vv a] w (.bool b) := by
  subst h
  exact fun W _ => (qnumber_any a.k a.n a.m ⟨a.b.toArray⟩ W).mono fun _ _ h => ⟨h.1, h.2.below⟩

set_option maxHeartbeats 1000000 in
theorem qbin_any (op : Int) (a b : Va) (w : World) (hT : Tabs w) (hP : Pw w) (ia : vin a) (ib : vin b) :
    Calls Tryz.prog 16 #[.int .i64 op, vv a, vv b] w fun e w' => e = .returned (rs (binR op a b)) ∧ Below w.heap.size w w' := by
  have Ra : Tells 42 #[vv a] w (.bool (vr a)) := fun W h => vright_any a.k a.n a.m ⟨a.b.toArray⟩ W (hT.later h)
  have Rb : Tells 42 #[vv b] w (.bool (vr b)) := fun W h => vright_any b.k b.n b.m ⟨b.b.toArray⟩ W (hT.later h)
  unfold binR
  by_cases o1 : op < 6
  · rw [if_pos (by omega)]
    exact qbin_low op a.k b.k a.n a.m b.n b.m a.b b.b w o1
  by_cases o2 : op > 18
  · rw [if_pos (by omega)]
    exact qbin_high op a.k b.k a.n a.m b.n b.m a.b b.b w o1 o2
  cases ha : vr a
  · rw [ha] at Ra
    rw [if_pos (by simp)]
    exact qbin_badA op a.k b.k a.n a.m b.n b.m a.b b.b w o1 o2 Ra
  rw [ha] at Ra
  cases hb : vr b
  · rw [hb] at Rb
    rw [if_pos (by simp)]
    exact qbin_badB op a.k b.k a.n a.m b.n b.m a.b b.b w o1 o2 Ra Rb
  rw [hb] at Rb
  rw [if_neg (by simp; omega)]
  by_cases h17 : op = 17
  · subst h17
    rw [if_pos (.inl rfl)]
    exact qbin_t17 a.k b.k a.n a.m b.n b.m a.b b.b w _ _ _ _ _ Ra Rb (fun W _ => (qtru_any 17 a b W).mono fun _ _ h => ⟨h.1, h.2.below⟩)
  by_cases h18 : op = 18
  · subst h18
    rw [if_pos (.inr rfl)]
    exact qbin_t18 a.k b.k a.n a.m b.n b.m a.b b.b w _ _ _ _ _ Ra Rb (fun W _ => (qtru_any 18 a b W).mono fun _ _ h => ⟨h.1, h.2.below⟩)
  rw [if_neg (by omega)]
  have e17 : (op != 17) = true := by simpa using h17
  have e18 : (op != 18) = true := by simpa using h18
  have va' := (vr_iff a).1 ha
  have vb' := (vr_iff b).1 hb
  obtain ⟨ak, an, am, ab⟩ := a
  obtain ⟨bk, bn, bm, bb⟩ := b
  simp only [vok] at va' vb'
  obtain ⟨⟨ia0, ia1⟩, -⟩ := id ia
  obtain ⟨⟨ib0, ib1⟩, -⟩ := id ib
  simp only at ia0 ia1 ib0 ib1
  simp only [isn]
  by_cases a0 : ak = 0
  · subst a0
    rw [if_pos (.inl rfl)]
    exact qbin_nullA op bk an am bn bm ab bb w o1 o2 e17 e18 Ra Rb
  have ea : (ak != 0) = true := by simpa using a0
  by_cases b0 : bk = 0
  · subst b0
    rw [if_pos (.inr rfl)]
    exact qbin_nullB op ak an am bn bm ab bb w o1 o2 e17 e18 ea Ra Rb
  have eb : (bk != 0) = true := by simpa using b0
  rw [if_neg (by omega)]
  have NT := fun (k n m : Int) (l : List UInt8) (v : Bool) (h : (k == 1 || k == 2) = v) => qnum_tells ⟨k, n, m, l⟩ v h w
  rcases (by omega : ak = 1 ∨ ak = 2 ∨ ak = 3 ∨ ak = 4 ∨ ak = 5) with rfl | rfl | rfl | rfl | rfl
  · by_cases h1 : bk = 1
    · subst h1
      rw [if_pos ⟨rfl, rfl⟩]
      exact qbin_ints op an am bn bm ab bb w _ _ _ _ _ o1 o2 e17 e18 Ra Rb (fun W h => (qints_any op an bn W (hP.below h) ia0 ia1 ib0 ib1).mono fun _ _ h => ⟨h.1, h.2.below⟩)
    by_cases h2 : bk = 2
    · subst h2
      rw [if_neg (by omega), if_pos (by omega)]
      exact qbin_n12 op an am bn bm ab bb w _ _ _ _ _ o1 o2 e17 e18 Ra Rb (NT 1 an am ab true rfl) (NT 2 bn bm bb true rfl) (fun W h => qnums_any op ⟨1, an, am, ab⟩ ⟨2, bn, bm, bb⟩ W (hP.below h) (by simp only; omega) (by simp only; omega) ia ib)
    · rw [if_neg (by omega), if_neg (by omega), if_neg (by omega), if_neg (by omega), if_neg (by omega)]
      exact qbin_o1 op bk an am bn bm ab bb w o1 o2 e17 e18 eb (by simpa using h1) Ra Rb (NT 1 an am ab true rfl) (NT bk bn bm bb false (by simp [h1, h2]))
  · by_cases h1 : bk = 1
    · subst h1
      rw [if_neg (by omega), if_pos (by omega)]
      exact qbin_n21 op an am bn bm ab bb w _ _ _ _ _ o1 o2 e17 e18 Ra Rb (NT 2 an am ab true rfl) (NT 1 bn bm bb true rfl) (fun W h => qnums_any op ⟨2, an, am, ab⟩ ⟨1, bn, bm, bb⟩ W (hP.below h) (by simp only; omega) (by simp only; omega) ia ib)
    by_cases h2 : bk = 2
    · subst h2
      rw [if_neg (by omega), if_pos (by omega)]
      exact qbin_n22 op an am bn bm ab bb w _ _ _ _ _ o1 o2 e17 e18 Ra Rb (NT 2 an am ab true rfl) (NT 2 bn bm bb true rfl) (fun W h => qnums_any op ⟨2, an, am, ab⟩ ⟨2, bn, bm, bb⟩ W (hP.below h) (by simp only; omega) (by simp only; omega) ia ib)
    · rw [if_neg (by omega), if_neg (by omega), if_neg (by omega), if_neg (by omega), if_neg (by omega)]
      exact qbin_o2 op bk an am bn bm ab bb w o1 o2 e17 e18 eb Ra Rb (NT 2 an am ab true rfl) (NT bk bn bm bb false (by simp [h1, h2]))
  · by_cases h3 : bk = 3
    · subst h3
      rw [if_neg (by omega), if_neg (by omega), if_neg (by omega), if_pos ⟨rfl, rfl⟩]
      obtain ⟨rfl, rfl, la⟩ : an = 0 ∧ am = 0 ∧ ab.length ≤ 256 := by rcases va' with h | h | h | h | h | h <;> first | omega | exact ⟨h.2.1, h.2.2.1, h.2.2.2.1⟩
      obtain ⟨rfl, rfl, lb⟩ : bn = 0 ∧ bm = 0 ∧ bb.length ≤ 256 := by rcases vb' with h | h | h | h | h | h <;> first | omega | exact ⟨h.2.1, h.2.2.1, h.2.2.2.1⟩
      exact qbin_txt op 0 0 0 0 ab bb w _ _ _ _ _ o1 o2 e17 e18 Ra Rb (NT 3 0 0 ab false rfl) (fun W h => qtxt_any op ab bb W (hT.later h) (hP.below h) la lb)
    · rw [if_neg (by omega), if_neg (by omega), if_neg (by omega), if_neg (by omega), if_neg (by omega)]
      exact qbin_o3 op bk an am bn bm ab bb w o1 o2 e17 e18 eb (by simpa using h3) Ra Rb (NT 3 an am ab false rfl)
  · by_cases h4 : bk = 4
    · subst h4
      rw [if_neg (by omega), if_neg (by omega), if_neg (by omega), if_neg (by omega), if_pos ⟨rfl, rfl⟩]
      exact qbin_bools op an am bn bm ab bb w _ _ _ _ _ _ o1 o2 e17 e18 Ra Rb (NT 4 an am ab false rfl) (qcmp_tells ⟨4, an, am, ab⟩ ⟨4, bn, bm, bb⟩ w hT hP ia ib) (qcompared_tells op _ w)
    · rw [if_neg (by omega), if_neg (by omega), if_neg (by omega), if_neg (by omega), if_neg (by omega)]
      exact qbin_o4 op bk an am bn bm ab bb w o1 o2 e17 e18 eb (by simpa using h4) Ra Rb (NT 4 an am ab false rfl)
  · by_cases h5 : bk = 5
    · subst h5
      rw [if_neg (by omega), if_neg (by omega), if_pos ⟨rfl, rfl⟩]
      have pa : Ga.ok2 an am = true := (Ga.ok2_iff an am).2 (by omega)
      have pb : Ga.ok2 bn bm = true := (Ga.ok2_iff bn bm).2 (by omega)
      exact qbin_pts op an am bn bm ab bb w _ _ _ _ _ o1 o2 e17 e18 Ra Rb (NT 5 an am ab false rfl) (fun W h => qpts_any op an am bn bm ab bb W (hT.later h) (hP.below h) pa pb)
    · rw [if_neg (by omega), if_neg (by omega), if_neg (by omega), if_neg (by omega), if_neg (by omega)]
      exact qbin_o5 op bk an am bn bm ab bb w o1 o2 e17 e18 eb (by simpa using h5) Ra Rb (NT 5 an am ab false rfl)
end Go.Proofs.YtgapmofhnjfdiaaGreatDoor

namespace Go.Proofs.YtgapmofhnjfdiaaGreatDoor
open Go.RowKit Go.Shelf
attribute [local go_sem] cell?_more frozen?_more setCell_more more_lt more_more more_drew more_drewN setCell_drewN alloc_drewN cell?_drawTo frozen?_drawTo heap_drawTo setCell_drawTo alloc_drawTo drewN_drawTo drew_drawTo drawTo_drewN drawTo_drew drawTo_drawTo more_drawTo

set_option maxHeartbeats 1000000 in
theorem isf_len1 (w : World) : Calls Tryz.prog 77 #[.string ⟨#[108, 101, 110, 103, 116, 104]⟩, .int .i64 1] w fun e w' => e = .returned (.bool true) ∧ Below w.heap.size w w' := by
  go_enter Tryz.func77, Tryz.ntmps77
  go_wp2
  all_goals go_ret
  all_goals exact ⟨rfl, Below.refl _ _⟩

set_option maxHeartbeats 1000000 in
theorem fun_length (ao : Option Addr) (cap : Nat) (rk rn rm re : Int) (rb : ByteArray) (w : World) (A : Tells 76 #[.slice ao 1 cap] w (.bool true)) (I : Tells 77 #[.string ⟨#[108, 101, 110, 103, 116, 104]⟩, .int .i64 1] w (.bool true))
    (C : Tells 79 #[.slice ao 1 cap, va 0 0 0 ⟨#[]⟩] w (.bool false)) (F : Tells 80 #[.string ⟨#[108, 101, 110, 103, 116, 104]⟩, .slice ao 1 cap] w (.tuple #[va rk rn rm rb, .int .i64 re])) :
    Calls Tryz.prog 22 #[.string ⟨#[108, 101, 110, 103, 116, 104]⟩, .slice ao 1 cap] w fun e w' => e = .returned (.tuple #[va rk rn rm rb, .int .i64 re]) ∧ Below w.heap.size w w' := by
  obtain ⟨w0, hw0, bxr, Bw⟩ := res_box w
  go_enter Tryz.func22, Tryz.ntmps22
  go_upto_region 1 with fail
  rw [← hw0]
  clear hw0
  have B0 : Below w0.heap.size w0 w0 := Below.refl _ _
  go_wp2_with fail
  refine (A _ (below_trans Bw B0)).mono ?_
  rintro e w1 ⟨rfl, c⟩
  have B1 := below_trans B0 c
  clear c
  go_wp2_with fail
  refine (I _ (below_trans Bw B1)).mono ?_
  rintro e w2 ⟨rfl, c⟩
  have B2 := below_trans B1 c
  clear c
  go_wp2_with fail
  refine (C _ (below_trans Bw B2)).mono ?_
  rintro e w3 ⟨rfl, c⟩
  have B3 := below_trans B2 c
  clear c
  go_wp2_with fail
  refine (F _ (below_trans Bw B3)).mono ?_
  rintro e w4 ⟨rfl, c⟩
  have B4 := below_trans B3 c
  clear c
  have br := bxr.later B4
  obtain ⟨r0, r1, r2, r3⟩ := br.at4
  dsimp only [nul] at r0 r1 r2 r3
  simp only [Nat.zero_add] at r1 r2 r3
  have f0 := br.free 0
  have f1 := br.free 1
  have f2 := br.free 2
  have f3 := br.free 3
  have lt1 := br.lt
  have Be := below_trans Bw B4
  go_wp2
  refine bodyPost_ret_by (v := .tuple #[va rk rn rm rb, .int .i64 re]) ?_ rfl ⟨rfl, ?_⟩
  · simp [results, Tryz.results22, go_sem, r0, r1, r2, r3]
  · exact (Be.setCell (p := ⟨w.heap.size, 0, none⟩) (Nat.le_refl _) (.int .i64 rk) |>.setCell (p := ⟨w.heap.size, 1, none⟩) (Nat.le_refl _) (.int .i64 rn) |>.setCell (p := ⟨w.heap.size, 2, none⟩) (Nat.le_refl _) (.int .i64 rm) |>.setCell (p := ⟨w.heap.size, 3, none⟩) (Nat.le_refl _) (.string rb))

theorem qnum7_any (n : Int) (w : World) : Calls Tryz.prog 19 #[.int .i64 n] w fun e w' => e = .returned (.int .i64 n) ∧ w = w' := by
  go_enter Tryz.func19, Tryz.ntmps19
  go_wp2
  go_ret
  exact ⟨rfl, rfl⟩

theorem qints7_any (n : Int) (w : World) : Calls Tryz.prog 75 #[.int .i64 n] w fun e w' => e = .returned (va 1 n 0 ⟨#[]⟩) ∧ Grew w w' := by
  go_enter Tryz.func75, Tryz.ntmps75
  go_wp2
  refine bodyPost_ret_by (v := va 1 n 0 ⟨#[]⟩) ?_ rfl ⟨rfl, ?_⟩
  · simp [results, Tryz.results75, go_sem]
  · repeat (first | exact Grew.refl _ | apply Grew.drew | apply Grew.drewN | apply Grew.alloc | apply Grew.more)

theorem vr_of {v : Va} (h : vok Lib.validD v) : vr v = true := (vr_iff v).2 h
theorem know1 : binR 7 (vI 1) (vD 30 1) = (vD 333333 6, 0) := by
  have h1 : vr (vI 1) = true := vr_of (by simp [vok, vI])
  have h2 : vr (vD 30 1) = true := vr_of (by simp [vok, vD])
  unfold binR
  rw [if_neg (by simp [h1, h2]), if_neg (by decide), if_neg (by simp [vI, vD]), if_neg (by simp [vI, vD]), if_pos (by simp [isn, vI, vD])]
  unfold numsR
  rw [if_neg (by decide), if_neg (by decide), if_neg (by decide), if_pos rfl, if_neg (by simp [vD])]
  rfl
theorem know2 : binR 17 nul (vB false) = (vB false, 0) := by
  have h1 : vr nul = true := vr_of (by simp [vok, nul])
  have h2 : vr (vB false) = true := vr_of (by simp [vok, vB])
  have t1 : tB nul = true := by
    show (vr nul && _) = true
    rw [h1]; rfl
  have t2 : tB (vB false) = true := by
    show (vr (vB false) && _) = true
    rw [h2]; rfl
  have n1 : tN nul = 2 := by
    unfold tN truN
    rw [if_neg (by simp [nul])]
  have n2 : tN (vB false) = 0 := by
    unfold tN truN
    rw [if_pos ⟨h2, rfl⟩]; rfl
  unfold binR
  rw [if_neg (by simp [h1, h2]), if_pos (.inl rfl)]
  unfold truR
  rw [t1, t2, n1, n2]
  rfl
theorem vr_abc : vr ⟨3, 0, 0, [97, 98, 99]⟩ = true := vr_of (by
  have : Lib.validD [97, 98, 99] = true := by kernel_rfl
  simp [vok, this])

set_option maxHeartbeats 4000000 in
theorem knows7_any (w : World) (hT : Tabs w) (hP : Pw w) : Calls Tryz.prog 20 #[] w fun e w' => e = .returned (.bool true) ∧ Below w.heap.size w w' := by
  have K1 : Tells 16 #[.int .i64 7, va 1 1 0 ⟨#[]⟩, va 2 30 1 ⟨#[]⟩] w (.tuple #[va 2 333333 6 ⟨#[]⟩, .int .i64 0]) := fun W h => by
    have := qbin_any 7 (vI 1) (vD 30 1) W (hT.later h) (hP.below h) ⟨⟨by decide, by decide⟩, ⟨by decide, by decide⟩⟩ ⟨⟨by decide, by decide⟩, ⟨by decide, by decide⟩⟩
    rw [know1] at this
    exact this
  have K2 : Tells 16 #[.int .i64 17, va 0 0 0 ⟨#[]⟩, va 4 0 0 ⟨#[]⟩] w (.tuple #[va 4 0 0 ⟨#[]⟩, .int .i64 0]) := fun W h => by
    have := qbin_any 17 nul (vB false) W (hT.later h) (hP.below h) ⟨⟨by decide, by decide⟩, ⟨by decide, by decide⟩⟩ ⟨⟨by decide, by decide⟩, ⟨by decide, by decide⟩⟩
    rw [know2] at this
    exact this
  have K3 : ∀ (bl cap : Nat) (W : World), Below w.heap.size w W → At4 W bl 0 ⟨3, 0, 0, [97, 98, 99]⟩ →
      Calls Tryz.prog 22 #[.string ⟨#[108, 101, 110, 103, 116, 104]⟩, .slice (some ⟨bl, 0, none⟩) 1 cap] W fun e w' => e = .returned (.tuple #[va 1 3 0 ⟨#[]⟩, .int .i64 0]) ∧ Below W.heap.size W w' := by
    intro bl cap W h h4
    have hv : Vs W (some ⟨bl, 0, none⟩) [⟨3, 0, 0, [97, 98, 99]⟩] := fun _ => ⟨bl, 0, rfl, fun i hi => by
      have : i = 0 := by simpa using hi
      subst this
      exact h4⟩
    refine fun_length _ _ _ _ _ _ _ W (fun W' h' => ?_) (fun W' _ => isf_len1 W') (fun W' h' => ?_) (fun W' h' => ?_)
    · have := qall_any (some ⟨bl, 0, none⟩) cap [⟨3, 0, 0, [97, 98, 99]⟩] W' ((hT.later h).later h') (hv.later h') (by decide)
      rwa [show ([⟨3, 0, 0, [97, 98, 99]⟩] : List Va).all vr = true by rw [List.all_cons, vr_abc]; rfl] at this
    · have := qcont_any (some ⟨bl, 0, none⟩) cap [⟨3, 0, 0, [97, 98, 99]⟩] W' (hv.later h') (by decide)
      rwa [show ([⟨3, 0, 0, [97, 98, 99]⟩] : List Va).any zq = false by rfl] at this
    · obtain ⟨c0, c1, c2, c3⟩ := h4.later h'
      exact called_length bl 0 cap 0 0 [97, 98, 99] W' (h4.later h').lt c0 c1 c2 c3
  have H1 := fun W => qints7_any 1 W
  have N := fun n W => qnum7_any n W
  clear hT hP
  have G : Below w.heap.size w w := Below.refl _ _
  go_enter Tryz.func20, Tryz.ntmps20
  go_upto_region 1 with fail
  go_cut [1, 2] from 7 (fun s0 s1 wx => ∃ p : Nat, s0 = .pointer (some ⟨p, 0, none⟩) ∧ s1 = .int .i64 0 ∧ At4 wx p 0 ⟨2, 333333, 6, []⟩ ∧ Below w.heap.size w wx)
  case first =>
    clear K2 K3 N
    go_wp2_with (first
      | (go_at_call 75; refine (H1 _).mono ?_; rintro e wc ⟨rfl, osc, nc, rfl⟩)
      | (go_at_call 16; refine (K1 _ (Grown.below (by repeat (first | assumption | exact Grown.refl _ | apply Grown.drew | apply Grown.drewN | apply Grown.alloc | apply Grown.more | apply Grown.drawTo)))).mono ?_; rintro e wc ⟨rfl, bc⟩; obtain ⟨osc, dc, rfl⟩ := wide bc; clear bc))
    all_goals go_meet
    all_goals exact ⟨_, rfl, rfl, ⟨by simp (maxDischargeDepth := 12) [go_sem], by simp (maxDischargeDepth := 12) [go_sem], by simp (maxDischargeDepth := 12) [go_sem], by simp (maxDischargeDepth := 12) [go_sem]⟩, Grown.below (by repeat (first | assumption | exact Grown.refl _ | apply Grown.drew | apply Grown.drewN | apply Grown.alloc | apply Grown.more | apply Grown.drawTo))⟩
  rename World => v1
  obtain ⟨p1, rfl, rfl, hp1, gv1⟩ := hcut
  replace K1 := K1.later gv1
  replace K2 := K2.later gv1
  replace G := below_trans G gv1
  clear gv1
  go_upto_region 2 with fail
  obtain ⟨k0a, k0b, k0c, k0d⟩ := id hp1
  have k0l := hp1.lt
  simp only [Nat.zero_add] at k0b k0c k0d
  go_cut [3, 4] from 7 (fun s0 s1 wx => ∃ p : Nat, s0 = .pointer (some ⟨p, 0, none⟩) ∧ s1 = .int .i64 0 ∧ At4 wx p 0 ⟨4, 0, 0, []⟩ ∧ Below v1.heap.size v1 wx)
  case first =>
    clear K1 K3 N
    go_wp2_with (first
      | (go_at_call 16; refine (K2 _ (Grown.below (by repeat (first | assumption | exact Grown.refl _ | apply Grown.drew | apply Grown.drewN | apply Grown.alloc | apply Grown.more | apply Grown.drawTo)))).mono ?_; rintro e wc ⟨rfl, bc⟩; obtain ⟨osc, dc, rfl⟩ := wide bc; clear bc))
    all_goals go_meet
    all_goals exact ⟨_, rfl, rfl, ⟨by simp (maxDischargeDepth := 12) [go_sem], by simp (maxDischargeDepth := 12) [go_sem], by simp (maxDischargeDepth := 12) [go_sem], by simp (maxDischargeDepth := 12) [go_sem]⟩, Grown.below (by repeat (first | assumption | exact Grown.refl _ | apply Grown.drew | apply Grown.drewN | apply Grown.alloc | apply Grown.more | apply Grown.drawTo))⟩
  rename World => v2
  obtain ⟨p2, rfl, rfl, hp2, gv2⟩ := hcut
  clear k0a k0b k0c k0d k0l
  replace hp1 := hp1.later gv2
  replace K1 := K1.later gv2
  replace K2 := K2.later gv2
  replace G := below_trans G gv2
  clear gv2
  go_upto_region 3 with fail
  obtain ⟨k0a, k0b, k0c, k0d⟩ := id hp1
  have k0l := hp1.lt
  simp only [Nat.zero_add] at k0b k0c k0d
  obtain ⟨k1a, k1b, k1c, k1d⟩ := id hp2
  have k1l := hp2.lt
  simp only [Nat.zero_add] at k1b k1c k1d
  go_cut [5, 6] from 7 (fun s0 s1 wx => ∃ p : Nat, s0 = .pointer (some ⟨p, 0, none⟩) ∧ s1 = .int .i64 0 ∧ At4 wx p 0 ⟨1, 3, 0, []⟩ ∧ Below v2.heap.size v2 wx)
  case first =>
    clear K1 K2 N
    go_wp2_with (first
      | (go_at_call 22; refine (K3 _ _ _ (below_trans G (Grown.below (by repeat (first | assumption | exact Grown.refl _ | apply Grown.drew | apply Grown.drewN | apply Grown.alloc | apply Grown.more | apply Grown.drawTo)))) ⟨by simp (maxDischargeDepth := 12) [go_sem], by simp (maxDischargeDepth := 12) [go_sem], by simp (maxDischargeDepth := 12) [go_sem], by simp (maxDischargeDepth := 12) [go_sem]⟩).mono ?_; rintro e wc ⟨rfl, bc⟩; obtain ⟨osc, dc, rfl⟩ := wide bc; clear bc))
    all_goals go_meet
    all_goals exact ⟨_, rfl, rfl, ⟨by simp (maxDischargeDepth := 12) [go_sem], by simp (maxDischargeDepth := 12) [go_sem], by simp (maxDischargeDepth := 12) [go_sem], by simp (maxDischargeDepth := 12) [go_sem]⟩, Grown.below (by repeat (first | assumption | exact Grown.refl _ | apply Grown.drew | apply Grown.drewN | apply Grown.alloc | apply Grown.more | apply Grown.drawTo))⟩
  rename World => v3
  obtain ⟨p3, rfl, rfl, hp3, gv3⟩ := hcut
  clear k0a k0b k0c k0d k0l k1a k1b k1c k1d k1l
  replace hp1 := hp1.later gv3
  replace hp2 := hp2.later gv3
  replace K1 := K1.later gv3
  replace K2 := K2.later gv3
  replace G := below_trans G gv3
  clear gv3
  obtain ⟨k0a, k0b, k0c, k0d⟩ := id hp1
  have k0l := hp1.lt
  simp only [Nat.zero_add] at k0b k0c k0d
  obtain ⟨k1a, k1b, k1c, k1d⟩ := id hp2
  have k1l := hp2.lt
  simp only [Nat.zero_add] at k1b k1c k1d
  obtain ⟨k2a, k2b, k2c, k2d⟩ := id hp3
  have k2l := hp3.lt
  simp only [Nat.zero_add] at k2b k2c k2d
  clear K1 K2 K3 H1
  go_wp2_with (go_at_call 19; refine (N _ _).mono ?_; rintro e wc ⟨rfl, rfl⟩)
  go_ret
  exact ⟨rfl, G⟩
end Go.Proofs.YtgapmofhnjfdiaaGreatDoor

namespace Go.Proofs.YtgapmofhnjfdiaaGreatDoor
open Go.RowKit Go.Shelf
attribute [local go_sem] cell?_more frozen?_more setCell_more more_lt more_more more_drew more_drewN setCell_drewN alloc_drewN cell?_drawTo frozen?_drawTo heap_drawTo setCell_drawTo alloc_drawTo drewN_drawTo drew_drawTo drawTo_drewN drawTo_drew drawTo_drawTo more_drawTo

/-- Two values boxed. -/
theorem both_box (w : World) (a b : Va) : ∃ w0, w0 = (w.alloc (.cells #[.int .i64 a.k, .int .i64 a.n, .int .i64 a.m, .string ⟨a.b.toArray⟩] 30)).alloc (.cells #[.int .i64 b.k, .int .i64 b.n, .int .i64 b.m, .string ⟨b.b.toArray⟩] 30) ∧ At4 w0 w.heap.size 0 a ∧ At4 w0 (w.heap.size + 1) 0 b ∧ Below w.heap.size w w0 := by
  obtain ⟨h1, h2, h3⟩ := two_boxes w a b
  exact ⟨_, rfl, h1.at4, h2.at4, h3⟩

end Go.Proofs.YtgapmofhnjfdiaaGreatDoor

namespace Go.Proofs.YtgapmofhnjfdiaaGreatDoor
open Go.RowKit Go.Shelf
attribute [local go_sem] cell?_more frozen?_more setCell_more more_lt more_more more_drew more_drewN setCell_drewN alloc_drewN cell?_drawTo frozen?_drawTo heap_drawTo setCell_drawTo alloc_drawTo drewN_drawTo drew_drawTo drawTo_drewN drawTo_drew drawTo_drawTo more_drawTo

/-- Six numbers lie. -/
def Lie (w : World) (p : Nat) (l : List Int) : Prop := ∀ i, i < l.length → w.cell? ⟨p, i, none⟩ = some (.int .i64 (l.getD i 0))
theorem Lie.later {w w' : World} {p : Nat} {l : List Int} (h : Lie w p l) (hl : p < w.heap.size) (hb : Below w.heap.size w w') : Lie w' p l := fun i hi => by
  rw [hb.cell (p := ⟨p, i, none⟩) hl]; exact h i hi
/-- An op and the one that is its opposite. -/
def Opp (B : Int → Va × Int) (w : World) (p q : Int) : Prop := (B p).2 = (B q).2 ∧ ((B p).2 = 0 → Tells 14 #[.int .i64 4, vv (B p).1] w (rs ((B q).1, 0)))
theorem Opp.later {B : Int → Va × Int} {w w' : World} {p q : Int} (h : Opp B w p q) (hb : Below w.heap.size w w') : Opp B w' p q := ⟨h.1, fun e => (h.2 e).later hb⟩
theorem rsame_self (k n m : Int) (b : ByteArray) (w : World) : Calls Tryz.prog 18 #[va k n m b, va k n m b] w fun e w' => e = .returned (.bool true) ∧ Grew w w' := by
  have := rsame_any k n m b k n m b w
  simpa using this
end Go.Proofs.YtgapmofhnjfdiaaGreatDoor
