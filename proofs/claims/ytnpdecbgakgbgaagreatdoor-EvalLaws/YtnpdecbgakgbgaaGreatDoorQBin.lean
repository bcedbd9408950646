/-
  eval.Binary, whole: what an op of two comes to.
-/
import Derived.Test.YtnpdecbgakgbgaaGreatDoorQBinA
import Derived.Test.YtnpdecbgakgbgaaGreatDoorQBinB
import Derived.Test.YtnpdecbgakgbgaaGreatDoorQBinC
import Derived.Test.YtnpdecbgakgbgaaGreatDoorMDDInt0
import Derived.Test.YtnpdecbgakgbgaaGreatDoorQInts
import Derived.Test.YtnpdecbgakgbgaaGreatDoorQNums
import Derived.Test.YtnpdecbgakgbgaaGreatDoorQPts
import Derived.Test.YtnpdecbgakgbgaaGreatDoorMQQTru
namespace Go.Proofs.YtnpdecbgakgbgaaGreatDoor
open Go.RowKit Go.Shelf

/-- The order of two values that may be. -/
theorem qcmp_tells (a b : Va) (w : World) (hT : Tabs w) (hP : Pw w) (va : vin a) (vb : vin b) : Tells 58 #[vv a, vv b] w (.int .i64 (pcmp a b)) :=
  fun W h => compare_any a b W (hT.later h) (hP.below h) va vb
theorem qcompared_tells (op c : Int) (w : World) : Tells 57 #[.int .i64 op, .int .i64 c] w (rs (cmpR op c)) :=
  fun W _ => (qcompared_any op c W).mono fun _ _ h => ⟨h.1, h.2.below⟩

theorem qpts_any (op n m n' m' : Int) (b b' : List UInt8) (w : World) (hT : Tabs w) (hP : Pw w) (ha : Ga.ok2 n m = true) (hb : Ga.ok2 n' m' = true) :
    Calls Tryz.prog 55 #[.int .i64 op, vv ⟨5, n, m, b⟩, vv ⟨5, n', m', b'⟩] w fun e w' => e = .returned (rs (ptsR op ⟨5, n, m, b⟩ ⟨5, n', m', b'⟩)) ∧ Below w.heap.size w w' := by
  have ia := (Ga.ok2_iff n m).1 ha
  have ib := (Ga.ok2_iff n' m').1 hb
  have D := qcmp_tells ⟨5, n, m, b⟩ ⟨5, n', m', b'⟩ w hT hP ⟨⟨by simp only; omega, by simp only; omega⟩, ⟨by simp only; omega, by simp only; omega⟩⟩ ⟨⟨by simp only; omega, by simp only; omega⟩, ⟨by simp only; omega, by simp only; omega⟩⟩
  by_cases hz : n' = 0 ∧ m' = 0
  · obtain ⟨rfl, rfl⟩ := hz
    refine qpts_walk op n m 0 0 _ _ _ _ _ _ _ _ _ _ _ _ _ _ _ b b' w (fun W => Ga.add_good n m 0 0 W ha hb) (fun W => Ga.sub_good n m 0 0 W ha hb) (fun W => Ga.mul_good n m 0 0 W ha hb) (fun W => Ga.div_zero n m W ha) D _ ?_
    show ptsR op _ _ = _
    unfold ptsR ptR
    simp only [and_self, if_true]
    rfl
  · have hn := Ga.norm_pos hz
    refine qpts_walk op n m n' m' _ _ _ _ _ _ _ _ _ _ _ _ _ _ _ b b' w (fun W => Ga.add_good n m n' m' W ha hb) (fun W => Ga.sub_good n m n' m' W ha hb) (fun W => Ga.mul_good n m n' m' W ha hb) (fun W => Ga.div_good n m n' m' W ha hb hn) D _ ?_
    show ptsR op _ _ = _
    unfold ptsR ptR
    rw [if_neg hz, if_neg hz]
    rfl

theorem qtxt_any (op : Int) (b b' : List UInt8) (w : World) (hT : Tabs w) (hP : Pw w) (h1 : b.length ≤ 256) (h2 : b'.length ≤ 256) :
    Calls Tryz.prog 56 #[.int .i64 op, vv ⟨3, 0, 0, b⟩, vv ⟨3, 0, 0, b'⟩] w fun e w' => e = .returned (rs (txtR op ⟨3, 0, 0, b⟩ ⟨3, 0, 0, b'⟩)) ∧ Below w.heap.size w w' := by
  unfold txtR
  by_cases h : op = 9
  · subst h
    rw [if_pos rfl]
    by_cases ho : 256 < b.length + b'.length
    · rw [if_pos ho]
      exact qtxt_over 0 0 0 0 b b' w h1 h2 ho
    · rw [if_neg ho]
      exact qtxt_join 0 0 0 0 b b' w ho
  · rw [if_neg h]
    exact qtxt_cmp op _ 0 0 0 0 b b' w (by simpa using h) (qcmp_tells ⟨3, 0, 0, b⟩ ⟨3, 0, 0, b'⟩ w hT hP ⟨⟨(by show (-9223372036854775808 : Int) ≤ 0; decide), (by show (0 : Int) ≤ 9223372036854775807; decide)⟩, ⟨(by show (-9223372036854775808 : Int) ≤ 0; decide), (by show (0 : Int) ≤ 9223372036854775807; decide)⟩⟩ ⟨⟨(by show (-9223372036854775808 : Int) ≤ 0; decide), (by show (0 : Int) ≤ 9223372036854775807; decide)⟩, ⟨(by show (-9223372036854775808 : Int) ≤ 0; decide), (by show (0 : Int) ≤ 9223372036854775807; decide)⟩⟩)

theorem qnum_tells (a : Va) (b : Bool) (h : (a.k == 1 || a.k == 2) = b) (w : World) : Tells 52 #[vv a] w (.bool b) := by
  subst h
  exact fun W _ => (qnumber_any a.k a.n a.m ⟨a.b.toArray⟩ W).mono fun _ _ h => ⟨h.1, h.2.below⟩

set_option maxHeartbeats 1000000 in
theorem qbin_any (op : Int) (a b : Va) (w : World) (hT : Tabs w) (hP : Pw w) (ia : vin a) (ib : vin b) :
    Calls Tryz.prog 17 #[.int .i64 op, vv a, vv b] w fun e w' => e = .returned (rs (binR op a b)) ∧ Below w.heap.size w w' := by
  have Ra : Tells 35 #[vv a] w (.bool (vr a)) := fun W h => vright_any a.k a.n a.m ⟨a.b.toArray⟩ W (hT.later h)
  have Rb : Tells 35 #[vv b] w (.bool (vr b)) := fun W h => vright_any b.k b.n b.m ⟨b.b.toArray⟩ W (hT.later h)
  unfold binR
  by_cases o1 : op < 6
  · rw [if_pos (by omega)]
    exact qbin_low op a.k b.k a.n a.m b.n b.m a.b b.b w o1
  by_cases o2 : op > 18
  · rw [if_pos (by omega)]
    exact qbin_high op a.k b.k a.n a.m b.n b.m a.b b.b w o1 o2
  cases ha : vr a
  · rw [ha] at Ra
    rw [if_pos (by simp)]
    exact qbin_badA op a.k b.k a.n a.m b.n b.m a.b b.b w o1 o2 Ra
  rw [ha] at Ra
  cases hb : vr b
  · rw [hb] at Rb
    rw [if_pos (by simp)]
    exact qbin_badB op a.k b.k a.n a.m b.n b.m a.b b.b w o1 o2 Ra Rb
  rw [hb] at Rb
  rw [if_neg (by simp; omega)]
  by_cases h17 : op = 17
  · subst h17
    rw [if_pos (.inl rfl)]
    exact qbin_t17 a.k b.k a.n a.m b.n b.m a.b b.b w _ _ _ _ _ Ra Rb (fun W _ => (qtru_any 17 a b W).mono fun _ _ h => ⟨h.1, h.2.below⟩)
  by_cases h18 : op = 18
  · subst h18
    rw [if_pos (.inr rfl)]
    exact qbin_t18 a.k b.k a.n a.m b.n b.m a.b b.b w _ _ _ _ _ Ra Rb (fun W _ => (qtru_any 18 a b W).mono fun _ _ h => ⟨h.1, h.2.below⟩)
  rw [if_neg (by omega)]
  have e17 : (op != 17) = true := by simpa using h17
  have e18 : (op != 18) = true := by simpa using h18
  have va' := (vr_iff a).1 ha
  have vb' := (vr_iff b).1 hb
  obtain ⟨ak, an, am, ab⟩ := a
  obtain ⟨bk, bn, bm, bb⟩ := b
  simp only [vok] at va' vb'
  obtain ⟨⟨ia0, ia1⟩, -⟩ := id ia
  obtain ⟨⟨ib0, ib1⟩, -⟩ := id ib
  simp only at ia0 ia1 ib0 ib1
  simp only [isn]
  by_cases a0 : ak = 0
  · subst a0
    rw [if_pos (.inl rfl)]
    exact qbin_nullA op bk an am bn bm ab bb w o1 o2 e17 e18 Ra Rb
  have ea : (ak != 0) = true := by simpa using a0
  by_cases b0 : bk = 0
  · subst b0
    rw [if_pos (.inr rfl)]
    exact qbin_nullB op ak an am bn bm ab bb w o1 o2 e17 e18 ea Ra Rb
  have eb : (bk != 0) = true := by simpa using b0
  rw [if_neg (by omega)]
  have NT := fun (k n m : Int) (l : List UInt8) (v : Bool) (h : (k == 1 || k == 2) = v) => qnum_tells ⟨k, n, m, l⟩ v h w
  rcases (by omega : ak = 1 ∨ ak = 2 ∨ ak = 3 ∨ ak = 4 ∨ ak = 5) with rfl | rfl | rfl | rfl | rfl
  · by_cases h1 : bk = 1
    · subst h1
      rw [if_pos ⟨rfl, rfl⟩]
      exact qbin_ints op an am bn bm ab bb w _ _ _ _ _ o1 o2 e17 e18 Ra Rb (fun W h => (qints_any op an bn W (hP.below h) ia0 ia1 ib0 ib1).mono fun _ _ h => ⟨h.1, h.2.below⟩)
    by_cases h2 : bk = 2
    · subst h2
      rw [if_neg (by omega), if_pos (by omega)]
      exact qbin_n12 op an am bn bm ab bb w _ _ _ _ _ o1 o2 e17 e18 Ra Rb (NT 1 an am ab true rfl) (NT 2 bn bm bb true rfl) (fun W h => qnums_any op ⟨1, an, am, ab⟩ ⟨2, bn, bm, bb⟩ W (hP.below h) (by simp only; omega) (by simp only; omega) ia ib)
    · rw [if_neg (by omega), if_neg (by omega), if_neg (by omega), if_neg (by omega), if_neg (by omega)]
      exact qbin_o1 op bk an am bn bm ab bb w o1 o2 e17 e18 eb (by simpa using h1) Ra Rb (NT 1 an am ab true rfl) (NT bk bn bm bb false (by simp [h1, h2]))
  · by_cases h1 : bk = 1
    · subst h1
      rw [if_neg (by omega), if_pos (by omega)]
      exact qbin_n21 op an am bn bm ab bb w _ _ _ _ _ o1 o2 e17 e18 Ra Rb (NT 2 an am ab true rfl) (NT 1 bn bm bb true rfl) (fun W h => qnums_any op ⟨2, an, am, ab⟩ ⟨1, bn, bm, bb⟩ W (hP.below h) (by simp only; omega) (by simp only; omega) ia ib)
    by_cases h2 : bk = 2
    · subst h2
      rw [if_neg (by omega), if_pos (by omega)]
      exact qbin_n22 op an am bn bm ab bb w _ _ _ _ _ o1 o2 e17 e18 Ra Rb (NT 2 an am ab true rfl) (NT 2 bn bm bb true rfl) (fun W h => qnums_any op ⟨2, an, am, ab⟩ ⟨2, bn, bm, bb⟩ W (hP.below h) (by simp only; omega) (by simp only; omega) ia ib)
    · rw [if_neg (by omega), if_neg (by omega), if_neg (by omega), if_neg (by omega), if_neg (by omega)]
      exact qbin_o2 op bk an am bn bm ab bb w o1 o2 e17 e18 eb Ra Rb (NT 2 an am ab true rfl) (NT bk bn bm bb false (by simp [h1, h2]))
  · by_cases h3 : bk = 3
    · subst h3
      rw [if_neg (by omega), if_neg (by omega), if_neg (by omega), if_pos ⟨rfl, rfl⟩]
      obtain ⟨rfl, rfl, la⟩ : an = 0 ∧ am = 0 ∧ ab.length ≤ 256 := by rcases va' with h | h | h | h | h | h <;> first | omega | exact ⟨h.2.1, h.2.2.1, h.2.2.2.1⟩
      obtain ⟨rfl, rfl, lb⟩ : bn = 0 ∧ bm = 0 ∧ bb.length ≤ 256 := by rcases vb' with h | h | h | h | h | h <;> first | omega | exact ⟨h.2.1, h.2.2.1, h.2.2.2.1⟩
      exact qbin_txt op 0 0 0 0 ab bb w _ _ _ _ _ o1 o2 e17 e18 Ra Rb (NT 3 0 0 ab false rfl) (fun W h => qtxt_any op ab bb W (hT.later h) (hP.below h) la lb)
    · rw [if_neg (by omega), if_neg (by omega), if_neg (by omega), if_neg (by omega), if_neg (by omega)]
      exact qbin_o3 op bk an am bn bm ab bb w o1 o2 e17 e18 eb (by simpa using h3) Ra Rb (NT 3 an am ab false rfl)
  · by_cases h4 : bk = 4
    · subst h4
      rw [if_neg (by omega), if_neg (by omega), if_neg (by omega), if_neg (by omega), if_pos ⟨rfl, rfl⟩]
      exact qbin_bools op an am bn bm ab bb w _ _ _ _ _ _ o1 o2 e17 e18 Ra Rb (NT 4 an am ab false rfl) (qcmp_tells ⟨4, an, am, ab⟩ ⟨4, bn, bm, bb⟩ w hT hP ia ib) (qcompared_tells op _ w)
    · rw [if_neg (by omega), if_neg (by omega), if_neg (by omega), if_neg (by omega), if_neg (by omega)]
      exact qbin_o4 op bk an am bn bm ab bb w o1 o2 e17 e18 eb (by simpa using h4) Ra Rb (NT 4 an am ab false rfl)
  · by_cases h5 : bk = 5
    · subst h5
      rw [if_neg (by omega), if_neg (by omega), if_pos ⟨rfl, rfl⟩]
      have pa : Ga.ok2 an am = true := (Ga.ok2_iff an am).2 (by omega)
      have pb : Ga.ok2 bn bm = true := (Ga.ok2_iff bn bm).2 (by omega)
      exact qbin_pts op an am bn bm ab bb w _ _ _ _ _ o1 o2 e17 e18 Ra Rb (NT 5 an am ab false rfl) (fun W h => qpts_any op an am bn bm ab bb W (hT.later h) (hP.below h) pa pb)
    · rw [if_neg (by omega), if_neg (by omega), if_neg (by omega), if_neg (by omega), if_neg (by omega)]
      exact qbin_o5 op bk an am bn bm ab bb w o1 o2 e17 e18 eb (by simpa using h5) Ra Rb (NT 5 an am ab false rfl)
end Go.Proofs.YtnpdecbgakgbgaaGreatDoor
