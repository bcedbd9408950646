/-
  The contract of datum.Parse at the texts of literals.
-/
import Derived.Test.YtoadhfcjegfanaaGreatDoorLNum
namespace Go.Proofs.YtoadhfcjegfanaaGreatDoor
open Go.RowKit Go.Shelf
attribute [local go_sem] cell?_more frozen?_more setCell_more more_lt more_more more_drew more_drewN setCell_drewN alloc_drewN

/-- The value of a literal's text; none: it is none. -/
def dpv (t : List UInt8) : Option Va := if (tlv t).2 = true ∧ pv (tlv t).1 = t then some (tlv t).1 else none
/-- What Parse answers. -/
def dpR : Option Va → Value
  | none => .tuple #[va 0 0 0 ⟨#[]⟩, .int .i64 21]
  | some v => .tuple #[vv v, .int .i64 0]

theorem tlv_kind (t : List UInt8) : ((tlv t).1.k = 1 ∨ (tlv t).1.k = 2 ∨ (tlv t).1.k = 3) ∧ (-9223372036854775808 ≤ (tlv t).1.n ∧ (tlv t).1.n ≤ 9223372036854775807) := by
  unfold tlv
  split
  · split <;> exact ⟨by simp, by simp⟩
  · unfold tnv
    split
    · refine ⟨?_, by simp⟩
      simp only
      split <;> simp
    · rename_i b n s _
      refine ⟨?_, ?_⟩
      · simp only
        split <;> simp
      · simp only
        unfold nz
        split
        · rename_i h
          have := (fits_iff _).1 h
          exact this
        · simp

theorem ba_beq (a b : List UInt8) : ((ByteArray.mk a.toArray).toList == (ByteArray.mk b.toArray).toList) = decide (a = b) := by
  rw [ByteArray.toList_eq, ByteArray.toList_eq]
  show (a == b) = _
  by_cases h : a = b
  · subst h; simp
  · rw [decide_eq_false h, beq_eq_false_iff_ne]; exact h

set_option maxHeartbeats 2000000 in
theorem vparse_any (t : List UInt8) (w : World) (hl : t.length ≤ 140737488351232) (hh : litH t) (hT : Tabs w) (hP : Ptab w) : Calls Tryz.prog 57 #[.string ⟨t.toArray⟩] w fun e w' => e = .returned (dpR (dpv t)) ∧ Below w.heap.size w w' := by
  have T := fun W => vtold_any t W hl hh
  obtain ⟨hk, hn⟩ := tlv_kind t
  have P : ∀ W, Below w.heap.size w W → Calls Tryz.prog 62 #[vv (tlv t).1] W fun e w' => e = .returned (.string ⟨(pv (tlv t).1).toArray⟩) ∧ Below W.heap.size W w' := fun W h => vprint_any _ W (hT.later h) (hP.later h) hk hn
  unfold dpv
  have heq := ba_beq (pv (tlv t).1) t
  clear hT hP hk hn hh hl
  generalize pv (tlv t).1 = q at *
  rcases hx : tlv t with ⟨⟨k, n, m, b⟩, ok⟩
  rw [hx] at T P
  have T' : ∀ W, Calls Tryz.prog 78 #[.string ⟨t.toArray⟩] W fun e w' => e = .returned (.tuple #[va k n m ⟨b.toArray⟩, .bool ok]) ∧ Below W.heap.size W w' := T
  have P' : ∀ W, Below w.heap.size w W → Calls Tryz.prog 62 #[va k n m ⟨b.toArray⟩] W fun e w' => e = .returned (.string ⟨q.toArray⟩) ∧ Below W.heap.size W w' := P
  clear T P hx
  simp only
  cases ok with
  | false =>
    rw [if_neg (by simp)]
    show Calls _ _ _ _ fun e w' => e = .returned (.tuple #[va 0 0 0 ⟨#[]⟩, .int .i64 21]) ∧ _
    clear P' heq
    generalize ByteArray.mk t.toArray = B at *
    go_enter Tryz.func57, Tryz.ntmps57
    go_wp2_with fail
    refine (T' _).mono ?_
    rintro e w1 ⟨rfl, b1⟩
    have bx : Box w1 w.heap.size ⟨0, 0, 0, []⟩ := (Box.new w 0 0 0 []).later b1
    have B1 : Below w.heap.size w w1 := ((Below.refl _ w).alloc (Nat.le_refl _) _).trans (b1.mono (by simp))
    have s1 := B1.size
    obtain ⟨c0, c1, c2, c3⟩ := bx.at4
    have f0 := bx.free 0
    have f1 := bx.free 1
    have f2 := bx.free 2
    have f3 := bx.free 3
    have lt1 := bx.lt
    clear b1 bx
    go_wp2
    refine bodyPost_ret_by (v := .tuple #[va 0 0 0 ⟨#[]⟩, .int .i64 21]) ?_ rfl ⟨rfl, ?_⟩
    · simp [results, Tryz.results57, go_sem, c0, c1, c2, c3, lt1]
    · refine Below.alloc ?_ (by simp; omega) _
      have B2 := B1
      exact (((B2.setCell (p := ⟨w.heap.size, 0, none⟩) (Nat.le_refl _) _).setCell (p := ⟨w.heap.size, 1, none⟩) (Nat.le_refl _) _).setCell (p := ⟨w.heap.size, 2, none⟩) (Nat.le_refl _) _).setCell (p := ⟨w.heap.size, 3, none⟩) (Nat.le_refl _) _
  | true =>
    by_cases hqt : q = t
    · rw [if_pos ⟨rfl, hqt⟩]
      rw [decide_eq_true hqt] at heq
      show Calls _ _ _ _ fun e w' => e = .returned (.tuple #[va k n m ⟨b.toArray⟩, .int .i64 0]) ∧ _
      clear hqt
      generalize ByteArray.mk t.toArray = B at *
      generalize ByteArray.mk q.toArray = D at *
      go_enter Tryz.func57, Tryz.ntmps57
      go_wp2_with fail
      refine (T' _).mono ?_
      rintro e w1 ⟨rfl, b1⟩
      have bx0 : Box w1 w.heap.size ⟨0, 0, 0, []⟩ := (Box.new w 0 0 0 []).later b1
      have B1 : Below w.heap.size w w1 := ((Below.refl _ w).alloc (Nat.le_refl _) _).trans (b1.mono (by simp))
      have s1 := B1.size
      clear b1
      go_wp2_with fail
      refine (P' _ (B1.alloc s1 _)).mono ?_
      rintro e w2 ⟨rfl, b2⟩
      have bx1 : Box w2 w1.heap.size ⟨k, n, m, b⟩ := (Box.new w1 k n m b).later b2
      have b12 : Below w1.heap.size w1 w2 := ((Below.refl _ w1).alloc (Nat.le_refl _) _).trans (b2.mono (by simp))
      have bx2 := bx0.later b12
      have B2 : Below w.heap.size w w2 := B1.trans (b12.mono s1)
      obtain ⟨c0, c1, c2, c3⟩ := bx1.at4
      obtain ⟨d0, d1, d2, d3⟩ := bx2.at4
      have f0 := bx2.free 0
      have f1 := bx2.free 1
      have f2 := bx2.free 2
      have f3 := bx2.free 3
      have lt1 := bx2.lt
      have lt2 := bx1.lt
      clear bx0 bx1 bx2 B1 b12 b2 P' T'
      go_wp2
      refine bodyPost_ret_by (v := .tuple #[va k n m ⟨b.toArray⟩, .int .i64 0]) ?_ rfl ⟨rfl, ?_⟩
      · simp [results, Tryz.results57, go_sem, d0, d1, d2, d3]
      · exact (((B2.setCell (p := ⟨w.heap.size, 0, none⟩) (Nat.le_refl _) _).setCell (p := ⟨w.heap.size, 1, none⟩) (Nat.le_refl _) _).setCell (p := ⟨w.heap.size, 2, none⟩) (Nat.le_refl _) _).setCell (p := ⟨w.heap.size, 3, none⟩) (Nat.le_refl _) _
    · rw [if_neg (by rintro ⟨_, h⟩; exact hqt h)]
      rw [decide_eq_false hqt] at heq
      show Calls _ _ _ _ fun e w' => e = .returned (.tuple #[va 0 0 0 ⟨#[]⟩, .int .i64 21]) ∧ _
      clear hqt
      generalize ByteArray.mk t.toArray = B at *
      generalize ByteArray.mk q.toArray = D at *
      go_enter Tryz.func57, Tryz.ntmps57
      go_wp2_with fail
      refine (T' _).mono ?_
      rintro e w1 ⟨rfl, b1⟩
      have bx0 : Box w1 w.heap.size ⟨0, 0, 0, []⟩ := (Box.new w 0 0 0 []).later b1
      have B1 : Below w.heap.size w w1 := ((Below.refl _ w).alloc (Nat.le_refl _) _).trans (b1.mono (by simp))
      have s1 := B1.size
      clear b1
      go_wp2_with fail
      refine (P' _ (B1.alloc s1 _)).mono ?_
      rintro e w2 ⟨rfl, b2⟩
      have bx1 : Box w2 w1.heap.size ⟨k, n, m, b⟩ := (Box.new w1 k n m b).later b2
      have b12 : Below w1.heap.size w1 w2 := ((Below.refl _ w1).alloc (Nat.le_refl _) _).trans (b2.mono (by simp))
      have bx2 := bx0.later b12
      have B2 : Below w.heap.size w w2 := B1.trans (b12.mono s1)
      obtain ⟨d0, d1, d2, d3⟩ := bx2.at4
      have f0 := bx2.free 0
      have f1 := bx2.free 1
      have f2 := bx2.free 2
      have f3 := bx2.free 3
      have lt1 := bx2.lt
      clear bx0 bx1 bx2 B1 b12 b2 P' T'
      go_wp2
      refine bodyPost_ret_by (v := .tuple #[va 0 0 0 ⟨#[]⟩, .int .i64 21]) ?_ rfl ⟨rfl, ?_⟩
      · simp [results, Tryz.results57, go_sem, d0, d1, d2, d3]
      · exact (((B2.setCell (p := ⟨w.heap.size, 0, none⟩) (Nat.le_refl _) _).setCell (p := ⟨w.heap.size, 1, none⟩) (Nat.le_refl _) _).setCell (p := ⟨w.heap.size, 2, none⟩) (Nat.le_refl _) _).setCell (p := ⟨w.heap.size, 3, none⟩) (Nat.le_refl _) _
end Go.Proofs.YtoadhfcjegfanaaGreatDoor
