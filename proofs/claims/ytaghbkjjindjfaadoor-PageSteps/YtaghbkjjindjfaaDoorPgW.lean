/-
  The contract of page.write: the page in whose slots contents are.
-/
import Derived.Test.YtaghbkjjindjfaaDoorPgR
import Derived.Laws.MakeOwn
namespace Go.Proofs.YtaghbkjjindjfaaDoor
open Go.RowKit

/-! ### the bytes behind k rounds -/
def stW (l : List Slt) (k : Nat) : List UInt8 :=
  two l.length ++ (heads 504 (l.take k) ++ (List.replicate (502 - (4 * k + used (l.take k))) 0 ++ (recs (l.take k) ++ List.replicate 8 0)))
theorem splice_mid (X Y Z c : List UInt8) (o : Nat) (ho : X.length = o) (h : Y.length = c.length) : splice (X ++ (Y ++ Z)) o c = X ++ (c ++ Z) := by
  subst ho
  unfold splice
  rw [← h]
  simp
theorem rep_split (m n : Nat) (h : n ≤ m) : List.replicate m (0 : UInt8) = List.replicate n 0 ++ List.replicate (m - n) 0 := by
  rw [List.replicate_append_replicate]; congr 1; omega
theorem rep_split' (m n : Nat) (h : n ≤ m) : List.replicate m (0 : UInt8) = List.replicate (m - n) 0 ++ List.replicate n 0 := by
  rw [List.replicate_append_replicate]; congr 1; omega
theorem used_take (l : List Slt) (k : Nat) (h : k < l.length) : used (l.take (k + 1)) = used (l.take k) + (sb l[k]).length := by
  rw [List.take_succ_eq_append_getElem h, used_append]; simp [used]
theorem used_le (l : List Slt) (k : Nat) (h : k < l.length) : used (l.take k) + (sb l[k]).length + 4 * k + 4 ≤ used l + 4 * l.length := by
  have e := used_take l k h
  have e2 := used_append (l.take (k + 1)) (l.drop (k + 1))
  rw [List.take_append_drop] at e2
  omega
theorem stW_zero (l : List Slt) : stW l 0 = splice (List.replicate 512 0) 0 (two l.length) := by
  unfold stW
  rw [rep_split 512 2 (by omega)]
  have := splice_mid [] (List.replicate 2 0) (List.replicate 510 0) (two l.length) 0 rfl rfl
  simp only [List.nil_append] at this
  rw [show 512 - 2 = 510 from rfl, this, rep_split 510 502 (by omega)]
  simp only [List.take_zero, heads, used, recs, List.nil_append, Nat.mul_zero, Nat.add_zero, Nat.sub_zero]
theorem stW_none (l : List Slt) (k : Nat) (h : k < l.length) (hf : fits l) (hs : l[k] = none) : stW l (k + 1) = stW l k := by
  have hu := used_le l k h
  unfold fits at hf
  rw [hs] at hu
  simp only [sb, Option.getD_none, List.length_nil] at hu
  unfold stW
  have e1 : used (l.take (k + 1)) = used (l.take k) := by rw [used_take l k h, hs]; simp [sb]
  rw [e1, List.take_succ_eq_append_getElem h, hs, heads_append, recs_append]
  rw [rep_split (502 - (4 * k + used (l.take k))) 4 (by omega)]
  simp only [heads, fldB, recs, sb, Option.getD_none, List.append_nil, List.nil_append, List.append_assoc]
  rw [show 502 - (4 * (k + 1) + used (l.take k)) = 502 - (4 * k + used (l.take k)) - 4 from by omega]
  rfl
theorem stW_some (l : List Slt) (k : Nat) (h : k < l.length) (hf : fits l) (b : List UInt8) (hs : l[k] = some b) (e : Nat) (he : e + b.length + used (l.take k) = 504) :
    splice (splice (splice (stW l k) e b) (2 + 4 * k) (two e)) (2 + 4 * k + 2) (two b.length) = stW l (k + 1) := by
  have hu := used_le l k h
  unfold fits at hf
  rw [hs] at hu
  simp only [sb, Option.getD_some] at hu
  have hk : (heads 504 (l.take k)).length = 4 * k := by rw [heads_len, List.length_take]; omega
  have e1 : used (l.take (k + 1)) = used (l.take k) + b.length := by rw [used_take l k h, hs]; simp [sb]
  have s1 : splice (stW l k) e b = two l.length ++ (heads 504 (l.take k) ++ (List.replicate (502 - (4 * k + used (l.take k)) - b.length) 0 ++ (b ++ (recs (l.take k) ++ List.replicate 8 0)))) := by
    unfold stW
    rw [rep_split' (502 - (4 * k + used (l.take k))) b.length (by omega)]
    have := splice_mid (two l.length ++ (heads 504 (l.take k) ++ List.replicate (502 - (4 * k + used (l.take k)) - b.length) 0)) (List.replicate b.length 0) (recs (l.take k) ++ List.replicate 8 0) b e (by simp [two_len, hk]; omega) (by simp)
    simp only [List.append_assoc] at this ⊢
    exact this
  rw [s1, rep_split (502 - (4 * k + used (l.take k)) - b.length) 4 (by omega)]
  have s2 := splice_mid (two l.length ++ heads 504 (l.take k)) (List.replicate 2 0) (List.replicate 2 0 ++ (List.replicate (502 - (4 * k + used (l.take k)) - b.length - 4) 0 ++ (b ++ (recs (l.take k) ++ List.replicate 8 0)))) (two e) (2 + 4 * k) (by simp [two_len, hk]) (by simp [two_len])
  have e4 : List.replicate 4 (0 : UInt8) = List.replicate 2 0 ++ List.replicate 2 0 := rfl
  rw [e4]
  simp only [List.append_assoc] at s2 ⊢
  rw [s2]
  have s3 := splice_mid (two l.length ++ (heads 504 (l.take k) ++ two e)) (List.replicate 2 0) (List.replicate (502 - (4 * k + used (l.take k)) - b.length - 4) 0 ++ (b ++ (recs (l.take k) ++ List.replicate 8 0))) (two b.length) (2 + 4 * k + 2) (by simp [two_len, hk]; omega) (by simp [two_len])
  simp only [List.append_assoc] at s3
  rw [s3]
  unfold stW
  rw [e1, List.take_succ_eq_append_getElem h, hs, heads_append, recs_append]
  simp only [heads, fldB, recs, sb, Option.getD_some, List.append_nil, List.nil_append, List.append_assoc]
  rw [show 502 - (4 * (k + 1) + (used (l.take k) + b.length)) = 502 - (4 * k + used (l.take k)) - b.length - 4 from by omega, show 504 - used (l.take k) - b.length = e from by omega]
theorem stW_all (l : List Slt) : stW l l.length = bodyL l ++ List.replicate 8 0 := by
  unfold stW bodyL
  simp
theorem stW_len (l : List Slt) (k : Nat) (hk : k ≤ l.length) (hf : fits l) : (stW l k).length = 512 := by
  have h2 := fits_take l k hf
  unfold fits at h2
  rw [List.length_take] at h2
  unfold stW
  simp [two_len, heads_len, recs_len]
  omega
theorem stW_sum (l : List Slt) (hf : fits l) (s : BitVec 64) : splice (bodyL l ++ List.replicate 8 0) 504 (eight s) = bodyL l ++ eight s := by
  have := splice_mid (bodyL l) (List.replicate 8 0) [] (eight s) 504 (bodyL_len l hf) (by simp [eight_length])
  simpa using this

theorem uint8_size : (Tryd.prog.info? 5).map (·.size) = some 1 := by kernel_rfl
theorem cut_at (b off n cap fr sz : Nat) (f s : Int) (w : World) (hn : n ≤ cap) (hc : cap ≤ 1000) (hf : fr + sz ≤ cap) (ef : f = (fr : Int)) (es : s = (sz : Int)) :
    Calls Tryd.prog 39 #[.slice (some ⟨b, off, none⟩) n cap, .int .i64 f, .int .i64 s] w fun e w' => (∃ o, (0 < sz → o = off + fr) ∧ e = .returned (.slice (some ⟨b, o, none⟩) sz sz)) ∧ w = w' := by
  subst ef; subst es
  refine (cut_any b off n cap fr sz w hn (by unfold maxLen; omega) hf).mono ?_
  rintro e w' ⟨rfl, rfl⟩
  exact ⟨⟨_, fun h => by rw [if_neg (by omega)], rfl⟩, rfl⟩
/-- A cut that has bytes. -/
theorem cut_pos (b off n cap fr sz o : Nat) (f s : Int) (w : World) (hn : n ≤ cap) (hc : cap ≤ 1000) (hf : fr + sz ≤ cap) (hp : 0 < sz) (ef : f = (fr : Int)) (es : s = (sz : Int)) (eo : off + fr = o) :
    Calls Tryd.prog 39 #[.slice (some ⟨b, off, none⟩) n cap, .int .i64 f, .int .i64 s] w fun e w' => e = .returned (.slice (some ⟨b, o, none⟩) sz sz) ∧ w = w' := by
  subst eo
  refine (cut_at b off n cap fr sz f s w hn hc hf ef es).mono ?_
  rintro e w' ⟨⟨o, ho, rfl⟩, rfl⟩
  rw [ho hp]
  exact ⟨rfl, rfl⟩
theorem put_at (g o m : Nat) (n : Int) (xs : List UInt8) (w : World) (h : Pb w g xs) (ho : o + 2 ≤ xs.length) (hm : m < 65536) (en : n = (m : Int)) :
    Calls Tryd.prog 41 #[.slice (some ⟨g, o, none⟩) 2 2, .int .i64 n] w fun e w' => (∃ v, e = .returned v) ∧ Pb w' g (splice xs o (two m)) ∧ w.grownBy w' (some g) := by
  subst en
  exact putNumber_any g o m xs w h ho hm
end Go.Proofs.YtaghbkjjindjfaaDoor
