/-
  What datum.Parse tells of the tokens of an expression's text.
-/
import Derived.Test.YtclhmmgdhagloaaGreatDoorEBkV
import Derived.Test.YtclhmmgdhagloaaGreatDoorMQEPrtV
import Derived.Test.YtclhmmgdhagloaaGreatDoorMWGParse
namespace Go.Proofs.YtclhmmgdhagloaaGreatDoor
open Go.RowKit Go.Shelf
attribute [local go_sem] cell?_more frozen?_more setCell_more more_lt more_more more_drew more_drewN setCell_drewN alloc_drewN

set_option maxHeartbeats 2000000 in
theorem vparse_from (t : List UInt8) (w : World) (T : ∀ W, Below w.heap.size w W → Calls Tryz.prog 197 #[.string ⟨t.toArray⟩] W fun e w' => (∃ v, e = .returned (.tuple #[vv v, .bool false])) ∧ Below W.heap.size W w') :
    Calls Tryz.prog 134 #[.string ⟨t.toArray⟩] w fun e w' => e = .returned (dpR none) ∧ Below w.heap.size w w' := by
  show Calls _ _ _ _ fun e w' => e = .returned (.tuple #[va 0 0 0 ⟨#[]⟩, .int .i64 21]) ∧ _
  have A0 : Below w.heap.size w (w.alloc (.cells #[.int .i64 0, .int .i64 0, .int .i64 0, .string ⟨#[]⟩] 42)) := (Below.refl _ w).alloc (Nat.le_refl _) _
  have T1 := T _ A0
  clear T
  generalize ByteArray.mk t.toArray = B at *
  go_enter Tryz.func134, Tryz.ntmps134
  go_wp2_with fail
  refine T1.mono ?_
  rintro e w1 ⟨⟨⟨k, n, m, b⟩, rfl⟩, b1⟩
  have bx : Box w1 w.heap.size ⟨0, 0, 0, []⟩ := (Box.new w 0 0 0 []).later b1
  have B1 : Below w.heap.size w w1 := below_trans A0 b1
  have s1 := B1.size
  obtain ⟨c0, c1, c2, c3⟩ := bx.at4
  have f0 := bx.free 0
  have f1 := bx.free 1
  have f2 := bx.free 2
  have f3 := bx.free 3
  have lt1 := bx.lt
  clear b1 bx T1
  go_wp2
  refine bodyPost_ret_by (v := .tuple #[va 0 0 0 ⟨#[]⟩, .int .i64 21]) ?_ rfl ⟨rfl, ?_⟩
  · simp [results, Tryz.results134, go_sem, c0, c1, c2, c3, lt1]
  · refine Below.alloc ?_ (by simp; omega) _
    exact (((B1.setCell (p := ⟨w.heap.size, 0, none⟩) (Nat.le_refl _) _).setCell (p := ⟨w.heap.size, 1, none⟩) (Nat.le_refl _) _).setCell (p := ⟨w.heap.size, 2, none⟩) (Nat.le_refl _) _).setCell (p := ⟨w.heap.size, 3, none⟩) (Nat.le_refl _) _

set_option maxHeartbeats 2000000 in
theorem vparse_yes (t : List UInt8) (k n m : Int) (w : World) (T : ∀ W, Calls Tryz.prog 197 #[.string ⟨t.toArray⟩] W fun e w' => e = .returned (.tuple #[va k n m ⟨#[]⟩, .bool true]) ∧ Below W.heap.size W w')
    (P : ∀ W, Below w.heap.size w W → Calls Tryz.prog 62 #[va k n m ⟨#[]⟩] W fun e w' => e = .returned (.string ⟨t.toArray⟩) ∧ Below W.heap.size W w') :
    Calls Tryz.prog 134 #[.string ⟨t.toArray⟩] w fun e w' => e = .returned (dpR (some ⟨k, n, m, []⟩)) ∧ Below w.heap.size w w' := by
  show Calls _ _ _ _ fun e w' => e = .returned (.tuple #[va k n m ⟨#[]⟩, .int .i64 0]) ∧ _
  have A0 : Below w.heap.size w (w.alloc (.cells #[.int .i64 0, .int .i64 0, .int .i64 0, .string ⟨#[]⟩] 42)) := (Below.refl _ w).alloc (Nat.le_refl _) _
  generalize ByteArray.mk t.toArray = B at *
  go_enter Tryz.func134, Tryz.ntmps134
  go_wp2_with fail
  refine (T _).mono ?_
  rintro e w1 ⟨rfl, b1⟩
  have bx : Box w1 w.heap.size ⟨0, 0, 0, []⟩ := (Box.new w 0 0 0 []).later b1
  have B1 : Below w.heap.size w w1 := below_trans A0 b1
  have A2 : Below w1.heap.size w1 (w1.alloc (.cells #[.int .i64 k, .int .i64 n, .int .i64 m, .string ⟨#[]⟩] 42)) := (Below.refl _ _).alloc (Nat.le_refl _) _
  have bv := Box.new w1 k n m []
  have B2 := below_trans B1 A2
  have bx2 := bx.later A2
  have P1 := P _ B2
  obtain ⟨v0, v1, v2, v3⟩ := bv.at4
  have vl := bv.lt
  dsimp only at v0 v1 v2 v3
  simp only [Nat.zero_add] at v1 v2 v3
  clear T P b1
  go_upto_region 2 with fail
  generalize w1.alloc (.cells #[.int .i64 k, .int .i64 n, .int .i64 m, .string ⟨#[]⟩] 42) = w2 at *
  go_wp2_with fail
  refine P1.mono ?_
  rintro e w3 ⟨rfl, b3⟩
  have B3 := below_trans B2 b3
  have bx3 := bx2.later b3
  have bv3 := bv.later b3
  obtain ⟨c0, c1, c2, c3⟩ := bx3.at4
  have f0 := bx3.free 0
  have f1 := bx3.free 1
  have f2 := bx3.free 2
  have f3 := bx3.free 3
  have lt1 := bx3.lt
  obtain ⟨u0, u1, u2, u3⟩ := bv3.at4
  have ul := bv3.lt
  dsimp only at u0 u1 u2 u3 c0 c1 c2 c3
  simp only [Nat.zero_add] at u1 u2 u3 c1 c2 c3
  clear v0 v1 v2 v3 vl bx bx2 bx3 bv bv3 P1
  go_wp2
  refine bodyPost_ret_by (v := .tuple #[va k n m ⟨#[]⟩, .int .i64 0]) ?_ rfl ⟨rfl, ?_⟩
  · simp [results, Tryz.results134, go_sem, c0, c1, c2, c3]
  · exact (((B3.setCell (p := ⟨w.heap.size, 0, none⟩) (Nat.le_refl _) _).setCell (p := ⟨w.heap.size, 1, none⟩) (Nat.le_refl _) _).setCell (p := ⟨w.heap.size, 2, none⟩) (Nat.le_refl _) _).setCell (p := ⟨w.heap.size, 3, none⟩) (Nat.le_refl _) _

set_option maxHeartbeats 2000000 in
theorem told_null (w : World) : Calls Tryz.prog 197 #[.string ⟨wNull.toArray⟩] w fun e w' => e = .returned (.tuple #[va 0 0 0 ⟨#[]⟩, .bool true]) ∧ Below w.heap.size w w' := by
  have A0 : Below w.heap.size w (w.alloc (.cells #[.int .i64 0, .int .i64 0, .int .i64 0, .string ⟨#[]⟩] 42)) := (Below.refl _ w).alloc (Nat.le_refl _) _
  have bx := Box.new w 0 0 0 []
  go_enter Tryz.func197, Tryz.ntmps197
  go_wp2
  refine bodyPost_ret_by (v := .tuple #[va 0 0 0 ⟨#[]⟩, .bool true]) ?_ rfl ⟨rfl, ?_⟩
  · simp [results, Tryz.results197, go_sem]
  · first
      | exact A0
      | exact (((A0.setCell (p := ⟨w.heap.size, 0, none⟩) (Nat.le_refl _) _).setCell (p := ⟨w.heap.size, 1, none⟩) (Nat.le_refl _) _).setCell (p := ⟨w.heap.size, 2, none⟩) (Nat.le_refl _) _).setCell (p := ⟨w.heap.size, 3, none⟩) (Nat.le_refl _) _
set_option maxHeartbeats 2000000 in
theorem told_bool (b : Bool) (w : World) : Calls Tryz.prog 197 #[.string ⟨(if b then wTrue else wFalse).toArray⟩] w fun e w' => e = .returned (.tuple #[va 4 (if b then 1 else 0) 0 ⟨#[]⟩, .bool true]) ∧ Below w.heap.size w w' := by
  have A0 : Below w.heap.size w (w.alloc (.cells #[.int .i64 0, .int .i64 0, .int .i64 0, .string ⟨#[]⟩] 42)) := (Below.refl _ w).alloc (Nat.le_refl _) _
  have bx := Box.new w 0 0 0 []
  have O1 : ∀ W, Calls Tryz.prog 113 #[.int .i64 1] W fun e w' => e = .returned (va 4 1 0 ⟨#[]⟩) ∧ Grew W w' := fun W => of_any 1 W
  have O0 : ∀ W, Calls Tryz.prog 113 #[.int .i64 0] W fun e w' => e = .returned (va 4 0 0 ⟨#[]⟩) ∧ Grew W w' := fun W => of_any 0 W
  cases b with
  | true =>
    show Calls _ _ #[.string ⟨#[116, 114, 117, 101]⟩] _ fun e w' => e = .returned (.tuple #[va 4 1 0 ⟨#[]⟩, .bool true]) ∧ _
    go_enter Tryz.func197, Tryz.ntmps197
    go_wp2_with fail
    refine (O1 _).mono ?_
    rintro e w1 ⟨rfl, g1⟩
    have B1 := below_trans A0 g1.below
    have bx1 := bx.later g1.below
    obtain ⟨c0, c1, c2, c3⟩ := bx1.at4
    have f0 := bx1.free 0
    have f1 := bx1.free 1
    have f2 := bx1.free 2
    have f3 := bx1.free 3
    have lt1 := bx1.lt
    dsimp only at c0 c1 c2 c3
    simp only [Nat.zero_add] at c1 c2 c3
    clear bx bx1
    go_wp2
    refine bodyPost_ret_by (v := .tuple #[va 4 1 0 ⟨#[]⟩, .bool true]) ?_ rfl ⟨rfl, ?_⟩
    · simp [results, Tryz.results197, go_sem, c0, c1, c2, c3]
    · exact (((B1.setCell (p := ⟨w.heap.size, 0, none⟩) (Nat.le_refl _) _).setCell (p := ⟨w.heap.size, 1, none⟩) (Nat.le_refl _) _).setCell (p := ⟨w.heap.size, 2, none⟩) (Nat.le_refl _) _).setCell (p := ⟨w.heap.size, 3, none⟩) (Nat.le_refl _) _
  | false =>
    show Calls _ _ #[.string ⟨#[102, 97, 108, 115, 101]⟩] _ fun e w' => e = .returned (.tuple #[va 4 0 0 ⟨#[]⟩, .bool true]) ∧ _
    go_enter Tryz.func197, Tryz.ntmps197
    go_wp2_with fail
    refine (O0 _).mono ?_
    rintro e w1 ⟨rfl, g1⟩
    have B1 := below_trans A0 g1.below
    have bx1 := bx.later g1.below
    obtain ⟨c0, c1, c2, c3⟩ := bx1.at4
    have f0 := bx1.free 0
    have f1 := bx1.free 1
    have f2 := bx1.free 2
    have f3 := bx1.free 3
    have lt1 := bx1.lt
    dsimp only at c0 c1 c2 c3
    simp only [Nat.zero_add] at c1 c2 c3
    clear bx bx1
    go_wp2
    refine bodyPost_ret_by (v := .tuple #[va 4 0 0 ⟨#[]⟩, .bool true]) ?_ rfl ⟨rfl, ?_⟩
    · simp [results, Tryz.results197, go_sem, c0, c1, c2, c3]
    · exact (((B1.setCell (p := ⟨w.heap.size, 0, none⟩) (Nat.le_refl _) _).setCell (p := ⟨w.heap.size, 1, none⟩) (Nat.le_refl _) _).setCell (p := ⟨w.heap.size, 2, none⟩) (Nat.le_refl _) _).setCell (p := ⟨w.heap.size, 3, none⟩) (Nat.le_refl _) _

set_option maxHeartbeats 2000000 in
/-- A text that begins with '<' and is no point. -/
theorem told_less6 (t : List UInt8) (w : World) (hl : t.length ≤ 4096) (h39 : (t.head? == some 39) = false) (h60 : (t.head? == some 60) = true) (n1 : ((ByteArray.mk t.toArray).toList == [110, 117, 108, 108]) = false) (n2 : ((ByteArray.mk t.toArray).toList == [116, 114, 117, 101]) = false) (n3 : ((ByteArray.mk t.toArray).toList == [102, 97, 108, 115, 101]) = false)
    (G : ∀ W, Below w.heap.size w W → Calls Tryz.prog 247 #[.string ⟨t.toArray⟩] W fun e w' => e = .returned (.tuple #[.agg #[.int .i64 0, .int .i64 0], .int .i64 21]) ∧ Below W.heap.size W w') :
    Calls Tryz.prog 197 #[.string ⟨t.toArray⟩] w fun e w' => (∃ v, e = .returned (.tuple #[vv v, .bool false])) ∧ Below w.heap.size w w' := by
  have H39 : ∀ W, Calls Tryz.prog 245 #[.string ⟨t.toArray⟩, .string ⟨#[39]⟩] W fun e w' => e = .returned (.bool (t.head? == some 39)) ∧ W = w' := fun W => prefix_any ⟨t.toArray⟩ 39 W (by show t.length ≤ _; omega)
  have H60 : ∀ W, Calls Tryz.prog 245 #[.string ⟨t.toArray⟩, .string ⟨#[60]⟩] W fun e w' => e = .returned (.bool (t.head? == some 60)) ∧ W = w' := fun W => prefix_any ⟨t.toArray⟩ 60 W (by show t.length ≤ _; omega)
  rw [h60] at H60
  rw [h39] at H39
  have HE : Hid (∃ v, Ending.returned (.tuple #[va 5 0 0 ⟨#[]⟩, .bool false]) = .returned (.tuple #[vv v, .bool false])) := ⟨⟨5, 0, 0, []⟩, rfl⟩
  have A0 : Below w.heap.size w (w.alloc (.cells #[.int .i64 0, .int .i64 0, .int .i64 0, .string ⟨#[]⟩] 42)) := (Below.refl _ w).alloc (Nat.le_refl _) _
  have G1 := G _ A0
  clear h39 h60 hl G
  generalize ByteArray.mk t.toArray = B at *
  go_enter Tryz.func197, Tryz.ntmps197
  go_wp2_with (first
    | (go_at_call 245; with_reducible refine (H39 _).mono ?_; rintro e w' ⟨rfl, rfl⟩)
    | (go_at_call 245; with_reducible refine (H60 _).mono ?_; rintro e w' ⟨rfl, rfl⟩)
    | (go_at_call 247; refine G1.mono ?_; rintro e w1 ⟨rfl, b1⟩; have bx : Box w1 w.heap.size ⟨0, 0, 0, []⟩ := (Box.new w 0 0 0 []).later b1; obtain ⟨c0, c1, c2, c3⟩ := bx.at4; have f0 := bx.free 0; have f1 := bx.free 1; have f2 := bx.free 2; have f3 := bx.free 3; have lt1 := bx.lt; clear bx))
  refine bodyPost_ret_by (v := .tuple #[va 5 0 0 ⟨#[]⟩, .bool false]) ?_ rfl ⟨HE.out, ?_⟩
  · simp [results, Tryz.results197, go_sem, c0, c1, c2, c3, lt1]
  · have b0 : Below w.heap.size w w1 := below_trans A0 b1
    have s1 := b0.size
    exact Below.alloc ((((b0.setCell (p := ⟨w.heap.size, 0, none⟩) (Nat.le_refl _) _).setCell (p := ⟨w.heap.size, 1, none⟩) (Nat.le_refl _) _).setCell (p := ⟨w.heap.size, 2, none⟩) (Nat.le_refl _) _).setCell (p := ⟨w.heap.size, 3, none⟩) (Nat.le_refl _) _) (by simp; omega) _
theorem PR_word {t : List UInt8} (h : wordL t = true) : PR (trimP t) = none := by
  obtain ⟨c, l, rfl, hc⟩ := word_first h
  obtain ⟨n39, nD, n45, n46, _⟩ := letter_no hc
  have htr : ∃ l', trimP (c :: l) = c :: l' := by
    unfold trimP
    split
    · cases l with
      | nil => rename_i h; simp at h; exact absurd h n46
      | cons d l => exact ⟨_, rfl⟩
    · exact ⟨l, rfl⟩
  obtain ⟨l', hl'⟩ := htr
  rw [hl']
  have hcut : ∃ a, (cutPt (c :: l')).1 = c :: a := by unfold cutPt; rw [if_neg n46]; exact ⟨_, rfl⟩
  obtain ⟨a, ha⟩ := hcut
  unfold PR
  rw [if_neg (show ¬ (c :: l').head? = some 45 by simp; exact n45)]
  split
  · have hlt : (tellF ((cutPt (c :: l')).1 ++ (cutPt (c :: l')).2.1) 0 0).2 < ((cutPt (c :: l')).1 ++ (cutPt (c :: l')).2.1).length := by
      rw [ha]
      unfold isD at nD
      simp at nD
      show (tellF (c :: (a ++ _)) 0 0).2 < _
      unfold tellF
      rw [if_pos (by omega)]
      simp
    rw [if_pos (.inl hlt)]
  · rfl
theorem ba_ne (t : List UInt8) (u : List UInt8) (h : t ≠ u) : ((ByteArray.mk t.toArray).toList == u) = false := by
  rw [ByteArray.toList_eq, beq_eq_false_iff_ne]
  exact h
theorem vE_none {t : List UInt8} (h1 : t ≠ wNull) (h2 : t ≠ wTrue) (h3 : t ≠ wFalse) (h4 : litB t = false) : vE t = none := by
  unfold vE
  rw [if_neg h1, if_neg h2, if_neg h3, if_neg (by rw [h4]; simp)]
theorem less_tok (t : List UInt8) (w : World) (tp : TypeId) (p : Value) (hE : Esy w tp p) (h : t = [60, 62] ∨ t = [60] ∨ t = [60, 61]) : Calls Tryz.prog 134 #[.string ⟨t.toArray⟩] w fun e w' => e = .returned (dpR (vE t)) ∧ Below w.heap.size w w' := by
  have hv : vE t = none := by rcases h with rfl | rfl | rfl <;> rfl
  rw [hv]
  refine vparse_from t w fun W hW => ?_
  refine told_less6 t W (by rcases h with rfl | rfl | rfl <;> simp) (by rcases h with rfl | rfl | rfl <;> rfl) (by rcases h with rfl | rfl | rfl <;> rfl) (ba_ne _ _ (by rcases h with rfl | rfl | rfl <;> decide)) (ba_ne _ _ (by rcases h with rfl | rfl | rfl <;> decide)) (ba_ne _ _ (by rcases h with rfl | rfl | rfl <;> decide)) fun V hV => ?_
  have hE' := hE.later (below_trans hW hV)
  rcases h with rfl | rfl | rfl
  · exact gparse_no [60, 62] V tp p hE' (by simp) [] [] false (by decide +kernel) (by simp) (by simp) (by decide +kernel) (by decide +kernel) (by decide +kernel)
  · exact gparse_no [60] V tp p hE' (by simp) [] [] false (by decide +kernel) (by simp) (by simp) (by decide +kernel) (by decide +kernel) (by decide +kernel)
  · exact gparse_no [60, 61] V tp p hE' (by simp) [61] [] false (by decide +kernel) (by simp) (by simp) (by decide +kernel) (by decide +kernel) (by decide +kernel)
/-- What datum.Parse tells of each token. -/
theorem vparse_tok (t : List UInt8) (w : World) (hT : Tabs w) (hP : Ptab w) (tp : TypeId) (p : Value) (hE : Esy w tp p) (hl : t.length ≤ 4096) (h : Tok1 t) : Calls Tryz.prog 134 #[.string ⟨t.toArray⟩] w fun e w' => e = .returned (dpR (vE t)) ∧ Below w.heap.size w w' := by
  by_cases hn : t = wNull
  · subst hn
    exact vparse_yes wNull 0 0 0 w (fun W => told_null W) (fun W h => vprint_lit ⟨0, 0, 0, []⟩ W (hT.later h) (hP.later h) (by decide +kernel) (by simp) (.inl rfl))
  by_cases ht : t = wTrue
  · subst ht
    exact vparse_yes wTrue 4 1 0 w (fun W => told_bool true W) (fun W h => vprint_lit ⟨4, 1, 0, []⟩ W (hT.later h) (hP.later h) (by decide +kernel) (by simp) (.inr (.inr (.inr (.inr rfl)))))
  by_cases hf : t = wFalse
  · subst hf
    exact vparse_yes wFalse 4 0 0 w (fun W => told_bool false W) (fun W h => vprint_lit ⟨4, 0, 0, []⟩ W (hT.later h) (hP.later h) (by decide +kernel) (by simp) (.inr (.inr (.inr (.inr rfl)))))
  by_cases hlit : litH t
  · rw [lit_val hlit]
    exact vparse_any t w (by omega) hlit hT hP
  have hlb : litB t = false := by
    cases hb : litB t with
    | false => rfl
    | true => exact absurd ((litB_iff t).1 hb) hlit
  by_cases h60 : t = [60, 62] ∨ t = [60] ∨ t = [60, 61]
  · exact less_tok t w tp p hE h60
  rw [vE_none hn ht hf hlb]
  have h39' : (t.head? == some 39) = false := by
    cases t with
    | nil => rfl
    | cons c l =>
      simp [litB] at hlb
      simp; exact hlb.1
  have key : (t.head? == some 60) = false ∧ PR (trimP t) = none := by
    rcases h with rfl | rfl | rfl | rfl | rfl | ⟨op, h6, h18, rfl⟩ | hw | hli
    · exact ⟨rfl, by decide +kernel⟩
    · exact ⟨rfl, by decide +kernel⟩
    · exact ⟨rfl, by decide +kernel⟩
    · exact ⟨rfl, by decide +kernel⟩
    · exact ⟨rfl, by decide +kernel⟩
    · match op, h6, h18 with
      | 6, _, _ => exact ⟨rfl, by decide +kernel⟩
      | 7, _, _ => exact ⟨rfl, by decide +kernel⟩
      | 8, _, _ => exact ⟨rfl, by decide +kernel⟩
      | 9, _, _ => exact ⟨rfl, by decide +kernel⟩
      | 10, _, _ => exact ⟨rfl, by decide +kernel⟩
      | 11, _, _ => exact ⟨rfl, by decide +kernel⟩
      | 12, _, _ => exact absurd (.inl rfl) h60
      | 13, _, _ => exact absurd (.inr (.inl rfl)) h60
      | 14, _, _ => exact absurd (.inr (.inr rfl)) h60
      | 15, _, _ => exact ⟨rfl, by decide +kernel⟩
      | 16, _, _ => exact ⟨rfl, by decide +kernel⟩
      | 17, _, _ => exact ⟨rfl, by decide +kernel⟩
      | 18, _, _ => exact ⟨rfl, by decide +kernel⟩
      | op + 19, _, h => omega
    · refine ⟨?_, PR_word hw⟩
      obtain ⟨c, l, rfl, hc⟩ := word_first hw
      simp; exact (letter_no hc).2.2.2.2
    · exact absurd hli hlit
  exact vparse_no t w (by omega) h39' key.1 (ba_ne _ _ hn) (ba_ne _ _ ht) (ba_ne _ _ hf) key.2
end Go.Proofs.YtclhmmgdhagloaaGreatDoor
